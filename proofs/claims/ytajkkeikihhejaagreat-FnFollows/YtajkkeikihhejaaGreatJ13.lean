/- Contracts of the two functions that write an object's text. -/
import Derived.Test.YtajkkeikihhejaaGreatSq
import Derived.Test.YtajkkeikihhejaaGreatJ12
import Derived.Test.YtajkkeikihhejaaGreatJ4
import Derived.Deep.RegionHeld3
import Derived.Deep.DrawnRows
open Go.Proofs.Tryz
namespace Go.Proofs.YtajkkeikihhejaaGreat
open ChangeShapes WideShapes ChangeAt RowKit
open Pl
theorem yN(t i:bQ)(w:af)(ht:t.size<=maxLen)(hi:i.size<=maxLen):
  Calls prog 225 #[.agg #[.string t,.string i]] w fun e w'=>e=.returned (.string (aD t i))/\ae w w':=by
 by_cases hn:fw t i=true
 ·obtain⟨h1,h2⟩:=zh hn;have HT:Hid (aD t i=t++⟨#[58]⟩++i):=mR hn;go_enter func225,ntmps225;go_wp2_with(go_at_call 110;refine(dZ _ _ _ ht hi).mono ?_;rintro e w' ⟨rfl,hb⟩;obtain⟨hc,hf⟩:=jU hb);go_ret;exact⟨gF HT.out.symm,((UV _ _).alloc (UU _) _).trans (hb.mono (by simp))⟩
 have hn':fw t i=false:=by simpa using hn
 have HT:Hid (aD t i=⟨#[]⟩):=tN hn';clear hn;go_enter func225,ntmps225;go_wp2_with(go_at_call 110;refine(dZ _ _ _ ht hi).mono ?_;rintro e w' ⟨rfl,hb⟩;obtain⟨hc,hf⟩:=jU hb);go_ret;exact⟨gF HT.out.symm,((UV _ _).alloc (UU _) _).trans (hb.mono (by simp))⟩
theorem yO(t i:bQ)(w:af)(ht:t.size<=maxLen)(hi:i.size<=maxLen):
  Calls prog 207 #[.agg #[.string t,.string i]] w fun e w'=>e=.returned (.string (aD t i))/\ae w w':=by
 by_cases hn:fw t i=true
 ·obtain⟨h1,h2⟩:=zh hn;have HT:Hid (aD t i=t++⟨#[58]⟩++i):=mR hn;go_enter func207,ntmps207;go_wp2_with(go_at_call 161;refine(gy _ _ _ ht hi).mono ?_;rintro e w' ⟨rfl,hb⟩;obtain⟨hc,hf⟩:=jU hb);go_ret;exact⟨gF HT.out.symm,((UV _ _).alloc (UU _) _).trans (hb.mono (by simp))⟩
 have hn':fw t i=false:=by simpa using hn
 have HT:Hid (aD t i=⟨#[]⟩):=tN hn';clear hn;go_enter func207,ntmps207;go_wp2_with(go_at_call 161;refine(gy _ _ _ ht hi).mono ?_;rintro e w' ⟨rfl,hb⟩;obtain⟨hc,hf⟩:=jU hb);go_ret;exact⟨gF HT.out.symm,((UV _ _).alloc (UU _) _).trans (hb.mono (by simp))⟩
theorem Dk(s:bQ)(w:af)(hs:s.size<=maxLen):
  Calls prog 163 #[.string s] w fun e w'=>e=.returned (.bool (tO s))/\w'=w:=by
 go_enter func163,ntmps163;go_wp2_with(go_at_call 162;refine(aP _ _ hs).mono ?_;rintro e w' ⟨rfl,rfl⟩)
 all_goals go_ret
 all_goals exact⟨ah (by simp[tO, *]),rfl⟩
theorem d9(a b r c d s:bQ)(w:af)(ha:a.size<=maxLen)(hb:b.size<=maxLen)(hr:r.size<=maxLen)(hc:c.size<=maxLen)(hd:d.size<=maxLen)(hs:s.size<=maxLen):
  Calls prog 127 #[.agg #[.string a,.string b,.string r,.string c,.string d,.string s]] w fun e w'=>e=.returned (.bool (cO a b r c d s))/\ae w w':=by
 by_cases h1:fw a b=true
 ·by_cases h2:aT r=true
  ·by_cases h3:fw c d=true
   ·have HT:Hid (cO a b r c d s=tO s):=zM h1 h2 h3;go_enter func127,ntmps127;go_wp2_with fail;refine(dZ _ _ _ ha hb).mono ?_;rintro e w1 ⟨rfl,hb1⟩;obtain⟨hc1,hf1⟩:=jU hb1;have hz1:w.heap.size<w1.heap.size:=by have:=hb1.size;simp at this;omega
    go_wp2_with fail;refine(aS _ _ hr).mono ?_;rintro e w1' ⟨rfl,rfl⟩;go_wp2_with fail;refine(dZ _ _ _ hc hd).mono ?_;rintro e w2 ⟨rfl,hb2⟩;obtain⟨hc2,hf2⟩:=jU hb2;have hz2:w.heap.size<w2.heap.size:=by have:=hb2.size;omega
    go_wp2_with(go_at_call 111;refine(aS _ _ hs).mono ?_;rintro e w3 ⟨rfl,rfl⟩)
    all_goals go_ret
    all_goals exact⟨ah (HT.out.trans (by simp[tO, *])).symm,((UV _ _).alloc (UU _) _).trans ((hb1.mono (by simp)).trans (hb2.mono (by omega)))⟩
   have h3':fw c d=false:=by simpa using h3
   have HT:Hid (cO a b r c d s=false):=zL h3';clear h3;go_enter func127,ntmps127;go_wp2_with fail;refine(dZ _ _ _ ha hb).mono ?_;rintro e w1 ⟨rfl,hb1⟩;obtain⟨hc1,hf1⟩:=jU hb1;have hz1:w.heap.size<w1.heap.size:=by have:=hb1.size;simp at this;omega
   go_wp2_with fail;refine(aS _ _ hr).mono ?_;rintro e w1' ⟨rfl,rfl⟩;go_wp2_with fail;refine(dZ _ _ _ hc hd).mono ?_;rintro e w2 ⟨rfl,hb2⟩;go_wp2;go_ret;exact⟨ah HT.out.symm,((UV _ _).alloc (UU _) _).trans ((hb1.mono (by simp)).trans (hb2.mono (by omega)))⟩
  have h2':aT r=false:=by simpa using h2
  have HT:Hid (cO a b r c d s=false):=zJ h2';clear h2;go_enter func127,ntmps127;go_wp2_with fail;refine(dZ _ _ _ ha hb).mono ?_;rintro e w1 ⟨rfl,hb1⟩;obtain⟨hc1,hf1⟩:=jU hb1;go_wp2_with fail;refine(aS _ _ hr).mono ?_;rintro e w1' ⟨rfl,rfl⟩;go_wp2;go_ret;exact⟨ah HT.out.symm,((UV _ _).alloc (UU _) _).trans (hb1.mono (by simp))⟩
 have h1':fw a b=false:=by simpa using h1
 have HT:Hid (cO a b r c d s=false):=zI h1';clear h1;go_enter func127,ntmps127;go_wp2_with fail;refine(dZ _ _ _ ha hb).mono ?_;rintro e w1 ⟨rfl,hb1⟩;go_wp2;go_ret;exact⟨ah HT.out.symm,((UV _ _).alloc (UU _) _).trans (hb1.mono (by simp))⟩
theorem fG(a b r c d s:bQ)(w:af)(ha:a.size<=maxLen)(hb:b.size<=maxLen)(hr:r.size<=maxLen)(hc:c.size<=maxLen)(hd:d.size<=maxLen)(hs:s.size<=maxLen):
  Calls prog 108 #[.agg #[.string a,.string b,.string r,.string c,.string d,.string s]] w fun e w'=>e=.returned (.bool (cO a b r c d s))/\ae w w':=by
 by_cases h1:fw a b=true
 ·by_cases h2:aT r=true
  ·by_cases h3:fw c d=true
   ·have HT:Hid (cO a b r c d s=tO s):=zM h1 h2 h3;go_enter func108,ntmps108;go_wp2_with fail;refine(gy _ _ _ ha hb).mono ?_;rintro e w1 ⟨rfl,hb1⟩;obtain⟨hc1,hf1⟩:=jU hb1;have hz1:w.heap.size<w1.heap.size:=by have:=hb1.size;simp at this;omega
    go_wp2_with fail;refine(aP _ _ hr).mono ?_;rintro e w1' ⟨rfl,rfl⟩;go_wp2_with fail;refine(gy _ _ _ hc hd).mono ?_;rintro e w2 ⟨rfl,hb2⟩;obtain⟨hc2,hf2⟩:=jU hb2;have hz2:w.heap.size<w2.heap.size:=by have:=hb2.size;omega
    go_wp2_with(go_at_call 163;refine(Dk _ _ hs).mono ?_;rintro e w3 ⟨rfl,rfl⟩)
    all_goals go_ret
    all_goals exact⟨ah (HT.out.trans (by simp[tO, *])).symm,((UV _ _).alloc (UU _) _).trans ((hb1.mono (by simp)).trans (hb2.mono (by omega)))⟩
   have h3':fw c d=false:=by simpa using h3
   have HT:Hid (cO a b r c d s=false):=zL h3';clear h3;go_enter func108,ntmps108;go_wp2_with fail;refine(gy _ _ _ ha hb).mono ?_;rintro e w1 ⟨rfl,hb1⟩;obtain⟨hc1,hf1⟩:=jU hb1;have hz1:w.heap.size<w1.heap.size:=by have:=hb1.size;simp at this;omega
   go_wp2_with fail;refine(aP _ _ hr).mono ?_;rintro e w1' ⟨rfl,rfl⟩;go_wp2_with fail;refine(gy _ _ _ hc hd).mono ?_;rintro e w2 ⟨rfl,hb2⟩;go_wp2;go_ret;exact⟨ah HT.out.symm,((UV _ _).alloc (UU _) _).trans ((hb1.mono (by simp)).trans (hb2.mono (by omega)))⟩
  have h2':aT r=false:=by simpa using h2
  have HT:Hid (cO a b r c d s=false):=zJ h2';clear h2;go_enter func108,ntmps108;go_wp2_with fail;refine(gy _ _ _ ha hb).mono ?_;rintro e w1 ⟨rfl,hb1⟩;obtain⟨hc1,hf1⟩:=jU hb1;go_wp2_with fail;refine(aP _ _ hr).mono ?_;rintro e w1' ⟨rfl,rfl⟩;go_wp2;go_ret;exact⟨ah HT.out.symm,((UV _ _).alloc (UU _) _).trans (hb1.mono (by simp))⟩
 have h1':fw a b=false:=by simpa using h1
 have HT:Hid (cO a b r c d s=false):=zI h1';clear h1;go_enter func108,ntmps108;go_wp2_with fail;refine(gy _ _ _ ha hb).mono ?_;rintro e w1 ⟨rfl,hb1⟩;go_wp2;go_ret;exact⟨ah HT.out.symm,((UV _ _).alloc (UU _) _).trans (hb1.mono (by simp))⟩
structure Tp where
 a:ByteArray
 b:ByteArray
 r:ByteArray
 c:ByteArray
 d:ByteArray
 s:ByteArray
abbrev Q05:=List Tp
def Tp.fits(t:Tp):Prop:=t.a.size<=maxLen/\t.b.size<=maxLen/\t.r.size<=maxLen/\t.c.size<=maxLen/\t.d.size<=maxLen/\t.s.size<=maxLen
def SC(w:World)(b off:Nat)(t:Tp):Prop :=
 w.cell? ⟨b,off,none⟩=some (.string t.a)/\w.cell? ⟨b,off+1,none⟩=some (.string t.b)/\w.cell? ⟨b,off+2,none⟩=some (.string t.r) /\
 w.cell? ⟨b,off+3,none⟩=some (.string t.c)/\w.cell? ⟨b,off+4,none⟩=some (.string t.d)/\w.cell? ⟨b,off+5,none⟩=some (.string t.s)
def kW(w:World)(b off:Nat)(ts:Q05):Prop:=∀(i:Nat) (h:i<ts.length),SC w b (off+i*6) ts[i]
def Sl(w:World)(ad:Q02)(ts:Q05):Prop:=ts=[] \/ ∃b off,ad=some ⟨b,off,none⟩/\b<w.heap.size/\kW w b off ts
theorem SC.same{w w':af}{b off:Nat}{t:Tp}(h:SC w b off t)(hc:∀o,w'.cell? ⟨b,o,none⟩=w.cell? ⟨b,o,none⟩):SC w' b off t:=by
 obtain⟨h0,h1,h2,h3,h4,h5⟩:=h;exact⟨(hc _).trans h0,(hc _).trans h1,(hc _).trans h2,(hc _).trans h3,(hc _).trans h4,(hc _).trans h5⟩
theorem kW.below{w w':af}{b off B:Nat}{ts:Q05}(h:kW w b off ts)(hB:Below B w w')(hb:b<B):kW w' b off ts :=
 fun i hi=>(h i hi).same fun o=>hB.cell (p:=⟨b,o,none⟩) hb
theorem Sl.below{w w':af}{ad:Q02}{ts:Q05}(h:Sl w ad ts)(hB:ae w w'):Sl w' ad ts:=by
 rcases h with h|⟨b,off,e,hb,hr⟩
 ·exact .inl h
 exact .inr ⟨b,off,e,UT hb hB.size,hr.below hB hb⟩
def Ar(w:World)(g o:Nat)(t:Tp):World :=
 (((((w.setCell ⟨g,o,none⟩ (.string t.a)).setCell ⟨g,o+1,none⟩ (.string t.b)).setCell ⟨g,o+2,none⟩ (.string t.r)).setCell ⟨g,o+3,none⟩ (.string t.c)).setCell ⟨g,o+4,none⟩ (.string t.d)).setCell ⟨g,o+5,none⟩ (.string t.s)
theorem kX{w:af}{g i j:Nat}{v:Value}(h:i≠j):(w.setCell ⟨g,i,none⟩ v).cell? ⟨g,j,none⟩=w.cell? ⟨g,j,none⟩:=by
 apply World.cell?_setCell_other;intro e;exact h (congrArg Addr.off e)
theorem OY{w:af}{a:Addr}{v u:Value}(h:w.cell? a=some u):(w.setCell a v).cell? a=some v:=by
 apply World.cell?_setCell_same;exact h
theorem Gw(w:af)(g o:Nat)(t:Tp)(j:Nat)(h:j<o\/o+6<=j):(Ar w g o t).cell? ⟨g,j,none⟩=w.cell? ⟨g,j,none⟩:=by
 unfold Ar;rw[kX (by omega),kX (by omega),kX (by omega),kX (by omega),kX (by omega),kX (by omega)]
theorem KX{w:af}{g o:Nat}(t:Tp)(h:∀j,j<6->(w.cell? ⟨g,o+j,none⟩).isSome=true):SC (Ar w g o t) g o t:=by
 have e:∀(W:World) (i j:Nat) (v:Value),(W.cell? ⟨g,o+j,none⟩).isSome=true->((W.setCell ⟨g,o+i,none⟩ v).cell? ⟨g,o+j,none⟩).isSome=true:=by
  intro W i j v hW;by_cases hij:i=j
  ·subst hij;obtain⟨u,hu⟩:=Option.isSome_iff_exists.mp hW;rw[OY hu];rfl
  rw[kX (by omega)];exact hW
 have same:∀(W:World) (j:Nat) (v:Value),(W.cell? ⟨g,o+j,none⟩).isSome=true->(W.setCell ⟨g,o+j,none⟩ v).cell? ⟨g,o+j,none⟩=some v:=by
  intro W j v hW;obtain⟨u,hu⟩:=Option.isSome_iff_exists.mp hW;exact OY hu
 have h0:=h 0 (by omega);have h1:=h 1 (by omega);have h2:=h 2 (by omega);have h3:=h 3 (by omega);have h4:=h 4 (by omega);have h5:=h 5 (by omega);unfold Ar SC;refine⟨?_,?_,?_,?_,?_,?_⟩
 ·rw[kX (by omega),kX (by omega),kX (by omega),kX (by omega),kX (by omega)];exact same _ 0 _ h0
 ·rw[kX (by omega),kX (by omega),kX (by omega),kX (by omega)];exact same _ 1 _ (e _ 0 1 _ h1)
 ·rw[kX (by omega),kX (by omega),kX (by omega)];exact same _ 2 _ (e _ 1 2 _ (e _ 0 2 _ h2))
 ·rw[kX (by omega),kX (by omega)];exact same _ 3 _ (e _ 2 3 _ (e _ 1 3 _ (e _ 0 3 _ h3)))
 ·rw[kX (by omega)];exact same _ 4 _ (e _ 3 4 _ (e _ 2 4 _ (e _ 1 4 _ (e _ 0 4 _ h4))))
 exact same _ 5 _ (e _ 4 5 _ (e _ 3 5 _ (e _ 2 5 _ (e _ 1 5 _ (e _ 0 5 _ h5)))))
theorem Gx(w:af)(g o:Nat)(t:Tp)(x:Addr):(Ar w g o t).frozen? x=w.frozen? x:=by simp[Ar]
theorem Jj{B:Nat}{w0 w:af}{g o:Nat}{t:Tp}(h:Below B w0 w)(hg:B<=g):Below B w0 (Ar w g o t):=by
 unfold Ar;exact(((((h.setCell (by exact hg) _).setCell (by exact hg) _).setCell (by exact hg) _).setCell (by exact hg) _).setCell (by exact hg) _).setCell (by exact hg) _
theorem Md(w:af)(g o:Nat)(t:Tp):(Ar w g o t).heap.size=w.heap.size:=by simp[Ar]
structure Filling(w wr:World)(g:Nat)(ts:Q05)(k:Nat):Prop where
 below:ae w wr
 ge:w.heap.size<=g
 lt:g<wr.heap.size
 done:∀(i:Nat) (h:i<ts.length),i<k->SC wr g (0+i*6) ts[i]
 there:∀j,j<ts.length*6->(wr.cell? ⟨g,j,none⟩).isSome=true
 free:∀j,wr.frozen? ⟨g,j,none⟩=false
theorem Filling.later{w wr w1:af}{g:Nat}{ts:Q05}{k:Nat}(h:Filling w wr g ts k)(hb:ae wr w1):Filling w w1 g ts k where
 below:=h.below.trans (hb.mono h.below.size)
 ge:=h.ge
 lt:=UT h.lt hb.size
 done i hi hk:=(h.done i hi hk).same fun o=>hb.cell (p:=⟨g,o,none⟩) h.lt
 there j hj:=by rw[hb.cell (p:=⟨g,j,none⟩) h.lt];exact h.there j hj
 free j:=by rw[hb.frozen (p:=⟨g,j,none⟩) h.lt];exact h.free j
theorem Filling.put{w wr:af}{g:Nat}{ts:Q05}{k:Nat}(h:Filling w wr g ts k)(hk:k<ts.length):Filling w (Ar wr g (k*6) ts[k]) g ts (k+1) where
 below:=Jj h.below h.ge
 ge:=h.ge
 lt:=by rw[Md];exact h.lt
 done i hi hik:=by
  by_cases e:i=k
  ·subst e;rw[Vj];exact KX _ (fun j hj=>h.there _ (by omega))
  obtain⟨a0,a1,a2,a3,a4,a5⟩:=h.done i hi (by omega);refine⟨?_,?_,?_,?_,?_,?_⟩<;>(rw[Gw _ _ _ _ _ (by omega)];assumption)
 there j hj:=by
  by_cases hin:j<k*6\/k*6+6<=j
  ·rw[Gw _ _ _ _ _ hin];exact h.there j hj
  obtain⟨a0,a1,a2,a3,a4,a5⟩:=KX (w:=wr) (g:=g) (o:=k*6) ts[k] (fun j hj=>h.there _ (by omega));have hj6:j=k*6\/j=k*6+1\/j=k*6+2\/j=k*6+3\/j=k*6+4\/j=k*6+5:=by omega
  rcases hj6 with e|e|e|e|e|e
  ·rw[e,a0];rfl
  ·rw[e,a1];rfl
  ·rw[e,a2];rfl
  ·rw[e,a3];rfl
  ·rw[e,a4];rfl
  rw[e,a5];rfl
 free j:=by rw[Gx];exact h.free j
theorem Filling.row{w w':af}{g:Nat}{ts:Q05}(h:Filling w w' g ts ts.length):kW w' g 0 ts:=fun i hi=>h.done i hi hi
theorem Filling.sl{w w':af}{g:Nat}{ts:Q05}(h:Filling w w' g ts ts.length):Sl w' (some ⟨g,0,none⟩) ts:=.inr ⟨g,0,rfl,h.lt,h.row⟩
open Maps
def Me(x y:Tp):Bool:=x.a.toList==y.a.toList&&x.b.toList==y.b.toList&&x.r.toList==y.r.toList&&x.c.toList==y.c.toList&&x.d.toList==y.d.toList&&x.s.toList==y.s.toList
theorem Gy{x y:ByteArray}(k:x.toList=y.toList):x=y:=by
 rw[Go.ByteArray.toList_eq,Go.ByteArray.toList_eq]at k;obtain⟨x⟩:=x;obtain⟨y⟩:=y;exact congrArg ByteArray.mk (Array.toList_inj.1 k)
theorem OZ(x y:Tp){v:Bool}(h:Me x y=v)(w:af):
  (binOp .eql 46 (.agg #[.string x.a,.string x.b,.string x.r,.string x.c,.string x.d,.string x.s]) (.agg #[.string y.a,.string y.b,.string y.r,.string y.c,.string y.d,.string y.s])).run prog w=.ok (.bool v) w:=by
 subst h;go_simp;unfold Me
 (repeat' split)<;>simp_all
def xm(ts:Q05)(t:Tp):Bool:=ts.any fun x=>Me x t
theorem Mf{ts:Q05}{t:Tp}{k:Nat}(h:k<ts.length):xm (ts.drop k) t=(Me ts[k] t || xm (ts.drop (k+1)) t):=by
 rw[Vl h];rfl
def Tp.row(t:Tp):List Value:=[.string t.a,.string t.b,.string t.r,.string t.c,.string t.d,.string t.s]
def bW(ts:Q05):List Value:=ts.flatMap Tp.row
theorem jo:∀ts:List Tp,(bW ts).length=ts.length*6
 | []=>rfl
 | r::rs=>by have:=jo rs;simp only[bW,Tp.row,Vo,U2,Vq,VT]at this ⊢;omega
theorem vz:∀(rs:Q05) (i:Nat) (h:i<rs.length) (j:Nat),j<6->(bW rs)[i*6+j]?=(rs[i]).row[j]?
 | [],i,h,_,_=>by simp at h
 | r::rs,0,_,j,hj=>by
  simp only[bW,Vo,Nat.zero_mul,Vj,List.getElem_cons_zero];rw[VP (by simpa[Tp.row] using hj)]
 | r::rs,i+1,h,j,hj=>by
  have:=vz rs i (by simpa using h) j hj;simp only[bW,Vo,List.getElem_cons_succ]at this ⊢;rw[VN (by simp[Tp.row];omega),<-this];congr 1;simp[Tp.row];omega
theorem Au(ts:Q05)(t:Tp):bW (ts++[t])=bW ts++t.row:=by simp[bW]
theorem Av(t:Tp):∀u∈t.row,u.oneCell'=true:=by
 intro u hu;simp[Tp.row]at hu;rcases hu with rfl|rfl|rfl|rfl|rfl|rfl<;>rfl
theorem Dl(w:af)(t:Tp):∀j u,t.row[j]?=some u->(w.alloc (.cells #[.string t.a,.string t.b,.string t.r,.string t.c,.string t.d,.string t.s] 46)).cell? ((⟨w.heap.size,0,none⟩:Addr).add j)=some u:=by
 intro j u hu;rw[show(⟨w.heap.size,0,none⟩:Addr).add j=⟨w.heap.size,0+j,none⟩ by simp[Addr.add];omega,Vj];have:=World.cell?_alloc_mark w #[.string t.a,.string t.b,.string t.r,.string t.c,.string t.d,.string t.s] 46 (0,0) j;rw[this];simpa[Tp.row] using hu
theorem O0{w:af}{base n:Nat}{v:Value}{ts:Q05}(h:w.ownsRow base 46 6 v n (bW ts))(hn:n=ts.length):∃ad cap,v=.slice ad ts.length cap/\Sl w ad ts/\∀g,ad=some ⟨g,0,none⟩->base<=g/\g<w.heap.size/\jX w g:=by
 subst hn;have h2:=h;rcases h.2 with⟨rfl,h0⟩|⟨g,cap,cur,rfl,hbg,hg,hnc,-⟩
 ·exact⟨none,0,by rw[h0],.inl (Vb.1 h0),fun g e=>by cases e⟩
 have hlt:=h2.lt g rfl;refine⟨some ⟨g,0,none⟩,cap,rfl,.inr ⟨g,0,rfl,hlt.2,fun i hi=>?_⟩,fun g' e=>?_⟩
 ·have hl:=jo ts;have key:∀j,j<6->w.cell? ⟨g,0+i*6+j,none⟩=(ts[i]).row[j]?:=fun j hj=>by
   rw[h2.cellAt (0+i*6+j) (by omega),<-vz ts i hi j hj,Vj]
  exact⟨key 0 (by omega),key 1 (by omega),key 2 (by omega),key 3 (by omega),key 4 (by omega),key 5 (by omega)⟩
 injection e with e;injection e with e1 e2;subst e1;exact⟨hlt.1,hlt.2,fun y=>h2.frozenAt y⟩
theorem aJ{B:Nat}{w w':af}(hB:Below B w w'){n o:Nat}{v:Value}(hn:n<B)(h:w.cell? ⟨n,o,none⟩=some v):w'.cell? ⟨n,o,none⟩=some v:=(hB.cell (p:=⟨n,o,none⟩) hn).trans h
theorem aG{p:Prop}(h:p):Hid p:=h
theorem aY{w w':af}{base:Nat}{e:TypeId}{size:Nat}{v:Value}{n:Nat}{xs:Q03}(h:w.ownsRow base e size v n xs)(hb:ae w w'):w'.ownsRow base e size v n xs:=by
 have hl:=fun g hg=>(h.lt g hg).2;refine⟨h.1,?_⟩;rcases h.2 with h0|⟨g,cap,cur,rfl,h1,h2,h3⟩
 ·exact .inl h0
 exact .inr ⟨g,cap,cur,rfl,h1,(hb.block g (hl g rfl)).trans h2,h3⟩
end Go.Proofs.YtajkkeikihhejaaGreat
