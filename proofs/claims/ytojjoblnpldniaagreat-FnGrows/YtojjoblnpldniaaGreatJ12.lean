/- Contracts of the laws' own helpers on objects: the count of what is read, and the copy into the program's type. -/
import Derived.Test.YtojjoblnpldniaaGreatSq
import Derived.Test.YtojjoblnpldniaaGreatJ8
open Go.Proofs.Tryz
namespace Go.Proofs.YtojjoblnpldniaaGreat
open ChangeShapes WideShapes ChangeAt RowKit
open Pl
structure Tp where
 a:ByteArray
 b:ByteArray
 r:ByteArray
 c:ByteArray
 d:ByteArray
 s:ByteArray
abbrev Q05:=List Tp
def Tp.fits(t:Tp):Prop:=t.a.size<=maxLen/\t.b.size<=maxLen/\t.r.size<=maxLen/\t.c.size<=maxLen/\t.d.size<=maxLen/\t.s.size<=maxLen
def TA(w:World)(b off:Nat)(t:Tp):Prop :=
 w.cell? ⟨b,off,none⟩=some (.string t.a)/\w.cell? ⟨b,off+1,none⟩=some (.string t.b)/\w.cell? ⟨b,off+2,none⟩=some (.string t.r) /\
 w.cell? ⟨b,off+3,none⟩=some (.string t.c)/\w.cell? ⟨b,off+4,none⟩=some (.string t.d)/\w.cell? ⟨b,off+5,none⟩=some (.string t.s)
def jJ(w:World)(b off:Nat)(ts:Q05):Prop:=∀(i:Nat) (h:i<ts.length),TA w b (off+i*6) ts[i]
def Sl(w:World)(ad:Q02)(ts:Q05):Prop:=ts=[] \/ ∃b off,ad=some ⟨b,off,none⟩/\b<w.heap.size/\jJ w b off ts
theorem TA.same{w w':ae}{b off:Nat}{t:Tp}(h:TA w b off t)(hc:∀o,w'.cell? ⟨b,o,none⟩=w.cell? ⟨b,o,none⟩):TA w' b off t:=by
 obtain⟨h0,h1,h2,h3,h4,h5⟩:=h;exact⟨(hc _).trans h0,(hc _).trans h1,(hc _).trans h2,(hc _).trans h3,(hc _).trans h4,(hc _).trans h5⟩
theorem jJ.below{w w':ae}{b off B:Nat}{ts:Q05}(h:jJ w b off ts)(hB:Below B w w')(hb:b<B):jJ w' b off ts :=
 fun i hi=>(h i hi).same fun o=>hB.cell (p:=⟨b,o,none⟩) hb
theorem Sl.below{w w':ae}{ad:Q02}{ts:Q05}(h:Sl w ad ts)(hB:ag w w'):Sl w' ad ts:=by
 rcases h with h|⟨b,off,e,hb,hr⟩
 ·exact .inl h
 exact .inr ⟨b,off,e,Vq hb hB.size,hr.below hB hb⟩
def Ak(w:World)(g o:Nat)(t:Tp):World :=
 (((((w.setCell ⟨g,o,none⟩ (.string t.a)).setCell ⟨g,o+1,none⟩ (.string t.b)).setCell ⟨g,o+2,none⟩ (.string t.r)).setCell ⟨g,o+3,none⟩ (.string t.c)).setCell ⟨g,o+4,none⟩ (.string t.d)).setCell ⟨g,o+5,none⟩ (.string t.s)
theorem kU{w:ae}{g i j:Nat}{v:Value}(h:i≠j):(w.setCell ⟨g,i,none⟩ v).cell? ⟨g,j,none⟩=w.cell? ⟨g,j,none⟩:=by
 apply World.cell?_setCell_other;intro e;exact h (congrArg Addr.off e)
theorem PM{w:ae}{a:Addr}{v u:Value}(h:w.cell? a=some u):(w.setCell a v).cell? a=some v:=by
 apply World.cell?_setCell_same;exact h
theorem GH(w:ae)(g o:Nat)(t:Tp)(j:Nat)(h:j<o\/o+6<=j):(Ak w g o t).cell? ⟨g,j,none⟩=w.cell? ⟨g,j,none⟩:=by
 unfold Ak;rw[kU (by omega),kU (by omega),kU (by omega),kU (by omega),kU (by omega),kU (by omega)]
theorem Lp{w:ae}{g o:Nat}(t:Tp)(h:∀j,j<6->(w.cell? ⟨g,o+j,none⟩).isSome=true):TA (Ak w g o t) g o t:=by
 have e:∀(W:World) (i j:Nat) (v:Value),(W.cell? ⟨g,o+j,none⟩).isSome=true->((W.setCell ⟨g,o+i,none⟩ v).cell? ⟨g,o+j,none⟩).isSome=true:=by
  intro W i j v hW;by_cases hij:i=j
  ·subst hij;obtain⟨u,hu⟩:=Option.isSome_iff_exists.mp hW;rw[PM hu];rfl
  rw[kU (by omega)];exact hW
 have same:∀(W:World) (j:Nat) (v:Value),(W.cell? ⟨g,o+j,none⟩).isSome=true->(W.setCell ⟨g,o+j,none⟩ v).cell? ⟨g,o+j,none⟩=some v:=by
  intro W j v hW;obtain⟨u,hu⟩:=Option.isSome_iff_exists.mp hW;exact PM hu
 have h0:=h 0 (by omega);have h1:=h 1 (by omega);have h2:=h 2 (by omega);have h3:=h 3 (by omega);have h4:=h 4 (by omega);have h5:=h 5 (by omega);unfold Ak TA;refine⟨?_,?_,?_,?_,?_,?_⟩
 ·rw[kU (by omega),kU (by omega),kU (by omega),kU (by omega),kU (by omega)];exact same _ 0 _ h0
 ·rw[kU (by omega),kU (by omega),kU (by omega),kU (by omega)];exact same _ 1 _ (e _ 0 1 _ h1)
 ·rw[kU (by omega),kU (by omega),kU (by omega)];exact same _ 2 _ (e _ 1 2 _ (e _ 0 2 _ h2))
 ·rw[kU (by omega),kU (by omega)];exact same _ 3 _ (e _ 2 3 _ (e _ 1 3 _ (e _ 0 3 _ h3)))
 ·rw[kU (by omega)];exact same _ 4 _ (e _ 3 4 _ (e _ 2 4 _ (e _ 1 4 _ (e _ 0 4 _ h4))))
 exact same _ 5 _ (e _ 4 5 _ (e _ 3 5 _ (e _ 2 5 _ (e _ 1 5 _ (e _ 0 5 _ h5)))))
theorem GI(w:ae)(g o:Nat)(t:Tp)(x:Addr):(Ak w g o t).frozen? x=w.frozen? x:=by simp[Ak]
theorem JB{B:Nat}{w0 w:ae}{g o:Nat}{t:Tp}(h:Below B w0 w)(hg:B<=g):Below B w0 (Ak w g o t):=by
 unfold Ak;exact(((((h.setCell (by exact hg) _).setCell (by exact hg) _).setCell (by exact hg) _).setCell (by exact hg) _).setCell (by exact hg) _).setCell (by exact hg) _
theorem MK(w:ae)(g o:Nat)(t:Tp):(Ak w g o t).heap.size=w.heap.size:=by simp[Ak]
structure Filling(w wr:World)(g:Nat)(ts:Q05)(k:Nat):Prop where
 below:ag w wr
 ge:w.heap.size<=g
 lt:g<wr.heap.size
 done:∀(i:Nat) (h:i<ts.length),i<k->TA wr g (0+i*6) ts[i]
 there:∀j,j<ts.length*6->(wr.cell? ⟨g,j,none⟩).isSome=true
 free:∀j,wr.frozen? ⟨g,j,none⟩=false
theorem Filling.later{w wr w1:ae}{g:Nat}{ts:Q05}{k:Nat}(h:Filling w wr g ts k)(hb:ag wr w1):Filling w w1 g ts k where
 below:=h.below.trans (hb.mono h.below.size)
 ge:=h.ge
 lt:=Vq h.lt hb.size
 done i hi hk:=(h.done i hi hk).same fun o=>hb.cell (p:=⟨g,o,none⟩) h.lt
 there j hj:=by rw[hb.cell (p:=⟨g,j,none⟩) h.lt];exact h.there j hj
 free j:=by rw[hb.frozen (p:=⟨g,j,none⟩) h.lt];exact h.free j
theorem Filling.put{w wr:ae}{g:Nat}{ts:Q05}{k:Nat}(h:Filling w wr g ts k)(hk:k<ts.length):Filling w (Ak wr g (k*6) ts[k]) g ts (k+1) where
 below:=JB h.below h.ge
 ge:=h.ge
 lt:=by rw[MK];exact h.lt
 done i hi hik:=by
  by_cases e:i=k
  ·subst e;rw[VQ];exact Lp _ (fun j hj=>h.there _ (by omega))
  obtain⟨a0,a1,a2,a3,a4,a5⟩:=h.done i hi (by omega);refine⟨?_,?_,?_,?_,?_,?_⟩<;>(rw[GH _ _ _ _ _ (by omega)];assumption)
 there j hj:=by
  by_cases hin:j<k*6\/k*6+6<=j
  ·rw[GH _ _ _ _ _ hin];exact h.there j hj
  obtain⟨a0,a1,a2,a3,a4,a5⟩:=Lp (w:=wr) (g:=g) (o:=k*6) ts[k] (fun j hj=>h.there _ (by omega));have hj6:j=k*6\/j=k*6+1\/j=k*6+2\/j=k*6+3\/j=k*6+4\/j=k*6+5:=by omega
  rcases hj6 with e|e|e|e|e|e
  ·rw[e,a0];rfl
  ·rw[e,a1];rfl
  ·rw[e,a2];rfl
  ·rw[e,a3];rfl
  ·rw[e,a4];rfl
  rw[e,a5];rfl
 free j:=by rw[GI];exact h.free j
theorem Filling.row{w w':ae}{g:Nat}{ts:Q05}(h:Filling w w' g ts ts.length):jJ w' g 0 ts:=fun i hi=>h.done i hi hi
theorem Filling.sl{w w':ae}{g:Nat}{ts:Q05}(h:Filling w w' g ts ts.length):Sl w' (some ⟨g,0,none⟩) ts:=.inr ⟨g,0,rfl,h.lt,h.row⟩
open Maps
def EW(x y:Tp):Bool:=x.a.toList==y.a.toList&&x.b.toList==y.b.toList&&x.r.toList==y.r.toList&&x.c.toList==y.c.toList&&x.d.toList==y.d.toList&&x.s.toList==y.s.toList
theorem jK{x y:ByteArray}(k:x.toList=y.toList):x=y:=by
 rw[Go.ByteArray.toList_eq,Go.ByteArray.toList_eq]at k;obtain⟨x⟩:=x;obtain⟨y⟩:=y;exact congrArg ByteArray.mk (Array.toList_inj.1 k)
theorem Am{x y:Tp}:EW x y=true↔x=y:=by
 unfold EW;simp only[Vt,beq_iff_eq];constructor
 ·rintro⟨⟨⟨⟨⟨h0,h1⟩,h2⟩,h3⟩,h4⟩,h5⟩;obtain⟨xa,xb,xr,xc,xd,xs⟩:=x;obtain⟨ya,yb,yr,yc,yd,ys⟩:=y;simp only at h0 h1 h2 h3 h4 h5;rw[jK h0,jK h1,jK h2,jK h3,jK h4,jK h5]
 rintro rfl;simp
theorem PN(x y:Tp){v:Bool}(h:EW x y=v)(w:ae):
  (binOp .eql 29 (.agg #[.string x.a,.string x.b,.string x.r,.string x.c,.string x.d,.string x.s]) (.agg #[.string y.a,.string y.b,.string y.r,.string y.c,.string y.d,.string y.s])).run prog w=.ok (.bool v) w:=by
 subst h;go_simp;unfold EW
 (repeat' split)<;>simp_all
def qP(ts:Q05)(t:Tp):Bool:=ts.any fun x=>EW x t
theorem MM{ts:Q05}{t:Tp}{k:Nat}(h:k<ts.length):qP (ts.drop k) t=(EW ts[k] t || qP (ts.drop (k+1)) t):=by
 rw[VZ h];rfl
def Tp.row(t:Tp):List Value:=[.string t.a,.string t.b,.string t.r,.string t.c,.string t.d,.string t.s]
def aZ(ts:Q05):List Value:=ts.flatMap Tp.row
theorem jk:∀ts:List Tp,(aZ ts).length=ts.length*6
 | []=>rfl
 | r::rs=>by have:=jk rs;simp only[aZ,Tp.row,VX,Vx,VS,Wv]at this ⊢;omega
theorem qQ:∀(rs:Q05) (i:Nat) (h:i<rs.length) (j:Nat),j<6->(aZ rs)[i*6+j]?=(rs[i]).row[j]?
 | [],i,h,_,_=>by simp at h
 | r::rs,0,_,j,hj=>by
  simp only[aZ,VX,Nat.zero_mul,VQ,List.getElem_cons_zero];rw[Wt (by simpa[Tp.row] using hj)]
 | r::rs,i+1,h,j,hj=>by
  have:=qQ rs i (by simpa using h) j hj;simp only[aZ,VX,List.getElem_cons_succ]at this ⊢;rw[Wq (by simp[Tp.row];omega),<-this];congr 1;simp[Tp.row];omega
theorem uu(ts:Q05)(t:Tp):aZ (ts++[t])=aZ ts++t.row:=by simp[aZ]
theorem qR(t:Tp):∀u∈t.row,u.oneCell'=true:=by
 intro u hu;simp[Tp.row]at hu;rcases hu with rfl|rfl|rfl|rfl|rfl|rfl<;>rfl
theorem wZ(w:ae)(t:Tp):∀j u,t.row[j]?=some u->(w.alloc (.cells #[.string t.a,.string t.b,.string t.r,.string t.c,.string t.d,.string t.s] 29)).cell? ((⟨w.heap.size,0,none⟩:Addr).add j)=some u:=by
 intro j u hu;rw[show(⟨w.heap.size,0,none⟩:Addr).add j=⟨w.heap.size,0+j,none⟩ by simp[Addr.add];omega,VQ];have:=World.cell?_alloc_mark w #[.string t.a,.string t.b,.string t.r,.string t.c,.string t.d,.string t.s] 29 (0,0) j;rw[this];simpa[Tp.row] using hu
theorem PO{w:ae}{base n:Nat}{v:Value}{ts:Q05}(h:w.ownsRow base 29 6 v n (aZ ts))(hn:n=ts.length):∃ad cap,v=.slice ad ts.length cap/\Sl w ad ts/\∀g,ad=some ⟨g,0,none⟩->base<=g/\g<w.heap.size/\jb w g:=by
 subst hn;have h2:=h;rcases h.2 with⟨rfl,h0⟩|⟨g,cap,cur,rfl,hbg,hg,hnc,-⟩
 ·exact⟨none,0,by rw[h0],.inl (VM.1 h0),fun g e=>by cases e⟩
 have hlt:=h2.lt g rfl;refine⟨some ⟨g,0,none⟩,cap,rfl,.inr ⟨g,0,rfl,hlt.2,fun i hi=>?_⟩,fun g' e=>?_⟩
 ·have hl:=jk ts;have key:∀j,j<6->w.cell? ⟨g,0+i*6+j,none⟩=(ts[i]).row[j]?:=fun j hj=>by
   rw[h2.cellAt (0+i*6+j) (by omega),<-qQ ts i hi j hj,VQ]
  exact⟨key 0 (by omega),key 1 (by omega),key 2 (by omega),key 3 (by omega),key 4 (by omega),key 5 (by omega)⟩
 injection e with e;injection e with e1 e2;subst e1;exact⟨hlt.1,hlt.2,fun y=>h2.frozenAt y⟩
theorem bW{B:Nat}{w w':ae}(hB:Below B w w'){n o:Nat}{v:Value}(hn:n<B)(h:w.cell? ⟨n,o,none⟩=some v):w'.cell? ⟨n,o,none⟩=some v:=(hB.cell (p:=⟨n,o,none⟩) hn).trans h
theorem aD{p:Prop}(h:p):Hid p:=h
theorem dw{w w':ae}{base:Nat}{e:TypeId}{size:Nat}{v:Value}{n:Nat}{xs:Q03}(h:w.ownsRow base e size v n xs)(hb:ag w w'):w'.ownsRow base e size v n xs:=by
 have hl:=fun g hg=>(h.lt g hg).2;refine⟨h.1,?_⟩;rcases h.2 with h0|⟨g,cap,cur,rfl,h1,h2,h3⟩
 ·exact .inl h0
 exact .inr ⟨g,cap,cur,rfl,h1,(hb.block g (hl g rfl)).trans h2,h3⟩
end Go.Proofs.YtojjoblnpldniaaGreat
