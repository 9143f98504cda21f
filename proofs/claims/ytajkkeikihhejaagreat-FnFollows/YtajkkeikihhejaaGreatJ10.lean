/- Contract of the document's function on strata. -/
import Derived.Test.YtajkkeikihhejaaGreatSq
import Derived.Test.YtajkkeikihhejaaGreatSpecSchema8
open Go.Proofs.Tryz
namespace Go.Proofs.YtajkkeikihhejaaGreat
open ChangeShapes WideShapes ChangeAt RowKit
open Pl
def St.cells(s:St):List Value:=[.string s.typ,.string s.rel,.int .i64 s.n]
def iN:List St->List Value
 | []=>[]
 | s::xs=>s.cells++iN xs
theorem EG(xs ys:List St):iN (xs++ys)=iN xs++iN ys:=by
 induction xs with
 | nil=>rfl
 | cons d ds ih=>simp[iN,ih]
theorem Ae(xs:List St)(d:St):iN (xs++[d])=iN xs++d.cells:=by rw[EG];simp[iN]
theorem lN(xs:List St)(i:Nat)(h:i<xs.length)(o:Nat)(ho:o<3):(iN xs)[i*3+o]?=(xs[i].cells)[o]?:=by
 induction xs generalizing i with
 | nil=>simp at h
 | cons s xs ih =>
  cases i with
  | zero =>
   simp only[iN,Nat.zero_mul,Vj,List.getElem_cons_zero];rw[VP (by simp[St.cells];omega)]
  | succ i =>
   simp only[iN,List.getElem_cons_succ];rw[VN (by simp[St.cells];omega)];have e:(i+1)*3+o-s.cells.length=i*3+o:=by simp[St.cells];omega
   rw[e];exact ih i (by simpa using h)
theorem xg(xs:List Dp)(i:Nat)(h:i<xs.length)(o:Nat)(ho:o<3):(eH xs)[i*3+o]?=(xs[i].cells)[o]?:=by
 induction xs generalizing i with
 | nil=>simp at h
 | cons s xs ih =>
  cases i with
  | zero =>
   simp only[eH,Nat.zero_mul,Vj,List.getElem_cons_zero];rw[VP (by simp[Dp.cells];omega)]
  | succ i =>
   simp only[eH,List.getElem_cons_succ];rw[VN (by simp[Dp.cells];omega)];have e:(i+1)*3+o-s.cells.length=i*3+o:=by simp[Dp.cells];omega
   rw[e];exact ih i (by simpa using h)
theorem Gm(g j:Nat):(⟨g,0,none⟩:Addr).add j=⟨g,j,none⟩:=by
 unfold Addr.add;by_cases hj:j=0
 ·subst hj;simp
 simp[hj]
theorem Q9{w:af}{base:Nat}{t:TypeId}{v:Value}{n:Nat}{xs:Q03}(h:w.ownsRow base t 3 v n xs):∃ad cp,v=.slice ad n cp/\(n=0 \/ ∃g,ad=some ⟨g,0,none⟩/\base<=g/\g<w.heap.size/\∀(j:Nat) (u:Value),xs[j]?=some u->w.cell? ⟨g,j,none⟩=some u):=by
 have h2:=h;rcases h.2 with⟨rfl,h0⟩|⟨g,cp,cur,rfl,hbg,hg,hnc,-⟩
 ·exact⟨none,0,by rw[h0],.inl h0⟩
 have hlt:=h2.lt g rfl;refine⟨_,cp,rfl,.inr ⟨g,rfl,hlt.1,hlt.2,fun j u hu=>?_⟩⟩;have:=h2.cells (g:=g) rfl j u hu;rwa [Gm]at this
def AtD(w:World)(b off:Nat)(d:Dp):Prop:=w.cell? ⟨b,off,none⟩=some (.string d.typ)/\w.cell? ⟨b,off+1,none⟩=some (.string d.rel)/\w.cell? ⟨b,off+2,none⟩=some (.bool d.neg)
def Sz(w:World)(lo:Nat)(ad:Q02)(xs:List Dp):Prop:=xs=[] \/ ∃b,ad=some ⟨b,0,none⟩/\lo<=b/\b<w.heap.size/\∀(i:Nat) (h:i<xs.length),AtD w b (i*3) xs[i]
theorem Uu{w:af}{base:Nat}{v:Value}{xs:List Dp}(h:w.ownsRow base 220 3 v xs.length (eH xs)):∃ad cp,v=.slice ad xs.length cp/\Sz w base ad xs:=by
 obtain⟨ad,cp,e,h0⟩:=Q9 h;refine⟨ad,cp,e,?_⟩;rcases h0 with h0|⟨g,e1,hb,hg,hc⟩
 ·exact .inl (Vb.1 h0)
 refine .inr ⟨g,e1,hb,hg,fun i hi=>⟨?_,?_,?_⟩⟩
 ·exact hc _ _ (by have:=xg xs i hi 0 (by omega);simpa[Dp.cells] using this)
 ·exact hc _ _ (by have:=xg xs i hi 1 (by omega);simpa[Dp.cells] using this)
 exact hc _ _ (by have:=xg xs i hi 2 (by omega);simpa[Dp.cells] using this)
def UJ(w:World)(g:Nat)(xs:List St):Prop:=∀(i:Nat) (h:i<xs.length),Ud w g (i*3) xs[i]
theorem Uv{w:af}{base:Nat}{v:Value}{xs:List St}(h:w.ownsRow base 162 3 v xs.length (iN xs)):∃ad cp,v=.slice ad xs.length cp/\(xs.length=0 \/ ∃g,ad=some ⟨g,0,none⟩/\base<=g/\g<w.heap.size/\UJ w g xs):=by
 obtain⟨ad,cp,e,h0⟩:=Q9 h;refine⟨ad,cp,e,?_⟩;rcases h0 with h0|⟨g,e1,hb,hg,hc⟩
 ·exact .inl h0
 refine .inr ⟨g,e1,hb,hg,fun i hi=>⟨?_,?_,?_⟩⟩
 ·exact hc _ _ (by have:=lN xs i hi 0 (by omega);simpa[St.cells] using this)
 ·exact hc _ _ (by have:=lN xs i hi 1 (by omega);simpa[St.cells] using this)
 exact hc _ _ (by have:=lN xs i hi 2 (by omega);simpa[St.cells] using this)
theorem Ra:(prog.info? 162).map (fun i=>(i.zero,i.size,i.bytes))=some (some (.agg #[.string ⟨#[]⟩,.string ⟨#[]⟩,.int .i64 0]),3,40):=by kernel_rfl
def Gn(ks:List (ByteArray×ByteArray)):List St:=ks.map fun k=>⟨k.1,k.2,0⟩
theorem EH(ks:List (ByteArray×ByteArray)):(Gn ks).length=ks.length:=by simp[Gn]
theorem OU(ks:List (ByteArray×ByteArray))(k:Q01):Gn (ks++[k])=Gn ks++[⟨k.1,k.2,0⟩]:=by simp[Gn]
def dE(rs:Q06)(k:Nat):List (ByteArray×ByteArray):=au (ag (rs.take k))
def jc(t:TR)(j:Nat):List (ByteArray×ByteArray):=(t.rows.take j).map fun q=>(t.name,q.name)
theorem oV(rs:Q06)(k:Nat)(h:k<rs.length):dE rs (k+1)=dE rs k++jc rs[k] rs[k].rows.length:=by
 unfold dE jc;rw[UX h,Va];unfold ag au;rw[VG,VE,List.map_singleton,List.flatMap_singleton];congr 1;simp[jL,TR.p,eZ,RR.p]
theorem ui(t:TR)(j:Nat)(h:j<t.rows.length):jc t (j+1)=jc t j++[(t.name,t.rows[j].name)]:=by
 unfold jc;rw[UX h,VG];rfl
theorem De(t:TR)(j:Nat):(jc t j).length<=t.rows.length:=by unfold jc;simp;omega
theorem xh(rs:Q06)(hr:∀r∈rs,r.rows.length<=6)(k:Nat):(dE rs k).length<=k*6:=by
 induction k with
 | zero=>simp[dE,ag,au]
 | succ k ih =>
  by_cases h:k<rs.length
  ·rw[oV _ _ h,U2];have h1:=De rs[k] rs[k].rows.length;have h2:=hr rs[k] (UR h);omega
  have e:rs.take (k+1)=rs.take k:=by rw[Vs (by omega),Vs (by omega)]
  unfold dE at ih⊢;rw[e];omega
theorem Af(d:Dp):0<=stepOf d/\stepOf d<=1:=by unfold stepOf;split<;>omega
structure Mid(ts:Q0b)(n:Nat)(oS:List St)(k j:Nat)(mb:Bool)(out:List St):Prop where
 len:out.length=n
 nn:n=(au ts).length
 round:Round ts out
 le:∀i (h:i<out.length),i≠k->out[i].n<=n
 lek:∀h:k<out.length,out[k].n<=n+1+j
 same:mb=false->out=oS/\(∀i (h:i<out.length),i<k->Q8 ts out out[i] (iB ts out[i].key).length)/\∀h:k<out.length,Q8 ts out out[k] j
 grow:mJ oS<=mJ out/\(mb=true->mJ oS<mJ out)
theorem Mid.start{ts:Q0b}{n:Nat}{out:List St}(hl:out.length=n)(hn:n=(au ts).length)(hr:Round ts out)(hle:∀s∈out,s.n<=n):Mid ts n out 0 0 false out where
 len:=hl
 nn:=hn
 round:=hr
 le i h _:=hle _ (UR h)
 lek h:=by have:=hle _ (UR h);omega
 same _:=⟨rfl,fun i _ hi=>by omega,fun _ d hd=>by simp at hd⟩
 grow:=⟨Int.le_refl _,by simp⟩
theorem Mid.key{ts:Q0b}{n k j:Nat}{oS out:List St}{mb:Bool}(h:Mid ts n oS k j mb out)(hk:k<out.length)(hk2:k<(au ts).length):out[k].key=(au ts)[k]:=by
 have e:=h.round.keys;have:(iM out)[k]'(by simp[iM,hk])=(au ts)[k]:=by simp only[e]
 rw[<-this];simp[iM]
def oW(out:List St)(d:Dp):Int:=fQ out (d.typ,d.rel)+stepOf d
theorem Mid.at{ts:Q0b}{n k j:Nat}{oS out:List St}{mb:Bool}(h:Mid ts n oS k j mb out)(key:Q01)(hk:key∈au ts):∃i:Nat,∃hi:i<out.length,ib key.1 key.2 out 0=(i:Int)/\out[i].n=fQ out key/\0<=fQ out key/\fQ out key<=n+1+j:=by
 obtain⟨i,hi,h1,h2,h3⟩:=oP out 0 (k:=key) (by rw[h.round.keys];exact hk);refine⟨i,hi,by rw[h1];congr 1;omega,h3,?_,?_⟩
 ·exact(h.round.at hk).1
 rw[<-h3];by_cases e:i=k
 ·subst e;exact h.lek hi
 have:=h.le i hi e;omega
theorem Mid.no{ts:Q0b}{n k j:Nat}{oS out:List St}{mb:Bool}(h:Mid ts n oS k j mb out)(hk:k<out.length)(d:Dp)(hd:(iB ts out[k].key)[j]?=some d)(hw:oW out d<=out[k].n):Mid ts n oS k (j+1) mb out where
 len:=h.len
 nn:=h.nn
 round:=h.round
 le:=h.le
 lek hh:=by have:=h.lek hh;omega
 same hm:=by
  obtain⟨e,s1,s2⟩:=h.same hm;refine⟨e,s1,fun hh d' hd'=>?_⟩;obtain⟨hj,hd2⟩:=List.getElem?_eq_some_iff.1 hd;rw[UX hj]at hd';rcases U6.1 hd' with hd'|hd'
  ·exact s2 hh d' hd'
  rw[hd2]at hd';simp at hd';subst hd';exact hw
 grow:=h.grow
theorem Mid.yes{ts:Q0b}{n k j:Nat}{oS out:List St}{mb:Bool}(h:Mid ts n oS k j mb out)(hF:Found ts)(hk:k<out.length)(d:Dp)(hd:(iB ts out[k].key)[j]?=some d)(hw:out[k].n<oW out d):Mid ts n oS k (j+1) true (out.set k ⟨out[k].typ,out[k].rel,oW out d⟩) where
 len:=by rw[List.length_set];exact h.len
 nn:=h.nn
 round:=h.round.set hF hk (VQ hd)
 le i hi hne:=by
  rw[List.getElem_set_ne (Ne.symm hne)];exact h.le i (by simpa using hi) hne
 lek hh:=by
  rw[List.getElem_set_self];show oW out d<=_;obtain⟨i,hi,-,-,-,h4⟩:=h.at (d.typ,d.rel) (hF _ (h.round.mem (UR hk)) d (VQ hd));have:=Af d;unfold oW;push_cast;omega
 same hm:=by cases hm
 grow:=by
  have:=h.grow.1;rw[OQ _ _ hk];exact⟨by omega,fun _=>by omega⟩
theorem Mid.next{ts:Q0b}{n k j:Nat}{oS out:List St}{mb:Bool}(h:Mid ts n oS k j mb out)(hk:k<out.length)(hj:j=(iB ts out[k].key).length)(hle:out[k].n<=n):Mid ts n oS (k+1) 0 mb out where
 len:=h.len
 nn:=h.nn
 round:=h.round
 le i hi _:=by
  by_cases e:i=k
  ·subst e;exact hle
  exact h.le i hi e
 lek hh:=by have:=h.le (k+1) hh (by omega);omega
 same hm:=by
  obtain⟨e,s1,s2⟩:=h.same hm;refine⟨e,fun i hi hik=>?_,fun _ d hd=>by simp at hd⟩;by_cases e2:i=k
  ·subst e2;have:=s2 hi;rw[hj]at this;exact this
  exact s1 i hi (by omega)
 grow:=h.grow
theorem Mid.over{ts:Q0b}{n k j:Nat}{oS out:List St}{mb:Bool}(h:Mid ts n oS k j mb out)(hF:Found ts)(hk:k<out.length)(hn:(n:Int)<out[k].n):¬ ∃f,Sol ts f :=
 I7 hF (h.round.mem (UR hk)) (h.round.low _ (UR hk)) (by have:=h.nn;omega)
structure Pass(ts:Q0b)(n:Nat)(mb:Bool)(out:List St):Prop where
 len:out.length=n
 nn:n=(au ts).length
 round:Round ts out
 le:∀s∈out,s.n<=n
 sat:mb=false->∀s∈out,Q8 ts out s (iB ts s.key).length
theorem Mid.done{ts:Q0b}{n k j:Nat}{oS out:List St}{mb:Bool}(h:Mid ts n oS k j mb out)(hk:k=n):Pass ts n mb out where
 len:=h.len
 nn:=h.nn
 round:=h.round
 le s hs:=by
  obtain⟨i,hi,rfl⟩:=Vx.1 hs;exact h.le i hi (by have:=h.len;omega)
 sat hm s hs:=by
  obtain⟨e,s1,s2⟩:=h.same hm;obtain⟨i,hi,rfl⟩:=Vx.1 hs;exact s1 i hi (by have:=h.len;omega)
theorem Pass.least{ts:Q0b}{n:Nat}{out:List St}(h:Pass ts n false out):Least ts (fQ out):=h.round.done (h.sat rfl)
theorem Pass.zero{ts:Q0b}{n:Nat}(hn:n=(au ts).length):Pass ts n true (Gn (au ts)) where
 len:=by rw[EH,hn]
 nn:=hn
 round:=⟨by unfold iM Gn;rw[List.map_map];exact List.map_id _,fun s hs=>by simp[Gn]at hs;obtain⟨a,b,-,rfl⟩:=hs;exact Int.le_refl _,fun s hs=>by simp[Gn]at hs;obtain⟨a,b,-,rfl⟩:=hs;exact qD.zero _ _⟩
 le s hs:=by simp[Gn]at hs;obtain⟨a,b,-,rfl⟩:=hs;simp
 sat h:=by cases h
theorem Rb(n:Int)(out:List St)(h:∀s∈out,s.n<=n):mJ out<=n*out.length:=by
 induction out with
 | nil=>simp[mJ]
 | cons s xs ih =>
  have h1:=h s (by simp);have h2:=ih fun q hq=>h q (by simp[hq]);simp only[mJ,Vq];have:n*((xs.length+1:Nat):Int)=n*xs.length+n:=by push_cast;rw[Int.mul_add];simp
  omega
structure RowS(w wr:World)(ad:Q02)(g:Nat)(out:List St):Prop where
 below:ae w wr
 at':out=[]\/(ad=some ⟨g,0,none⟩/\w.heap.size<=g/\g<wr.heap.size/\UJ wr g out/\∀j,wr.frozen? ⟨g,j,none⟩=false)
theorem Ud.kept{w w':af}{b off:Nat}{s:St}(h:Ud w b off s)(hb:b<w.heap.size)(hB:ae w w'):Ud w' b off s:=⟨aH hB hb h.1,aH hB hb h.2.1,aH hB hb h.2.2⟩
theorem RowS.kept{w wr w2:af}{ad:Q02}{g:Nat}{out:List St}(h:RowS w wr ad g out)(hb:ae wr w2):RowS w w2 ad g out where
 below:=h.below.trans (hb.mono h.below.size)
 at':=by
  rcases h.at' with e|⟨e,h1,h2,h3,h4⟩
  ·exact .inl e
  exact .inr ⟨e,h1,UT h2 hb.size,fun i hi=>(h3 i hi).kept h2 hb,fun j=>by rw[hb.frozen (p:=⟨g,j,none⟩) h2];exact h4 j⟩
theorem RowS.slN{w wr:af}{ad:Q02}{g:Nat}{out:List St}(h:RowS w wr ad g out):I5 wr ad out:=by
 rcases h.at' with e|⟨e,h1,h2,h3,h4⟩
 ·exact .inl e
 exact .inr ⟨g,0,e,h2,fun i hi=>by rw[Vj];exact h3 i hi⟩
theorem RowS.set{w wr:af}{ad:Q02}{g:Nat}{out:List St}(h:RowS w wr ad g out){k:Nat}(hk:k<out.length)(n:Int):RowS w (wr.setCell ⟨g,k*3+2,none⟩ (.int .i64 n)) ad g (out.set k ⟨out[k].typ,out[k].rel,n⟩):=by
 rcases h.at' with e|⟨e,h1,h2,h3,h4⟩
 ·rw[e]at hk;simp at hk
 refine⟨h.below.setCell (p:=⟨g,k*3+2,none⟩) h1 _,.inr ⟨e,h1,by simpa using h2,fun i hi=>?_,fun j=>by simpa using h4 j⟩⟩;have hi':i<out.length:=by simpa using hi
 obtain⟨c0,c1,c2⟩:=h3 i hi';by_cases ei:i=k
 ·subst ei;rw[List.getElem_set_self];exact⟨by rw[qi (by omega)];exact c0,by rw[qi (by omega)];exact c1,zy c2⟩
 rw[List.getElem_set_ne (Ne.symm ei)];exact⟨by rw[qi (by omega)];exact c0,by rw[qi (by omega)];exact c1,by rw[qi (by omega)];exact c2⟩
def OV(w:World)(g i:Nat):Int:=match w.cell? ⟨g,i*3+2,none⟩ with|some (.int _ x)=>x|_=>0
def I9(w:World)(g:Nat):Nat->Int
 | 0=>0
 | n+1=>I9 w g n+OV w g n
theorem Gp(xs ys:List St):mJ (xs++ys)=mJ xs+mJ ys:=by
 induction xs with
 | nil=>simp[mJ]
 | cons s xs ih=>simp only[VC,mJ,ih];omega
theorem UJ.sum{w:af}{g:Nat}{out:List St}(h:UJ w g out):∀k,k<=out.length->I9 w g k=mJ (out.take k)
 | 0,_=>by simp[I9,mJ]
 | k+1,hk=>by
  have hlt:k<out.length:=by omega
  rw[UX hlt,Gp];simp only[I9,h.sum k (by omega),mJ];have:OV w g k=out[k].n:=by unfold OV;rw[(h k hlt).2.2]
  omega
theorem RowS.sum{w wr:af}{ad:Q02}{g:Nat}{out:List St}(h:RowS w wr ad g out):I9 wr g out.length=mJ out:=by
 rcases h.at' with e|⟨e,h1,h2,h3,h4⟩
 ·rw[e];simp[I9,mJ]
 rw[h3.sum _ (UU _),Va]
def OW:Value->Int
 | .bool true=>1
 | _=>0
def Df(w:World)(g n:Nat)(m:Value):Nat:=(2*((n:Int)*n-I9 w g n)+OW m).toNat
theorem Ja{ts:Q0b}{w wr w2:af}{ad:Q02}{g n:Nat}{oS out:List St}{mb:Bool}(hS:RowS w wr ad g oS)(hO:RowS w w2 ad g out)(h:Mid ts n oS n 0 mb out)(hl:oS.length=n):Df w2 g n (.bool mb)<Df wr g n (.bool true):=by
 have e1:=hS.sum;have e2:=hO.sum;have h3:=Rb n out fun s hs=>(h.done rfl).le s hs;have h2:=h.len;have h4:=h.grow;rw[hl]at e1;rw[h2]at e2 h3;unfold Df;rw[e1,e2];cases mb;case false=>simp only[OW];omega
 have:=h4.2 rfl;simp only[OW];omega
theorem Rc{w wr:af}{v:Value}{out:List St}(hB:ae w wr)(h:wr.ownsRow w.heap.size 162 3 v out.length (iN out)):∃ad cp g,v=.slice ad out.length cp/\RowS w wr ad g out:=by
 rcases h.2 with⟨rfl,h0⟩|⟨g,cp,cur,rfl,hbg,hg,hnc,-⟩
 ·exact⟨none,0,0,by rw[h0],hB,.inl (Vb.1 h0)⟩
 obtain⟨ad,cp',e,h0⟩:=Uv h;injection e with e1 e2 e3;refine⟨some ⟨g,0,none⟩,cp,g,rfl,hB,?_⟩;rcases h0 with h0|⟨g',e4,h1,h2,h3⟩
 ·exact .inl (Vb.1 h0)
 rw[<-e1]at e4;injection e4 with e4;injection e4 with e4;subst e4;exact .inr ⟨rfl,h1,h2,h3,fun j=>by simp[World.frozen?,hg]⟩
theorem Tq(ad:Q02)(cap n:Nat)(xs:List St)(key:Q01)(w:af)(hn:xs.length=n)(hlen:n<=1048576)(hs:I5 w ad xs)(i:Nat)(hat:ib key.1 key.2 xs 0=(i:Int)):
  Calls prog 140 #[.slice ad n cap,.string key.1,.string key.2] w fun e w'=>e=.returned (.int .i64 (i:Int))/\w'=w:=by
 subst hn;rw[<-hat];exact OL ad cap xs key.1 key.2 w hlen hs
theorem AtD.set{w:af}{b off g o:Nat}{d:Dp}{v:Value}(h:AtD w b off d)(hn:g≠b):AtD (w.setCell ⟨g,o,none⟩ v) b off d:=⟨by rw[xX hn];exact h.1,by rw[xX hn];exact h.2.1,by rw[xX hn];exact h.2.2⟩
theorem Sz.set{w:af}{lo g o:Nat}{ad:Q02}{xs:List Dp}{v:Value}(h:Sz w lo ad xs)(hg:g<lo):Sz (w.setCell ⟨g,o,none⟩ v) lo ad xs:=by
 rcases h with h|⟨b,e,h1,h2,h3⟩
 ·exact .inl h
 exact .inr ⟨b,e,h1,by simpa using h2,fun i hi=>(h3 i hi).set (by omega)⟩
theorem keepD{wr W w':af}{g o1 o2:Nat}{x y:Value}(h:W.cell? ⟨g,o1,none⟩=some x/\W.cell? ⟨g,o2,none⟩=some y/\g<W.heap.size/\ae wr W)(hb:ae W w'):
  w'.cell? ⟨g,o1,none⟩=some x/\w'.cell? ⟨g,o2,none⟩=some y/\g<w'.heap.size/\ae wr w' :=
 ⟨aH hb h.2.2.1 h.1,aH hb h.2.2.1 h.2.1,UT h.2.2.1 hb.size,h.2.2.2.trans (hb.mono h.2.2.2.size)⟩
theorem nQ.small{rs:Q06}{ad:Q02}{rows:Q08}(h:nQ rs ad rows)(hl:∀r∈rs,∀q∈r.rows,q.rows.length<=15/\∀e∈q.rows,fe q.rows.length e.e.kids):rows.length<=15/\∀e∈rows,fe rows.length e.e.kids:=by
 rcases h with rfl|⟨t,ht,q,hq,rfl,-⟩
 ·exact⟨by simp,by simp⟩
 exact hl t ht q hq
theorem Ag(ts:Q0b)(ty over rel:bQ):(iw ts ty over rel).length<=(aX (aB ts ty over)).length:=IX _ _ _
theorem Jb(ts:Q0b)(typ:bQ)(es:Q09)(A G:Nat)(hA:∀e∈es,e.allow.length<=A)(hG:∀over rel,(iw ts typ over rel).length<=G)(k:Nat):(aR ts typ es k).length<=k*(A+G+1):=by
 induction k with
 | zero=>simp[aR]
 | succ k ih =>
  simp only[aR,U2];have:(iy ts typ es k).length<=A+G+1:=by
   unfold iy;split
   ·simp
   rename_i e he;have h1:=hA e (VQ he);have h2:=Da ((dD es).getD k false) e.allow;have h3:(kZ ts typ ((dD es).getD k false) e).length<=G+1:=by
    unfold kZ;split
    ·simp
    split
    ·have:=hG e.over e.name;simp;omega
    simp
   rw[U2];omega
  have e:(k+1)*(A+G+1)=k*(A+G+1)+(A+G+1):=Nat.succ_mul _ _;omega
theorem Cj(ts:Q0b)(typ:bQ)(es:Q09)(k:Nat)(h:es.length<=k):iy ts typ es k=[]:=by
 unfold iy;rw[List.getElem?_eq_none h]
theorem Jc(ts:Q0b)(typ:bQ)(es:Q09)(B:Nat)(hB:∀k,k<=es.length->(aR ts typ es k).length<=B)(k:Nat):(aR ts typ es k).length<=B:=by
 induction k with
 | zero=>exact hB 0 (UY _)
 | succ k ih =>
  by_cases h:k+1<=es.length
  ·exact hB _ h
  simp only[aR];rw[Cj _ _ _ _ (by omega),VK];exact ih
theorem Gq(rs:Q07)(n:bQ)(es:Q09)(h:jT (eZ rs) n=some es):∃q∈rs,es=ak q.rows:=by
 induction rs with
 | nil=>simp[eZ,jT]at h
 | cons r rs ih =>
  simp only[eZ,VX,jT]at h;split at h
  ·injection h with h;exact⟨r,by simp,h.symm⟩
  obtain⟨q,hq,e⟩:=ih h;exact⟨q,by simp[hq],e⟩
theorem Jd(ts:Q06)(ty n:bQ)(es:Q09)(h:eG (ag ts) ty n=some es):∃t∈ts,∃q∈t.rows,es=ak q.rows:=by
 induction ts with
 | nil=>simp[ag,eG]at h
 | cons t ts ih =>
  simp only[ag,VX,eG]at h;split at h
  ·rcases Option.or_eq_some_iff.1 h with h|⟨-,h⟩
   ·obtain⟨q,hq,e⟩:=Gq _ _ _ h;exact⟨t,by simp,q,hq,e⟩
   obtain⟨t',ht,q,hq,e⟩:=ih h;exact⟨t',by simp[ht],q,hq,e⟩
  obtain⟨t',ht,q,hq,e⟩:=ih h;exact⟨t',by simp[ht],q,hq,e⟩
theorem yh(rs:Q06)(hl:∀r∈rs,r.light)(typ over rel:bQ):(iw (ag rs) typ over rel).length<=1048576:=by
 refine U0 (Ag _ _ _ _) ?_;unfold aB;cases h:eG (ag rs) typ over with
 | none=>simp[aX]
 | some es =>
  obtain⟨t,ht,q,hq,rfl⟩:=Jd _ _ _ _ h;exact zY q.rows ((hl t ht).2 q hq).2
theorem Ah(rs:Q06)(hl:∀r∈rs,r.light)(typ:bQ)(rows:Q08)(hle:rows.length<=15)(hlE:∀q∈rows,q.e.light)(k:Nat):(aR (ag rs) typ (ak rows) k).length<=100000000:=by
 refine Jc _ _ _ _ (fun k hk=>?_) k;refine U0 (Jb _ _ _ 1048576 1048576 (fun e he=>?_) (yh rs hl typ) k) ?_
 ·obtain⟨q,hq,rfl⟩:=U7.1 he;exact(hlE q hq).1
 rw[aQ]at hk;omega
end Go.Proofs.YtajkkeikihhejaaGreat
