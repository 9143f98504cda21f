/- Contract of the document's function on strata. -/
import Derived.Test.YtajkkeikihhejaaGreatSq
import Derived.Test.YtajkkeikihhejaaGreatSpecSchema8
import Derived.Test.YtajkkeikihhejaaGreatJ6
open Go.Proofs.Tryz
set_option maxHeartbeats 80000000
namespace Go.Proofs.YtajkkeikihhejaaGreat
open ChangeShapes WideShapes ChangeAt RowKit
open Pl
def St.cells(s:St):List Value:=[.string s.typ,.string s.rel,.int .i64 s.n]
def iV:List St->List Value
 | []=>[]
 | s::xs=>s.cells++iV xs
theorem Fe(xs ys:List St):iV (xs++ys)=iV xs++iV ys:=by
 induction xs with
 | nil=>rfl
 | cons d ds ih=>simp[iV,ih]
theorem Ba(xs:List St)(d:St):iV (xs++[d])=iV xs++d.cells:=by rw[Fe];simp[iV]
theorem l5(xs:List St)(i:Nat)(h:i<xs.length)(o:Nat)(ho:o<3):(iV xs)[i*3+o]?=(xs[i].cells)[o]?:=by
 induction xs generalizing i with
 | nil=>simp at h
 | cons s xs ih =>
  cases i with
  | zero =>
   simp only[iV,Nat.zero_mul,VC,List.getElem_cons_zero];rw[V9 (by simp[St.cells];omega)]
  | succ i =>
   simp only[iV,List.getElem_cons_succ];rw[V7 (by simp[St.cells];omega)];have e:(i+1)*3+o-s.cells.length=i*3+o:=by simp[St.cells];omega
   rw[e];exact ih i (by simpa using h)
theorem xR(xs:List Dp)(i:Nat)(h:i<xs.length)(o:Nat)(ho:o<3):(eF xs)[i*3+o]?=(xs[i].cells)[o]?:=by
 induction xs generalizing i with
 | nil=>simp at h
 | cons s xs ih =>
  cases i with
  | zero =>
   simp only[eF,Nat.zero_mul,VC,List.getElem_cons_zero];rw[V9 (by simp[Dp.cells];omega)]
  | succ i =>
   simp only[eF,List.getElem_cons_succ];rw[V7 (by simp[Dp.cells];omega)];have e:(i+1)*3+o-s.cells.length=i*3+o:=by simp[Dp.cells];omega
   rw[e];exact ih i (by simpa using h)
theorem G6(g j:Nat):(⟨g,0,none⟩:Addr).add j=⟨g,j,none⟩:=by
 unfold Addr.add;by_cases hj:j=0
 ·subst hj;simp
 simp[hj]
theorem RN{w:af}{base:Nat}{t:TypeId}{v:Value}{n:Nat}{xs:Q03}(h:w.ownsRow base t 3 v n xs):∃ad cp,v=.slice ad n cp/\(n=0 \/ ∃g,ad=some ⟨g,0,none⟩/\base<=g/\g<w.heap.size/\∀(j:Nat) (u:Value),xs[j]?=some u->w.cell? ⟨g,j,none⟩=some u):=by
 have h2:=h;rcases h.2 with⟨rfl,h0⟩|⟨g,cp,cur,rfl,hbg,hg,hnc,-⟩
 ·exact⟨none,0,by rw[h0],.inl h0⟩
 have hlt:=h2.lt g rfl;refine⟨_,cp,rfl,.inr ⟨g,rfl,hlt.1,hlt.2,fun j u hu=>?_⟩⟩;have:=h2.cells (g:=g) rfl j u hu;rwa [G6]at this
def AtD(w:World)(b off:Nat)(d:Dp):Prop:=w.cell? ⟨b,off,none⟩=some (.string d.typ)/\w.cell? ⟨b,off+1,none⟩=some (.string d.rel)/\w.cell? ⟨b,off+2,none⟩=some (.bool d.neg)
def Td(w:World)(lo:Nat)(ad:Q02)(xs:List Dp):Prop:=xs=[] \/ ∃b,ad=some ⟨b,0,none⟩/\lo<=b/\b<w.heap.size/\∀(i:Nat) (h:i<xs.length),AtD w b (i*3) xs[i]
theorem UK{w:af}{base:Nat}{v:Value}{xs:List Dp}(h:w.ownsRow base 220 3 v xs.length (eF xs)):∃ad cp,v=.slice ad xs.length cp/\Td w base ad xs:=by
 obtain⟨ad,cp,e,h0⟩:=RN h;refine⟨ad,cp,e,?_⟩;rcases h0 with h0|⟨g,e1,hb,hg,hc⟩
 ·exact .inl (Vr.1 h0)
 refine .inr ⟨g,e1,hb,hg,fun i hi=>⟨?_,?_,?_⟩⟩
 ·exact hc _ _ (by have:=xR xs i hi 0 (by omega);simpa[Dp.cells] using this)
 ·exact hc _ _ (by have:=xR xs i hi 1 (by omega);simpa[Dp.cells] using this)
 exact hc _ _ (by have:=xR xs i hi 2 (by omega);simpa[Dp.cells] using this)
def U1(w:World)(g:Nat)(xs:List St):Prop:=∀(i:Nat) (h:i<xs.length),Ur w g (i*3) xs[i]
theorem UL{w:af}{base:Nat}{v:Value}{xs:List St}(h:w.ownsRow base 162 3 v xs.length (iV xs)):∃ad cp,v=.slice ad xs.length cp/\(xs.length=0 \/ ∃g,ad=some ⟨g,0,none⟩/\base<=g/\g<w.heap.size/\U1 w g xs):=by
 obtain⟨ad,cp,e,h0⟩:=RN h;refine⟨ad,cp,e,?_⟩;rcases h0 with h0|⟨g,e1,hb,hg,hc⟩
 ·exact .inl h0
 refine .inr ⟨g,e1,hb,hg,fun i hi=>⟨?_,?_,?_⟩⟩
 ·exact hc _ _ (by have:=l5 xs i hi 0 (by omega);simpa[St.cells] using this)
 ·exact hc _ _ (by have:=l5 xs i hi 1 (by omega);simpa[St.cells] using this)
 exact hc _ _ (by have:=l5 xs i hi 2 (by omega);simpa[St.cells] using this)
theorem RO:(prog.info? 162).map (fun i=>(i.zero,i.size,i.bytes))=some (some (.agg #[.string ⟨#[]⟩,.string ⟨#[]⟩,.int .i64 0]),3,40):=by kernel_rfl
def G7(ks:List (ByteArray×ByteArray)):List St:=ks.map fun k=>⟨k.1,k.2,0⟩
theorem Ff(ks:List (ByteArray×ByteArray)):(G7 ks).length=ks.length:=by simp[G7]
theorem Pq(ks:List (ByteArray×ByteArray))(k:Q01):G7 (ks++[k])=G7 ks++[⟨k.1,k.2,0⟩]:=by simp[G7]
def dE(rs:Q06)(k:Nat):List (ByteArray×ByteArray):=au (ag (rs.take k))
def jg(t:TR)(j:Nat):List (ByteArray×ByteArray):=(t.rows.take j).map fun q=>(t.name,q.name)
theorem pI(rs:Q06)(k:Nat)(h:k<rs.length):dE rs (k+1)=dE rs k++jg rs[k] rs[k].rows.length:=by
 unfold dE jg;rw[Ve h,Vs];unfold ag au;rw[VX,VU,List.map_singleton,List.flatMap_singleton];congr 1;simp[jN,TR.p,eT,RR.p]
theorem uG(t:TR)(j:Nat)(h:j<t.rows.length):jg t (j+1)=jg t j++[(t.name,t.rows[j].name)]:=by
 unfold jg;rw[Ve h,VX];rfl
theorem DL(t:TR)(j:Nat):(jg t j).length<=t.rows.length:=by unfold jg;simp;omega
theorem xS(rs:Q06)(hr:∀r∈rs,r.rows.length<=6)(k:Nat):(dE rs k).length<=k*6:=by
 induction k with
 | zero=>simp[dE,ag,au]
 | succ k ih =>
  by_cases h:k<rs.length
  ·rw[pI _ _ h,Vh];have h1:=DL rs[k] rs[k].rows.length;have h2:=hr rs[k] (U8 h);omega
  have e:rs.take (k+1)=rs.take k:=by rw[VE (by omega),VE (by omega)]
  unfold dE at ih⊢;rw[e];omega
open Maps
def RR.sl(q:RR):Value:=.slice q.ad q.rows.length q.cap
def lF(t:ByteArray)(M:ByteArray×ByteArray->Option Value):List RR->ByteArray×ByteArray->Option Value
 | []=>M
 | q::qs=>lF t (lX M (t,q.name) (some q.sl)) qs
def fe(M:ByteArray×ByteArray->Option Value):List TR->ByteArray×ByteArray->Option Value
 | []=>M
 | t::ts=>fe (lF t.name M t.rows) ts
def pJ(rs:Q06):ByteArray×ByteArray->Option Value:=fe (fun _=>none) rs
theorem Fg(t:bW)(M:ByteArray×ByteArray->Option Value)(xs ys:Q07):lF t M (xs++ys)=lF t (lF t M xs) ys:=by
 induction xs generalizing M with
 | nil=>rfl
 | cons q qs ih=>simp only[VS,lF];exact ih _
theorem Bb(M:ByteArray×ByteArray->Option Value)(xs ys:Q06):fe M (xs++ys)=fe (fe M xs) ys:=by
 induction xs generalizing M with
 | nil=>rfl
 | cons q qs ih=>simp only[VS,fe];exact ih _
theorem JJ(t:bW)(M:ByteArray×ByteArray->Option Value)(qs:Q07)(j:Nat)(h:j<qs.length):lF t M (qs.take (j+1))=lX (lF t M (qs.take j)) (t,qs[j].name) (some qs[j].sl):=by
 rw[Ve h,Fg];rfl
theorem Fh(M:ByteArray×ByteArray->Option Value)(rs:Q06)(k:Nat)(h:k<rs.length):fe M (rs.take (k+1))=lF rs[k].name (fe M (rs.take k)) rs[k].rows:=by
 rw[Ve h,Bb];rfl
set_option maxRecDepth 100000 in
theorem yA(ad:Q02)(cap:Nat)(rs:Q06)(w:af)(hlen:rs.length<=6)(hs:j5 w ad rs)(hrl:∀r∈rs,r.rows.length<=6)(hf:∀r∈rs,r.fits):
  Calls prog 53 #[.slice ad rs.length cap] w fun e w'=>e=.returned (.map (some w.heap.size))/\aM dX prog 94 w' w.heap.size 36 (pJ rs)/\ae w w':=by
 have HS:=aD hs;have HRL:Hid (∀r∈rs,r.rows.length<=6):=hrl;have WE:=aD hf;have HM0:Hid (aM dX prog 94 (w.alloc (.map #[] 0)) w.heap.size 0 (fun _=>none)):=kr _ _ _ w;have HB0:Hid (ae w (w.alloc (.map #[] 0))):=(Vb _ _).alloc (Va _) _;clear hs hrl hf;have hmm:=@run_makeMap prog;go_enter func53,ntmps53;go_wp2_with fail;go_loopw[11] (fun i wr=>∃k:Nat,k<=rs.length/\i=.int .i64 k/\Hid (aM dX prog 94 wr w.heap.size (k*6) (fe (fun _=>none) (rs.take k)))/\Hid (ae w wr)) (fun i _=>rs.length-(intOf i).toNat);case atStart=>exact⟨0,Vf _,rfl,HM0,HB0⟩
 clear HM0 HB0 hmm;obtain⟨k,hk,rfl,HM,HB⟩:=hrel;by_cases hlt:k<rs.length
 ·rcases HS.out.below HB.out with rfl|⟨b,off,rfl,hb,hr,hok⟩
  ·simp at hlt
  obtain⟨t0,t1⟩:=hr k hlt;have hk1:=bC k;have hk2:(k:Int)<(rs.length:Int):=by omega
  have h6:rs[k].rows.length<=6:=HRL.out _ (U8 hlt);have z0:rs[k].name.size<=maxLen:=(WE.out _ (U8 hlt)).1;have Yg:Hid (∀q∈rs[k].rows,q.fits):=(WE.out _ (U8 hlt)).2.2;clear hr hok;obtain⟨W1,hW1⟩:∃W1,W1=wr.alloc (.cells #[.string rs[k].name,.slice rs[k].ad rs[k].rows.length rs[k].cap] 127):=⟨_,rfl⟩;have hal:ae wr W1:=by rw[hW1];exact(Vb _ _).alloc (Va _) _
  have ZI:Hid (aM dX prog 94 W1 w.heap.size (k*6) (fe (fun _=>none) (rs.take k))):=HM.out.below hal;have HB1:=jF HB hal;have XK:Hid (wr.heap.size<W1.heap.size/\W1.cell? ⟨wr.heap.size,0,none⟩=some (.string rs[k].name)):=⟨by rw[hW1];simp,by rw[hW1];simp⟩;have hgw:w.heap.size<wr.heap.size:=HM.out.lt;clear HM hal;go_wp2_with fail;rw[<-hW1];clear hW1 t0 t1 HB;obtain⟨wo,hwo⟩:∃wo,wo=wr:=⟨_,rfl⟩;subst hwo;go_loopw[18] (fun i w2=>∃j:Nat,j<=rs[k].rows.length/\i=.int .i64 j/\Hid (aM dX prog 94 w2 w.heap.size (k*6+j) (lF rs[k].name (fe (fun _=>none) (rs.take k)) (rs[k].rows.take j)))/\Hid (ae w w2)/\Hid (wo.heap.size<w2.heap.size/\w2.cell? ⟨wo.heap.size,0,none⟩=some (.string rs[k].name))) (fun i _=>rs[k].rows.length-(intOf i).toNat);case atStart=>exact⟨0,Vf _,rfl,ZI,HB1,XK⟩
  clear ZI HB1 XK;obtain⟨j,hj,rfl,HM,HB,HC⟩:=hrel;by_cases hjl:j<rs[k].rows.length
  ·rcases HS.out.below HB.out with hnil|⟨b',off',he,hb2,hr,hok⟩
   ·rw[hnil]at hlt;simp at hlt
   injection he with he;injection he with he1 he2;subst he1;subst he2;have ok:=hok rs[k] (U8 hlt);rcases ok with hnil|⟨b2,WW,had,hbb,hr2,-⟩
   ·rw[hnil]at hjl;simp at hjl
   obtain⟨q0,q1⟩:=hr2 j hjl;have z1:rs[k].rows[j].name.size<=maxLen:=(Yg.out _ (U8 hjl)).1;have hj1:=bC j;have hj2:(j:Int)<(rs[k].rows.length:Int):=by omega
   obtain⟨kl,hkl⟩:=jL (rs[k].name,rs[k].rows[j].name) z0 z1;have Xz:Hid (keyOf prog 94 (dX (rs[k].name,rs[k].rows[j].name))=some kl):=hkl;obtain⟨W2,hW2⟩:∃W2,W2=wr.alloc (.cells #[.string rs[k].rows[j].name,.slice rs[k].rows[j].ad rs[k].rows[j].rows.length rs[k].rows[j].cap] 147):=⟨_,rfl⟩;have hal:ae wr W2:=by rw[hW2];exact(Vb _ _).alloc (Va _) _
   have Xm:Hid (aM dX prog 94 W2 w.heap.size (k*6+j) (lF rs[k].name (fe (fun _=>none) (rs.take k)) (rs[k].rows.take j))):=HM.out.below hal;have HB2:=jF HB hal;have hc1:=aJ hal HC.out.1 HC.out.2;have Xh:Hid (wo.heap.size<W2.heap.size/\W2.cell? ⟨wo.heap.size,0,none⟩=some (.string rs[k].name)):=⟨U9 HC.out.1 hal.size,hc1⟩;have g0:W2.cell? ⟨wr.heap.size,0,none⟩=some (.string rs[k].rows[j].name):=by rw[hW2];simp
   have g1:W2.cell? ⟨wr.heap.size,1,none⟩=some (.slice rs[k].rows[j].ad rs[k].rows[j].rows.length rs[k].rows[j].cap):=by rw[hW2];simp
   have hsz:wo.heap.size<wr.heap.size:=HC.out.1;have hc0:=HC.out.2;rw[had];clear hr hok hr2 hkl HM hal HC;go_wp2_with(first|(at_mapUpdate;rw[<-hW2];refine jd _ rfl _ _ _ 91 rfl 94 33 iW vC underlying91 w.heap.size (k*6+j) _ rfl Xm.out (by unfold maxLen;omega) (rs[k].name,rs[k].rows[j].name) kl rfl Xz.out _ rfl ?_;intro w3 hV3 hg3)|go_in);have HM4:Hid (aM dX prog 94 w3 w.heap.size (k*6+(j+1)) (lF rs[k].name (fe (fun _=>none) (rs.take k)) (rs[k].rows.take (j+1)))):=by
    show aM _ _ _ _ _ _ _;rw[JJ _ _ _ _ hjl];exact hV3
   have Xu:Hid (ae w w3):=HB2.out.grown hg3 HB2.out.size (fun i hi=>by injection hi with hi;omega);have HC4:Hid (wo.heap.size<w3.heap.size/\w3.cell? ⟨wo.heap.size,0,none⟩=some (.string rs[k].name)):=⟨U9 Xh.out.1 hg3.size,by rw[hg3.cell_far _ Xh.out.1 (by simp;omega)];exact Xh.out.2⟩;clear hV3 hg3 hW2 Xm HB2 Xh g0 g1 q0 q1 hc0 hc1;go_wp2;go_roundw;case rel=>exact⟨j+1,by omega,by go_num,HM4,Xu,HC4⟩
   simp[intOf]<;>omega
  obtain rfl:j=rs[k].rows.length:=by omega
  have HM4:Hid (aM dX prog 94 wr w.heap.size ((k+1)*6) (fe (fun _=>none) (rs.take (k+1)))):=by
   show aM _ _ _ _ _ _ _;have:=HM.out;rw[Vs]at this;rw[Fh _ _ _ hlt];exact this.mono (by omega)
  clear HM;go_wp2;go_roundw;case rel=>exact⟨k+1,by omega,by go_num,HM4,HB⟩
  simp[intOf]<;>omega
 obtain rfl:k=rs.length:=by omega
 have HM4:Hid (aM dX prog 94 wr w.heap.size 36 (pJ rs)):=by
  show aM _ _ _ _ _ _ _;have:=HM.out;rw[Vs]at this;exact this.mono (by omega)
 go_wp2;go_ret;exact⟨rfl,HM4.out,HB.out⟩
theorem Te:∀x:List UInt8,Op.bytesLess x x=false
 | []=>rfl
 | a::x=>by simp[Op.bytesLess,Te x]
theorem Tf:∀x y z:List UInt8,Op.bytesLess x y=true->Op.bytesLess y z=true->Op.bytesLess x z=true
 | [],_,[],h,k=>by cases ‹List UInt8› <;> simp [Op.bytesLess] at h k
 | [],_,_::_,_,_=>rfl
 | _::_,[],_,h,_=>by simp[Op.bytesLess]at h
 | _::_,_::_,[],_,k=>by simp[Op.bytesLess]at k
 | a::x,b::y,c::z,h,k=>by
  simp only[Op.bytesLess,Bool.or_eq_true,Vd,Vk,beq_iff_eq]at h k ⊢;rcases h with h|⟨h,h'⟩
  ·rcases k with k|⟨k,k'⟩
   ·exact .inl (UInt8.lt_trans h k)
   exact .inl (k ▸ h)
  rcases k with k|⟨k,k'⟩
  ·exact .inl (h ▸ k)
  exact .inr ⟨h.trans k,Tf x y z h' k'⟩
theorem r9{f:Nat->ByteArray}{n:Nat}(h:∀i,i+1<n->jw (f i) (f (i+1))=true):∀i j,i<j->j<n->f i≠f j:=by
 have h2:∀d i,i+d+1<n->jw (f i) (f (i+d+1))=true:=by
  intro d
  induction d with
  | zero=>intro i hi;exact h i (by omega)
  | succ d ih =>
   intro i hi;have h3:=ih i (by omega);have h4:=h (i+d+1) (by omega);exact Tf _ _ _ h3 h4
 intro i j hij hj e;have h5:=h2 (j-i-1) i (by omega);have e2:i+(j-i-1)+1=j:=by omega
 rw[e2,e]at h5;unfold jw at h5;rw[Te]at h5;cases h5
theorem l6{rs:Q06}(h:bq (ag rs)=true)(k:Nat)(hk:k<rs.length):aU rs[k].name=true/\(∀i (hi:i<rs.length),k=i+1->jw rs[i].name rs[k].name=true)/\dL (eT rs[k].rows) rs[k].rows.length=true:=by
 simp only[bq,Vd,Vk]at h;rw[lN]at h;have h1:=pu h.2 k hk;unfold kP at h1;have e:(ag rs)[k]?=some rs[k].p:=by simp[ag,hk]
 rw[e]at h1;simp only[Vd,Vk]at h1;have e2:rs[k].p.rels.length=rs[k].rows.length:=by simp[TR.p,eT]
 rw[e2]at h1;refine⟨h1.1.1.1,fun i hi hki=>?_,h1.2⟩;subst hki;have h2:=h1.1.1.2;have e3:(ag rs)[i]?=some rs[i].p:=by simp[ag,hi]
 simp only[e3,Option.map_some,VO]at h2;exact h2
theorem DN{rs:Q07}{n:Nat}(h:dL (eT rs) n=true)(k:Nat)(hk:k<rs.length)(hn:k<n):aU rs[k].name=true/\(∀i (hi:i<rs.length),k=i+1->jw rs[i].name rs[k].name=true)/\aN (ak rs[k].rows)=true:=by
 have h1:=pq h k hn;unfold mI at h1;have e:(eT rs)[k]?=some rs[k].p:=by simp[eT,hk]
 rw[e]at h1;simp only[Vd]at h1;refine⟨h1.1.1,fun i hi hki=>?_,h1.2⟩;subst hki;have h2:=h1.1.2;have e3:(eT rs)[i]?=some rs[i].p:=by simp[eT,hi]
 simp only[e3,Option.map_some,VO]at h2;exact h2
theorem G8{rs:Q06}(h:bq (ag rs)=true){t t':TR}(ht:t∈rs)(ht':t'∈rs)(e:t.name=t'.name):t=t':=by
 obtain ⟨i,hi,rfl⟩:=VP.1 ht;obtain ⟨j,hj,rfl⟩:=VP.1 ht';have hne:=r9 (f:=fun k=>(rs[k]?.map TR.name).getD ByteArray.empty) (n:=rs.length) (fun k hk=>by
  have h0:k<rs.length:=by omega
  simp only[Vg hk,Vg h0,Option.map_some,VO];exact(l6 h (k+1) hk).2.1 k h0 rfl)
 by_cases hij:i=j
 ·subst hij;rfl
 exfalso;rcases Nat.lt_or_gt_of_ne hij with hl|hl
 ·have:=hne i j hl hj;simp[hi,hj]at this;exact this e
 have:=hne j i hl hi;simp[hi,hj]at this;exact this e.symm
theorem G9{rs:Q07}(h:dL (eT rs) rs.length=true){t t':RR}(ht:t∈rs)(ht':t'∈rs)(e:t.name=t'.name):t=t':=by
 obtain ⟨i,hi,rfl⟩:=VP.1 ht;obtain ⟨j,hj,rfl⟩:=VP.1 ht';have hne:=r9 (f:=fun k=>(rs[k]?.map RR.name).getD ByteArray.empty) (n:=rs.length) (fun k hk=>by
  have h0:k<rs.length:=by omega
  simp only[Vg hk,Vg h0,Option.map_some,VO];exact(DN h (k+1) hk hk).2.1 k h0 rfl)
 by_cases hij:i=j
 ·subst hij;rfl
 exfalso;rcases Nat.lt_or_gt_of_ne hij with hl|hl
 ·have:=hne i j hl hj;simp[hi,hj]at this;exact this e
 have:=hne j i hl hi;simp[hi,hj]at this;exact this e.symm
theorem JK{t:ByteArray}{M:ByteArray×ByteArray->Option Value}{qs:Q07}{k:Q01}{v:Value}(h:lF t M qs k=some v):M k=some v \/ ∃q∈qs,k=(t,q.name)/\v=q.sl:=by
 induction qs generalizing M with
 | nil=>exact .inl h
 | cons q qs ih =>
  simp only[lF]at h;rcases ih h with h|⟨q',hq,e⟩
  ·by_cases e:k=(t,q.name)
   ·rw[e,ed]at h;injection h with h;exact .inr ⟨q,by simp,e,h.symm⟩
   rw[dm e]at h;exact .inl h
  exact .inr ⟨q',by simp[hq],e⟩
theorem yB{t:ByteArray}{M:ByteArray×ByteArray->Option Value}{qs:Q07}{k:Q01}(h:(M k).isSome=true \/ ∃q∈qs,k=(t,q.name)):(lF t M qs k).isSome=true:=by
 induction qs generalizing M with
 | nil=>rcases h with h|⟨q,hq,-⟩;exact h;cases hq
 | cons q qs ih =>
  simp only[lF];refine ih ?_;by_cases e:k=(t,q.name)
  ·left;rw[e,ed];rfl
  rcases h with h|⟨q',hq,e'⟩
  ·left;rw[dm e];exact h
  rcases Vq.1 hq with rfl|hq
  ·exact absurd e' e
  exact .inr ⟨q',hq,e'⟩
theorem Fj{M:ByteArray×ByteArray->Option Value}{rs:Q06}{k:Q01}{v:Value}(h:fe M rs k=some v):M k=some v \/ ∃t∈rs,∃q∈t.rows,k=(t.name,q.name)/\v=q.sl:=by
 induction rs generalizing M with
 | nil=>exact .inl h
 | cons t rs ih =>
  simp only[fe]at h;rcases ih h with h|⟨t',ht,e⟩
  ·rcases JK h with h|⟨q,hq,e⟩
   ·exact .inl h
   exact .inr ⟨t,by simp,q,hq,e⟩
  exact .inr ⟨t',by simp[ht],e⟩
theorem tH{M:ByteArray×ByteArray->Option Value}{rs:Q06}{k:Q01}(h:(M k).isSome=true \/ ∃t∈rs,∃q∈t.rows,k=(t.name,q.name)):(fe M rs k).isSome=true:=by
 induction rs generalizing M with
 | nil=>rcases h with h|⟨q,hq,-⟩;exact h;cases hq
 | cons t rs ih =>
  simp only[fe];refine ih ?_;rcases h with h|⟨t',ht,q,hq,e⟩
  ·exact .inl (yB (.inl h))
  rcases Vq.1 ht with rfl|ht
  ·exact .inl (yB (.inr ⟨q,hq,e⟩))
  exact .inr ⟨t',ht,q,hq,e⟩
theorem JL{rs:List Rl}{n:ByteArray}(h:jX rs n=none):∀r∈rs,r.name≠n:=by
 induction rs with
 | nil=>intro r hr;cases hr
 | cons r rs ih =>
  simp only[jX]at h;split at h
  ·cases h
  rename_i hn;intro q hq;rcases Vq.1 hq with rfl|hq
  ·exact fun e=>hn (fD.2 e)
  exact ih h q hq
theorem MF{ts:Q0b}{ty n:ByteArray}(h:eD ts ty n=none):∀t∈ts,t.name=ty->∀r∈t.rels,r.name≠n:=by
 induction ts with
 | nil=>intro t ht;cases ht
 | cons t ts ih =>
  simp only[eD]at h;intro q hq e;split at h
  ·rw[Option.or_eq_none_iff]at h;rcases Vq.1 hq with rfl|hq
   ·exact JL h.1
   exact ih h.2 q hq e
  rename_i hn;rcases Vq.1 hq with rfl|hq
  ·exact absurd (fD.2 e) hn
  exact ih h q hq e
theorem qX{rs:Q06}{ty n:ByteArray}{es:Q09}(h:eD (ag rs) ty n=some es):∃t∈rs,∃q∈t.rows,t.name=ty/\q.name=n/\ak q.rows=es:=by
 obtain⟨t,ht,r,hr,e1,e2,e3⟩:=qM h;obtain⟨t',ht',rfl⟩:=Vo.1 ht;obtain⟨q,hq,rfl⟩:=Vo.1 hr;exact⟨t',ht',q,hq,e1,e2,e3⟩
structure Tab(rs:Q06)(M:ByteArray×ByteArray->Option Value):Prop where
 no:∀k,M k=none->eD (ag rs) k.1 k.2=none
 yes:∀k v,M k=some v->∃t∈rs,∃q∈t.rows,k=(t.name,q.name)/\v=q.sl/\eD (ag rs) k.1 k.2=some (ak q.rows)/\aN (ak q.rows)=true
theorem pK{rs:Q06}(h:bq (ag rs)=true):Tab rs (pJ rs) where
 no k hk:=by
  cases e:eD (ag rs) k.1 k.2 with
  | none=>rfl
  | some es =>
   obtain⟨t,ht,q,hq,e1,e2,-⟩:=qX e;have:=tH (M:=fun _=>none) (rs:=rs) (k:=k) (.inr ⟨t,ht,q,hq,by rw[e1,e2]⟩);unfold pJ at hk;rw[hk]at this;cases this
 yes k v hk:=by
  rcases Fj hk with h0|⟨t,ht,q,hq,e,ev⟩
  ·cases h0
  have hSF:=bG h;refine⟨t,ht,q,hq,e,ev,?_,(hSF.2.2 t ht q hq).1⟩;cases e2:eD (ag rs) k.1 k.2 with
  | none=>exact(MF e2 t.p (VK ht) (by rw[e];rfl) q.p (VK hq) (by rw[e];rfl)).elim
  | some es =>
   obtain⟨t',ht',q',hq',e3,e4,e5⟩:=qX e2;have h1:t'=t:=G8 h ht' ht (by rw[e3,e]);subst h1;obtain⟨i,hi,rfl⟩:=VP.1 ht;have h2:q'=q:=G9 (l6 h i hi).2.2 hq' hq (by rw[e4,e]);subst h2;rw[e5]
theorem Tab.some_iff{rs:Q06}{M:ByteArray×ByteArray->Option Value}(h:Tab rs M)(k:Q01):(M k).isSome=!(aB (ag rs) k.1 k.2).isEmpty:=by
 unfold aB;cases e:M k with
 | none=>rw[h.no k e];rfl
 | some v =>
  obtain⟨t,ht,q,hq,-,-,e1,e2⟩:=h.yes k v e;rw[e1];have:=oo e2;cases e3:ak q.rows with
  | nil=>rw[e3]at this;simp at this
  | cons x xs=>rfl
theorem Bc(d:Dp):0<=stepOf d/\stepOf d<=1:=by unfold stepOf;split<;>omega
structure Mid(ts:Q0b)(n:Nat)(oS:List St)(k j:Nat)(mb:Bool)(out:List St):Prop where
 len:out.length=n
 nn:n=(au ts).length
 round:Round ts out
 le:∀i (h:i<out.length),i≠k->out[i].n<=n
 lek:∀h:k<out.length,out[k].n<=n+1+j
 same:mb=false->out=oS/\(∀i (h:i<out.length),i<k->Ro ts out out[i] (iG ts out[i].key).length)/\∀h:k<out.length,Ro ts out out[k] j
 grow:ni oS<=ni out/\(mb=true->ni oS<ni out)
theorem Mid.start{ts:Q0b}{n:Nat}{out:List St}(hl:out.length=n)(hn:n=(au ts).length)(hr:Round ts out)(hle:∀s∈out,s.n<=n):Mid ts n out 0 0 false out where
 len:=hl
 nn:=hn
 round:=hr
 le i h _:=hle _ (U8 h)
 lek h:=by have:=hle _ (U8 h);omega
 same _:=⟨rfl,fun i _ hi=>by omega,fun _ d hd=>by simp at hd⟩
 grow:=⟨Int.le_refl _,by simp⟩
theorem Mid.key{ts:Q0b}{n k j:Nat}{oS out:List St}{mb:Bool}(h:Mid ts n oS k j mb out)(hk:k<out.length)(hk2:k<(au ts).length):out[k].key=(au ts)[k]:=by
 have e:=h.round.keys;have:(iU out)[k]'(by simp[iU,hk])=(au ts)[k]:=by simp only[e]
 rw[<-this];simp[iU]
def pM(out:List St)(d:Dp):Int:=fT out (d.typ,d.rel)+stepOf d
theorem Mid.at{ts:Q0b}{n k j:Nat}{oS out:List St}{mb:Bool}(h:Mid ts n oS k j mb out)(key:Q01)(hk:key∈au ts):∃i:Nat,∃hi:i<out.length,il key.1 key.2 out 0=(i:Int)/\out[i].n=fT out key/\0<=fT out key/\fT out key<=n+1+j:=by
 obtain⟨i,hi,h1,h2,h3⟩:=pg out 0 (k:=key) (by rw[h.round.keys];exact hk);refine⟨i,hi,by rw[h1];congr 1;omega,h3,?_,?_⟩
 ·exact(h.round.at hk).1
 rw[<-h3];by_cases e:i=k
 ·subst e;exact h.lek hi
 have:=h.le i hi e;omega
theorem Mid.no{ts:Q0b}{n k j:Nat}{oS out:List St}{mb:Bool}(h:Mid ts n oS k j mb out)(hk:k<out.length)(d:Dp)(hd:(iG ts out[k].key)[j]?=some d)(hw:pM out d<=out[k].n):Mid ts n oS k (j+1) mb out where
 len:=h.len
 nn:=h.nn
 round:=h.round
 le:=h.le
 lek hh:=by have:=h.lek hh;omega
 same hm:=by
  obtain⟨e,s1,s2⟩:=h.same hm;refine⟨e,s1,fun hh d' hd'=>?_⟩;obtain⟨hj,hd2⟩:=List.getElem?_eq_some_iff.1 hd;rw[Ve hj]at hd';rcases Vn.1 hd' with hd'|hd'
  ·exact s2 hh d' hd'
  rw[hd2]at hd';simp at hd';subst hd';exact hw
 grow:=h.grow
theorem Mid.yes{ts:Q0b}{n k j:Nat}{oS out:List St}{mb:Bool}(h:Mid ts n oS k j mb out)(hF:Found ts)(hk:k<out.length)(d:Dp)(hd:(iG ts out[k].key)[j]?=some d)(hw:out[k].n<pM out d):Mid ts n oS k (j+1) true (out.set k ⟨out[k].typ,out[k].rel,pM out d⟩) where
 len:=by rw[List.length_set];exact h.len
 nn:=h.nn
 round:=h.round.set hF hk (We hd)
 le i hi hne:=by
  rw[List.getElem_set_ne (Ne.symm hne)];exact h.le i (by simpa using hi) hne
 lek hh:=by
  rw[List.getElem_set_self];show pM out d<=_;obtain⟨i,hi,-,-,-,h4⟩:=h.at (d.typ,d.rel) (hF _ (h.round.mem (U8 hk)) d (We hd));have:=Bc d;unfold pM;push_cast;omega
 same hm:=by cases hm
 grow:=by
  have:=h.grow.1;rw[OL _ _ hk];exact⟨by omega,fun _=>by omega⟩
theorem Mid.next{ts:Q0b}{n k j:Nat}{oS out:List St}{mb:Bool}(h:Mid ts n oS k j mb out)(hk:k<out.length)(hj:j=(iG ts out[k].key).length)(hle:out[k].n<=n):Mid ts n oS (k+1) 0 mb out where
 len:=h.len
 nn:=h.nn
 round:=h.round
 le i hi _:=by
  by_cases e:i=k
  ·subst e;exact hle
  exact h.le i hi e
 lek hh:=by have:=h.le (k+1) hh (by omega);omega
 same hm:=by
  obtain⟨e,s1,s2⟩:=h.same hm;refine⟨e,fun i hi hik=>?_,fun _ d hd=>by simp at hd⟩;by_cases e2:i=k
  ·subst e2;have:=s2 hi;rw[hj]at this;exact this
  exact s1 i hi (by omega)
 grow:=h.grow
theorem Mid.over{ts:Q0b}{n k j:Nat}{oS out:List St}{mb:Bool}(h:Mid ts n oS k j mb out)(hF:Found ts)(hk:k<out.length)(hn:(n:Int)<out[k].n):¬ ∃f,Sol ts f :=
 Jn hF (h.round.mem (U8 hk)) (h.round.low _ (U8 hk)) (by have:=h.nn;omega)
structure Pass(ts:Q0b)(n:Nat)(mb:Bool)(out:List St):Prop where
 len:out.length=n
 nn:n=(au ts).length
 round:Round ts out
 le:∀s∈out,s.n<=n
 sat:mb=false->∀s∈out,Ro ts out s (iG ts s.key).length
theorem Mid.done{ts:Q0b}{n k j:Nat}{oS out:List St}{mb:Bool}(h:Mid ts n oS k j mb out)(hk:k=n):Pass ts n mb out where
 len:=h.len
 nn:=h.nn
 round:=h.round
 le s hs:=by
  obtain⟨i,hi,rfl⟩:=VP.1 hs;exact h.le i hi (by have:=h.len;omega)
 sat hm s hs:=by
  obtain⟨e,s1,s2⟩:=h.same hm;obtain⟨i,hi,rfl⟩:=VP.1 hs;exact s1 i hi (by have:=h.len;omega)
theorem Pass.least{ts:Q0b}{n:Nat}{out:List St}(h:Pass ts n false out):Least ts (fT out):=h.round.done (h.sat rfl)
theorem Pass.zero{ts:Q0b}{n:Nat}(hn:n=(au ts).length):Pass ts n true (G7 (au ts)) where
 len:=by rw[Ff,hn]
 nn:=hn
 round:=⟨by unfold iU G7;rw[List.map_map];exact List.map_id _,fun s hs=>by simp[G7]at hs;obtain⟨a,b,-,rfl⟩:=hs;exact Int.le_refl _,fun s hs=>by simp[G7]at hs;obtain⟨a,b,-,rfl⟩:=hs;exact qJ.zero _ _⟩
 le s hs:=by simp[G7]at hs;obtain⟨a,b,-,rfl⟩:=hs;simp
 sat h:=by cases h
theorem RP(n:Int)(out:List St)(h:∀s∈out,s.n<=n):ni out<=n*out.length:=by
 induction out with
 | nil=>simp[ni]
 | cons s xs ih =>
  have h1:=h s (by simp);have h2:=ih fun q hq=>h q (by simp[hq]);simp only[ni,VI];have:n*((xs.length+1:Nat):Int)=n*xs.length+n:=by push_cast;rw[Int.mul_add];simp
  omega
structure RowS(w wr:World)(ad:Q02)(g:Nat)(out:List St):Prop where
 below:ae w wr
 at':out=[]\/(ad=some ⟨g,0,none⟩/\w.heap.size<=g/\g<wr.heap.size/\U1 wr g out/\∀j,wr.frozen? ⟨g,j,none⟩=false)
theorem Ur.kept{w w':af}{b off:Nat}{s:St}(h:Ur w b off s)(hb:b<w.heap.size)(hB:ae w w'):Ur w' b off s:=⟨aJ hB hb h.1,aJ hB hb h.2.1,aJ hB hb h.2.2⟩
theorem RowS.kept{w wr w2:af}{ad:Q02}{g:Nat}{out:List St}(h:RowS w wr ad g out)(hb:ae wr w2):RowS w w2 ad g out where
 below:=h.below.trans (hb.mono h.below.size)
 at':=by
  rcases h.at' with e|⟨e,h1,h2,h3,h4⟩
  ·exact .inl e
  exact .inr ⟨e,h1,U9 h2 hb.size,fun i hi=>(h3 i hi).kept h2 hb,fun j=>by rw[hb.frozen (p:=⟨g,j,none⟩) h2];exact h4 j⟩
theorem RowS.slN{w wr:af}{ad:Q02}{g:Nat}{out:List St}(h:RowS w wr ad g out):I6 wr ad out:=by
 rcases h.at' with e|⟨e,h1,h2,h3,h4⟩
 ·exact .inl e
 exact .inr ⟨g,0,e,h2,fun i hi=>by rw[VC];exact h3 i hi⟩
theorem RowS.set{w wr:af}{ad:Q02}{g:Nat}{out:List St}(h:RowS w wr ad g out){k:Nat}(hk:k<out.length)(n:Int):RowS w (wr.setCell ⟨g,k*3+2,none⟩ (.int .i64 n)) ad g (out.set k ⟨out[k].typ,out[k].rel,n⟩):=by
 rcases h.at' with e|⟨e,h1,h2,h3,h4⟩
 ·rw[e]at hk;simp at hk
 refine⟨h.below.setCell (p:=⟨g,k*3+2,none⟩) h1 _,.inr ⟨e,h1,by simpa using h2,fun i hi=>?_,fun j=>by simpa using h4 j⟩⟩;have hi':i<out.length:=by simpa using hi
 obtain⟨c0,c1,c2⟩:=h3 i hi';by_cases ei:i=k
 ·subst ei;rw[List.getElem_set_self];exact⟨by rw[qz (by omega)];exact c0,by rw[qz (by omega)];exact c1,zG c2⟩
 rw[List.getElem_set_ne (Ne.symm ei)];exact⟨by rw[qz (by omega)];exact c0,by rw[qz (by omega)];exact c1,by rw[qz (by omega)];exact c2⟩
def Ps(w:World)(g i:Nat):Int:=match w.cell? ⟨g,i*3+2,none⟩ with|some (.int _ x)=>x|_=>0
def JM(w:World)(g:Nat):Nat->Int
 | 0=>0
 | n+1=>JM w g n+Ps w g n
theorem Ha(xs ys:List St):ni (xs++ys)=ni xs+ni ys:=by
 induction xs with
 | nil=>simp[ni]
 | cons s xs ih=>simp only[VS,ni,ih];omega
theorem U1.sum{w:af}{g:Nat}{out:List St}(h:U1 w g out):∀k,k<=out.length->JM w g k=ni (out.take k)
 | 0,_=>by simp[JM,ni]
 | k+1,hk=>by
  have hlt:k<out.length:=by omega
  rw[Ve hlt,Ha];simp only[JM,h.sum k (by omega),ni];have:Ps w g k=out[k].n:=by unfold Ps;rw[(h k hlt).2.2]
  omega
theorem RowS.sum{w wr:af}{ad:Q02}{g:Nat}{out:List St}(h:RowS w wr ad g out):JM wr g out.length=ni out:=by
 rcases h.at' with e|⟨e,h1,h2,h3,h4⟩
 ·rw[e];simp[JM,ni]
 rw[h3.sum _ (Va _),Vs]
def Pt:Value->Int
 | .bool true=>1
 | _=>0
def DR(w:World)(g n:Nat)(m:Value):Nat:=(2*((n:Int)*n-JM w g n)+Pt m).toNat
theorem JN{ts:Q0b}{w wr w2:af}{ad:Q02}{g n:Nat}{oS out:List St}{mb:Bool}(hS:RowS w wr ad g oS)(hO:RowS w w2 ad g out)(h:Mid ts n oS n 0 mb out)(hl:oS.length=n):DR w2 g n (.bool mb)<DR wr g n (.bool true):=by
 have e1:=hS.sum;have e2:=hO.sum;have h3:=RP n out fun s hs=>(h.done rfl).le s hs;have h2:=h.len;have h4:=h.grow;rw[hl]at e1;rw[h2]at e2 h3;unfold DR;rw[e1,e2];cases mb;case false=>simp only[Pt];omega
 have:=h4.2 rfl;simp only[Pt];omega
theorem RQ{w wr:af}{v:Value}{out:List St}(hB:ae w wr)(h:wr.ownsRow w.heap.size 162 3 v out.length (iV out)):∃ad cp g,v=.slice ad out.length cp/\RowS w wr ad g out:=by
 rcases h.2 with⟨rfl,h0⟩|⟨g,cp,cur,rfl,hbg,hg,hnc,-⟩
 ·exact⟨none,0,0,by rw[h0],hB,.inl (Vr.1 h0)⟩
 obtain⟨ad,cp',e,h0⟩:=UL h;injection e with e1 e2 e3;refine⟨some ⟨g,0,none⟩,cp,g,rfl,hB,?_⟩;rcases h0 with h0|⟨g',e4,h1,h2,h3⟩
 ·exact .inl (Vr.1 h0)
 rw[<-e1]at e4;injection e4 with e4;injection e4 with e4;subst e4;exact .inr ⟨rfl,h1,h2,h3,fun j=>by simp[World.frozen?,hg]⟩
theorem TP(ad:Q02)(cap n:Nat)(xs:List St)(key:Q01)(w:af)(hn:xs.length=n)(hlen:n<=1048576)(hs:I6 w ad xs)(i:Nat)(hat:il key.1 key.2 xs 0=(i:Int)):
  Calls prog 140 #[.slice ad n cap,.string key.1,.string key.2] w fun e w'=>e=.returned (.int .i64 (i:Int))/\w'=w:=by
 subst hn;rw[<-hat];exact Oi ad cap xs key.1 key.2 w hlen hs
theorem AtD.set{w:af}{b off g o:Nat}{d:Dp}{v:Value}(h:AtD w b off d)(hn:g≠b):AtD (w.setCell ⟨g,o,none⟩ v) b off d:=⟨by rw[yh hn];exact h.1,by rw[yh hn];exact h.2.1,by rw[yh hn];exact h.2.2⟩
theorem Td.set{w:af}{lo g o:Nat}{ad:Q02}{xs:List Dp}{v:Value}(h:Td w lo ad xs)(hg:g<lo):Td (w.setCell ⟨g,o,none⟩ v) lo ad xs:=by
 rcases h with h|⟨b,e,h1,h2,h3⟩
 ·exact .inl h
 exact .inr ⟨b,e,h1,by simpa using h2,fun i hi=>(h3 i hi).set (by omega)⟩
theorem keepD{wr W w':af}{g o1 o2:Nat}{x y:Value}(h:W.cell? ⟨g,o1,none⟩=some x/\W.cell? ⟨g,o2,none⟩=some y/\g<W.heap.size/\ae wr W)(hb:ae W w'):
  w'.cell? ⟨g,o1,none⟩=some x/\w'.cell? ⟨g,o2,none⟩=some y/\g<w'.heap.size/\ae wr w' :=
 ⟨aJ hb h.2.2.1 h.1,aJ hb h.2.2.1 h.2.1,U9 h.2.2.1 hb.size,h.2.2.2.trans (hb.mono h.2.2.2.size)⟩
theorem nY.small{rs:Q06}{ad:Q02}{rows:Q08}(h:nY rs ad rows)(hl:∀r∈rs,∀q∈r.rows,q.rows.length<=15/\∀e∈q.rows,eZ q.rows.length e.e.kids):rows.length<=15/\∀e∈rows,eZ rows.length e.e.kids:=by
 rcases h with rfl|⟨t,ht,q,hq,rfl,-⟩
 ·exact⟨by simp,by simp⟩
 exact hl t ht q hq
theorem Bd(ts:Q0b)(ty over rel:bW):(iC ts ty over rel).length<=(aY (aB ts ty over)).length:=I4 _ _ _
theorem JO(ts:Q0b)(typ:bW)(es:Q09)(A G:Nat)(hA:∀e∈es,e.allow.length<=A)(hG:∀over rel,(iC ts typ over rel).length<=G)(k:Nat):(aS ts typ es k).length<=k*(A+G+1):=by
 induction k with
 | zero=>simp[aS]
 | succ k ih =>
  simp only[aS,Vh];have:(iD ts typ es k).length<=A+G+1:=by
   unfold iD;split
   ·simp
   rename_i e he;have h1:=hA e (We he);have h2:=Da ((dC es).getD k false) e.allow;have h3:(lw ts typ ((dC es).getD k false) e).length<=G+1:=by
    unfold lw;split
    ·simp
    split
    ·have:=hG e.over e.name;simp;omega
    simp
   rw[Vh];omega
  have e:(k+1)*(A+G+1)=k*(A+G+1)+(A+G+1):=Nat.succ_mul _ _;omega
theorem Cy(ts:Q0b)(typ:bW)(es:Q09)(k:Nat)(h:es.length<=k):iD ts typ es k=[]:=by
 unfold iD;rw[List.getElem?_eq_none h]
theorem JP(ts:Q0b)(typ:bW)(es:Q09)(B:Nat)(hB:∀k,k<=es.length->(aS ts typ es k).length<=B)(k:Nat):(aS ts typ es k).length<=B:=by
 induction k with
 | zero=>exact hB 0 (Vf _)
 | succ k ih =>
  by_cases h:k+1<=es.length
  ·exact hB _ h
  simp only[aS];rw[Cy _ _ _ _ (by omega),V4];exact ih
theorem Hd(rs:Q07)(n:bW)(es:Q09)(h:jX (eT rs) n=some es):∃q∈rs,es=ak q.rows:=by
 induction rs with
 | nil=>simp[eT,jX]at h
 | cons r rs ih =>
  simp only[eT,Wn,jX]at h;split at h
  ·injection h with h;exact⟨r,by simp,h.symm⟩
  obtain⟨q,hq,e⟩:=ih h;exact⟨q,by simp[hq],e⟩
theorem JQ(ts:Q06)(ty n:bW)(es:Q09)(h:eD (ag ts) ty n=some es):∃t∈ts,∃q∈t.rows,es=ak q.rows:=by
 induction ts with
 | nil=>simp[ag,eD]at h
 | cons t ts ih =>
  simp only[ag,Wn,eD]at h;split at h
  ·rcases Option.or_eq_some_iff.1 h with h|⟨-,h⟩
   ·obtain⟨q,hq,e⟩:=Hd _ _ _ h;exact⟨t,by simp,q,hq,e⟩
   obtain⟨t',ht,q,hq,e⟩:=ih h;exact⟨t',by simp[ht],q,hq,e⟩
  obtain⟨t',ht,q,hq,e⟩:=ih h;exact⟨t',by simp[ht],q,hq,e⟩
theorem yC(rs:Q06)(hl:∀r∈rs,r.light)(typ over rel:bW):(iC (ag rs) typ over rel).length<=1048576:=by
 refine Vj (Bd _ _ _ _) ?_;unfold aB;cases h:eD (ag rs) typ over with
 | none=>simp[aY]
 | some es =>
  obtain⟨t,ht,q,hq,rfl⟩:=JQ _ _ _ _ h;exact zL q.rows ((hl t ht).2 q hq).2
theorem Be(rs:Q06)(hl:∀r∈rs,r.light)(typ:bW)(rows:Q08)(hle:rows.length<=15)(hlE:∀q∈rows,q.e.light)(k:Nat):(aS (ag rs) typ (ak rows) k).length<=100000000:=by
 refine JP _ _ _ _ (fun k hk=>?_) k;refine Vj (JO _ _ _ 1048576 1048576 (fun e he=>?_) (yC rs hl typ) k) ?_
 ·obtain⟨q,hq,rfl⟩:=Vo.1 he;exact(hlE q hq).1
 rw[aR]at hk;omega
theorem oF(w:af):(zeroValue 33).run prog w=.ok (.slice none 0 0) w:=by kernel_rfl
theorem zy(b n:Nat)(M:ByteArray×ByteArray->Option Value)(t r:bW)(w:af)(ht:t.size<=maxLen)(hr:r.size<=maxLen)(hV:aM dX prog 94 w b n M):
  Calls prog 184 #[.map (some b),.string t,.string r] w fun e w'=>e=.returned (.bool (M (t,r)).isSome)/\w'=w:=by
 obtain⟨kl,hkl⟩:=jL (t,r) ht hr;have HV:Hid (aM dX prog 94 w b n M):=hV;have Xz:Hid (keyOf prog 94 (dX (t,r))=some kl):=hkl;clear hkl hV;go_enter func184,ntmps184;go_wp2_with(first|(at_lookup;refine dQ _ rfl _ _ 91 rfl 94 33 iW underlying91 (oF _) b n M rfl HV.out (t,r) kl rfl Xz.out ?_)|go_in);go_ret;exact⟨rfl,rfl⟩
theorem DT(a:Al)(w:af):
  Calls prog 243 #[.agg #[.string a.t,.string a.s]] w fun e w'=>e=.returned (.bool (!a.s.toList.isEmpty))/\ae w w':=by
 cases h:a.s.toList.isEmpty;case true=>
  go_enter func243,ntmps243;go_wp2;go_ret;exact⟨rfl,(Vb _ _).alloc (Va _) _⟩
 go_enter func243,ntmps243;go_wp2;go_ret;exact⟨rfl,(Vb _ _).alloc (Va _) _⟩
theorem yD(xs:Q0a)(k:Nat)(h:k<xs.length):(xs.drop k).any (fun a=>!a.s.toList.isEmpty)=((!xs[k].s.toList.isEmpty) || (xs.drop (k+1)).any (fun a=>!a.s.toList.isEmpty)):=by
 rw[VG h];rfl
theorem Cz(ad:Q02)(cap:Nat)(xs:Q0a)(w:af)(hlen:xs.length<=1048576)(hs:lK w ad xs):
  Calls prog 253 #[.slice ad xs.length cap,.func (Fn.func 243) #[] #[]] w fun e w'=>(∃r:Int,e=.returned (.int .i64 r)/\decide (0<=r)=xs.any (fun a=>!a.s.toList.isEmpty))/\ae w w':=by
 have HS:=aD hs;clear hs;go_enter func253,ntmps253;go_wp2_with fail;go_loopw[8] (fun i wr=>∃k:Nat,k<=xs.length/\i=.int .i64 k/\Hid ((xs.drop k).any (fun a=>!a.s.toList.isEmpty)=xs.any (fun a=>!a.s.toList.isEmpty))/\Hid (ae w wr)) (fun i _=>xs.length-(intOf i).toNat);case atStart=>exact⟨0,Vf _,rfl,rfl,Vb _ _⟩
 obtain⟨k,hk,rfl,HP,HB⟩:=hrel;by_cases hlt:k<xs.length
 ·rcases HS.out.below HB.out with rfl|⟨b,off,rfl,hb,hr⟩
  ·simp at hlt
  obtain⟨t0,t1⟩:=hr k hlt;have hk1:=bC k;have hk2:(k:Int)<(xs.length:Int):=by omega
  clear hr;cases he:xs[k].s.toList.isEmpty;case false=>
   have HN:Hid (xs.any (fun a=>!a.s.toList.isEmpty)=true):=by show _=_;rw[<-HP.out,yD _ _ hlt,he];rfl
   go_wp2_with(go_at_call 243;refine(DT xs[k] _).mono ?_;rintro e w' ⟨he2,hbx⟩;rw[he]at he2;subst he2);go_ret;exact⟨⟨k,rfl,by rw[HN.out];simp⟩,HB.out.trans (hbx.mono HB.out.size)⟩
  have WB:Hid ((xs.drop (k+1)).any (fun a=>!a.s.toList.isEmpty)=xs.any (fun a=>!a.s.toList.isEmpty)):=by show _=_;rw[<-HP.out,yD _ _ hlt,he];rfl
  go_wp2_with(go_at_call 243;refine(DT xs[k] _).mono ?_;rintro e w' ⟨he2,hbx⟩;rw[he]at he2;subst he2);go_roundw;case rel=>exact⟨k+1,by omega,by go_num,WB,HB.out.trans (hbx.mono HB.out.size)⟩
  simp[intOf]<;>omega
 have HN:Hid (xs.any (fun a=>!a.s.toList.isEmpty)=false):=by show _=_;rw[<-HP.out,Vt (by omega)];rfl
 go_wp2;go_ret;exact⟨⟨-1,rfl,by rw[HN.out];simp⟩,HB.out⟩
theorem xU(ad:Q02)(cap:Nat)(xs:Q0a)(w:af)(hlen:xs.length<=1048576)(hs:lK w ad xs):
  Calls prog 242 #[.slice ad xs.length cap,.func (Fn.func 243) #[] #[]] w fun e w'=>e=.returned (.bool (xs.any (fun a=>!a.s.toList.isEmpty)))/\ae w w':=by
 go_enter func242,ntmps242;go_wp2_with fail;refine(Cz ad cap xs _ hlen hs).mono ?_;rintro e w' ⟨⟨r,rfl,hr⟩,hbx⟩;have HR:Hid (decide (0<=r)=xs.any (fun a=>!a.s.toList.isEmpty)):=hr;clear hr hs;go_wp2;go_ret;exact⟨by rw[<-HR.out];rfl,hbx⟩
theorem Pv(xs:Q0a):(!xs.any fun a=>!a.s.toList.isEmpty)=xs.all fun a=>a.s.toList.isEmpty:=by
 induction xs with
 | nil=>rfl
 | cons a xs ih=>simp only[Wo,List.all_cons,Bool.not_or,Bool.not_not,ih]
set_option maxRecDepth 100000 in
theorem ww(ad:Q02)(cap:Nat)(rs:Q08)(w:af)(hlen:rs.length<=1048576)(hs:ik w ad rs)(hl:∀r∈rs,r.e.light):
  Calls prog 224 #[.slice ad rs.length cap] w fun e w'=>e=.returned (.bool (bH (ak rs)))/\ae w w':=by
 by_cases h1:rs.length=1
 ·obtain⟨r,rfl⟩:∃r,rs=[r]:=List.length_eq_one_iff.1 h1;rcases hs with h|⟨b,off,rfl,hb,hr,hok⟩
  ·cases h
  obtain⟨t0,t1,t2,t3,t4⟩:=hr 0 (by simp);simp only[Nat.zero_mul,Nat.add_zero,List.getElem_cons_zero]at t0 t1 t2 t3 t4;have X0:Hid (r.ok w):=hok r (by simp);obtain⟨lg,-⟩:=hl r (by simp);clear hr hok h1;simp only[VI,Wj,VC];by_cases hq:r.e.kind=1
  ·have HD:Hid (bH (ak [r])=!r.e.allow.any fun a=>!a.s.toList.isEmpty):=by show _=_;rw[Pv];simp[bH,ak,hq]
   have hqb:(r.e.kind==1)=true:=by simpa using hq
   go_enter func224,ntmps224;go_wp2_with(go_at_call 242;refine(xU _ _ r.e.allow _ lg (X0.out.1.below ((Vb _ _)))).mono ?_;rintro e w' ⟨rfl,hbx⟩);go_ret;exact⟨by rw[HD.out];rfl,hbx⟩
  have HD:Hid (bH (ak [r])=false):=by show _=_;simp[bH,ak,hq]
  have hqb:(r.e.kind==1)=false:=by simpa using hq
  go_enter func224,ntmps224;go_wp2;go_ret;exact⟨by rw[HD.out];rfl,Vb _ _⟩
 have HD:Hid (bH (ak rs)=false):=by
  show _=_;rcases rs with _|⟨r,_|⟨r2,rs⟩⟩
  ·rfl
  ·simp at h1
  rfl
 have h2:((rs.length:Int)==1)=false:=by
  have:¬((rs.length:Int)=1):=by omega
  simpa using this
 clear hs;go_enter func224,ntmps224;go_wp2;go_ret;exact⟨by rw[HD.out];rfl,Vb _ _⟩
def gT(ts:Q0b)(ty over rel:ByteArray):List ByteArray:=if bH (aB ts ty over) then iC ts ty over rel else []
theorem MG:(prog.info? 9).map (fun i=>(i.zero,i.size,i.bytes))=some (some (.string ⟨#[]⟩),1,16):=by kernel_rfl
theorem JR(r:ER)(h:bH (ak [r])=true):aY (ak [r])=r.e.allow/\r.e.kind=1:=by
 simp only[ak,Wn,List.map_nil,bH,Vd,Vk]at h;exact⟨by simp[ak,aY,h.1],h.1⟩
theorem JS{rows:Q08}(h:bH (ak rows)=true):∃r,rows=[r]:=by
 rcases rows with _|⟨r,_|⟨r2,rs⟩⟩
 ·simp[ak,bH]at h
 ·exact⟨r,rfl⟩
 simp[ak,bH]at h
set_option maxRecDepth 100000 in
theorem yE(b n:Nat)(rs:Q06)(ad:Q02)(M:ByteArray×ByteArray->Option Value)(typ:bW)(x:ER)(w:af)(hV:aM dX prog 94 w b n M)(hT:Tab rs M)(hs:j5 w ad rs)(hl:∀r∈rs,r.light)(hf:∀r∈rs,r.fits)(ht:typ.size<=maxLen)(ho:x.e.over.size<=maxLen)(hn:x.e.name.size<=maxLen):
  Calls prog 185 #[.map (some b),.string typ,x.val] w fun e w'=>(∃(Wv:Q02) (cap':Nat),e=.returned (.slice Wv (gT (ag rs) typ x.e.over x.e.name).length cap')/\Tx w' Wv (gT (ag rs) typ x.e.over x.e.name)/\∀p,Wv=some p->w.heap.size<=p.block)/\ae w w':=by
 have HV:Hid (aM dX prog 94 w b n M):=hV;have HT:=aD hT;have HS:=aD hs;have HL:=aD hl;have WE:=aD hf;obtain⟨kl,hkl⟩:=jL (typ,x.e.over) ht ho;have Xz:Hid (keyOf prog 94 (dX (typ,x.e.over))=some kl):=hkl;clear hkl hV hT hs hl hf;obtain⟨i0,hi,hz0,hz1,hz2⟩:=info_parts MG;obtain⟨W0,hW0⟩:∃W0,W0=w.alloc (.cells #[.int .i64 x.e.kind,.slice x.adA x.e.allow.length x.capA,.string x.e.over,.string x.e.name,.slice x.adK x.e.kids.length x.capK] 39):=⟨_,rfl⟩;have hal:ae w W0:=by rw[hW0];exact(Vb _ _).alloc (Va _) _
 have HB0:=aD hal;have Z8:=aD (HV.out.below hal);have c3:W0.cell? ⟨w.heap.size,3,none⟩=some (.string x.e.name):=by rw[hW0];simp
 have hg0:w.heap.size<W0.heap.size:=by rw[hW0];simp
 -- what lies in the table
 obtain⟨rows,Ws,capE,HM,HE,HF,HFL⟩:∃(rows:Q08) (Ws:Q02) (capE:Nat),Hid ((M (typ,x.e.over)).getD (.slice none 0 0)=.slice Ws rows.length capE)/\Hid (ak rows=aB (ag rs) typ x.e.over)/\Hid (nY rs Ws rows)/\Hid (∀q∈rows,q.e.fits):=by
  cases e:M (typ,x.e.over) with
  | none=>exact⟨[],none,0,rfl,by show _=_;unfold aB;rw[HT.out.no _ e];rfl,.inl rfl,by show ∀_,_;simp⟩
  | some v =>
   obtain⟨t,htm,q,hq,-,rfl,e1,-⟩:=HT.out.yes _ v e;exact⟨q.rows,q.ad,q.cap,rfl,by show _=_;unfold aB;rw[e1];rfl,.inr ⟨t,htm,q,hq,rfl,rfl⟩,((WE.out t htm).2.2 q hq).2.2⟩
 have Yx:Hid (ik W0 Ws rows):=HF.out.sl (HS.out.below hal);have Xl:=HF.out.light HL.out;have HLE1:rows.length<=1048576:=Xl.1;have HLE2:Hid (∀q∈rows,q.e.light):=Xl.2;clear Xl hal;go_enter func185,ntmps185;unfold ER.val;go_wp2_with(at_lookup;rw[<-hW0];refine jK _ rfl _ _ 91 rfl 94 33 iW underlying91 (oF _) b n M rfl Z8.out (typ,x.e.over) kl rfl Xz.out ?_;rw[HM.out];clear hW0);refine(ww Ws capE rows _ HLE1 Yx.out HLE2.out).mono ?_;rintro e w1 ⟨rfl,hb1⟩;have HB1:=jF HB0 hb1;have HNM:Hid (w1.cell? ⟨w.heap.size,3,none⟩=some (.string x.e.name)/\w.heap.size<w1.heap.size):=⟨aJ hb1 hg0 c3,U9 hg0 hb1.size⟩;clear hb1 c3 hg0;cases hd:bH (ak rows);case false=>
  have HG:Hid (gT (ag rs) typ x.e.over x.e.name=[]):=by show _=_;unfold gT;rw[<-HE.out,hd];rfl
  go_wp2;go_ret;refine⟨⟨none,0,by rw[HG.out];rfl,by rw[HG.out];exact .inl rfl,fun p hp=>by cases hp⟩,HB1.out⟩
 obtain⟨r,rfl⟩:=JS hd;have HG:Hid (gT (ag rs) typ x.e.over x.e.name=gl (ag rs) x.e.name r.e.allow):=by
  show _=_;unfold gT iC;rw[<-HE.out,hd,if_pos rfl,(JR r hd).1]
 rcases Yx.out with h|⟨bE,offE,rfl,hbE,hrE,hokE⟩
 ·cases h
 have HSW:Hid (ik w1 (some ⟨bE,offE,none⟩) [r]):=HF.out.sl (HS.out.below HB1.out);rcases HSW.out with h|⟨bE',offE',heE,hbE1,hrE1,hokE1⟩
 ·cases h
 injection heE with heE;injection heE with heE1 heE2;subst heE1;subst heE2;obtain⟨s0,s1,s2,s3,s4⟩:=hrE1 0 (by simp);simp only[Nat.zero_mul,Nat.add_zero,List.getElem_cons_zero]at s0 s1 s2 s3 s4;have HOKR:Hid (r.ok w):=by
  have h1:=HF.out.sl HS.out;exact h1.mem (by simp)
 have lgA:r.e.allow.length<=1048576:=(HLE2.out r (by simp)).1;have HFA:Hid (∀a∈r.e.allow,a.fits):=(HFL.out r (by simp)).1;have hone:([r]:Q08).length=1:=rfl;rw[hone];clear hrE hokE hrE1 hokE1 HE HM hd hbE;go_wp2_with fail;go_loopw[8,25] (fun v i wr=>∃k:Nat,k<=r.e.allow.length/\i=.int .i64 k/\Hid (wr.ownsRow w.heap.size 9 1 v (gl (ag rs) x.e.name (r.e.allow.take k)).length (qB (gl (ag rs) x.e.name (r.e.allow.take k))))/\Hid (ae w wr)/\Hid (wr.cell? ⟨w.heap.size,3,none⟩=some (.string x.e.name)/\w.heap.size<wr.heap.size/\v.ownBlock≠some w.heap.size)) (fun _ i _=>r.e.allow.length-(intOf i).toNat);case atStart=>exact⟨0,Vf _,rfl,World.ownsRow_nil _ _ _ _,HB1,HNM.out.1,HNM.out.2,by simp[Value.ownBlock]⟩
 clear HB1 HNM s0 s1 s2 s3 s4;obtain⟨k,hk,rfl,HOW,HB,HC⟩:=hrel;by_cases hlt:k<r.e.allow.length
 ·rcases (HOKR.out.1).below HB.out with hnil|⟨ba,Yz,had,hba,hra⟩
  ·rw[hnil]at hlt;simp at hlt
  obtain⟨t0,t1⟩:=hra k hlt;have hk1:=bC k;have hk2:(k:Int)<(r.e.allow.length:Int):=by omega
  have zA:=HFA.out _ (U8 hlt);have z1:r.e.allow[k].t.size<=maxLen:=zA.1;obtain⟨hc3,hcl,hco⟩:=HC.out;obtain⟨W1,hW1⟩:∃W1,W1=wr.alloc (.cells #[.string r.e.allow[k].t,.string r.e.allow[k].s] 43):=⟨_,rfl⟩;have hal:ae wr W1:=by rw[hW1];exact(Vb _ _).alloc (Va _) _
  have Wx:=jF HB hal;have HVW:=aD (HV.out.below Wx.out);have YT:Hid (W1.ownsRow w.heap.size 9 1 u8 (gl (ag rs) x.e.name (r.e.allow.take k)).length (qB (gl (ag rs) x.e.name (r.e.allow.take k)))):=own_below HOW.out hal;have g0:W1.cell? ⟨wr.heap.size,0,none⟩=some (.string r.e.allow[k].t):=by rw[hW1];simp
  have g3:=aJ hal hcl hc3;have hgl1:wr.heap.size<W1.heap.size:=by rw[hW1];simp
  have hgl:=I4 (ag rs) x.e.name (r.e.allow.take k);rw[Vz]at hgl;have HI:=HT.out.some_iff (r.e.allow[k].t,x.e.name);have hwsz:w.heap.size<=W1.heap.size:=Wx.out.size;rw[had];clear hra hal HC HOW;go_wp2_with fail;rw[<-hW1];refine(zy b n M r.e.allow[k].t x.e.name _ z1 hn HVW.out).mono ?_;rintro e w' ⟨rfl,hw'⟩;rw[hw'];clear hw' w' hW1 t0 t1 hc3;cases hz:(M (r.e.allow[k].t,x.e.name)).isSome;case false=>
   have HE:Hid (gl (ag rs) x.e.name (r.e.allow.take (k+1))=gl (ag rs) x.e.name (r.e.allow.take k)):=by
    refine SN _ _ _ _ hlt ?_;rw[hz]at HI;simpa using HI.symm
   clear HI;go_wp2;go_roundw;case rel=>exact⟨k+1,by omega,by go_num,by rw[HE.out];exact YT,Wx,g3,by omega,hco⟩
   simp[intOf]<;>omega
  have HX:Hid (gl (ag rs) x.e.name (r.e.allow.take (k+1))=gl (ag rs) x.e.name (r.e.allow.take k)++[r.e.allow[k].t]):=by
   refine Og _ _ _ _ hlt ?_;rw[hz]at HI;simpa using HI.symm
  clear HI;go_wp2_with(at_builtin;refine wpList_append_own_at _ rfl _ _ 142 rfl w.heap.size 9 i0 (.string ⟨#[]⟩) 1 16 underlying142 hi hz0 hz1 hz2 rfl (by decide) _ _ _ rfl (YT.out.alloc _) ⟨W1.heap.size,0,none⟩ 1 1 [.string r.e.allow[k].t] rfl rfl (cell_one_new _ _ _) (by intro u hu;simp at hu;subst hu;rfl) (by unfold maxLen;omega) (by omega) (by simp;omega) ?_);intro v' w3 hown3 hgrow _ hloc;have hb3:Hid (ae w w3):=(Wx.out.alloc Wx.out.size _).grown hgrow (by simp;omega) (fun i hi=>(YT.out.lt i hi).1);have WO:Hid (w3.ownsRow w.heap.size 9 1 v' (gl (ag rs) x.e.name (r.e.allow.take (k+1))).length (qB (gl (ag rs) x.e.name (r.e.allow.take (k+1))))):=by
   show World.ownsRow _ _ _ _ _ _ _;rw[HX.out];simpa[qB] using hown3
  have Zr:Hid (w3.cell? ⟨w.heap.size,3,none⟩=some (.string x.e.name)/\w.heap.size<w3.heap.size/\v'.ownBlock≠some w.heap.size):=by
   refine⟨?_,?_,?_⟩
   ·rw[hgrow.cell_far _ (by simp;omega) (Ne.symm hco)];exact aJ ((Vb _ _).alloc (Va _) _) (by omega) g3
   ·have:=hgrow.size;simp at this;omega
   rcases hloc with e|e
   ·rw[e];exact hco
   rw[e];simp;omega
  clear hown3 hgrow hloc YT g0 g3;go_wp2;go_roundw;case rel=>exact⟨k+1,by omega,by go_num,WO,hb3,Zr⟩
  simp[intOf]<;>omega
 obtain rfl:k=r.e.allow.length:=by omega
 have hown:=HOW.out;rw[Vs]at hown;obtain⟨Wv,cp,rfl,hS',hN'⟩:=Oh hown;have HS2:=aD hS';have Yy:Hid (∀p,Wv=some p->w.heap.size<=p.block):=hN';clear hown HOW hS' hN' HC;go_wp2;go_ret;refine⟨⟨Wv,cp,by rw[HG.out];rfl,by rw[HG.out];exact HS2.out,Yy.out⟩,HB.out⟩
theorem Bf(t:TR)(g:Nat)(nm:bW)(w:af)(hg:g<w.heap.size)(hc:w.cell? ⟨g,0,none⟩=some (.string nm)):
  Calls prog 223 #[.agg #[.string t.name,.slice t.ad t.rows.length t.cap],.pointer (some ⟨g,0,none⟩)] w fun e w'=>e=.returned (.bool (t.name.toList==nm.toList))/\ae w w':=by
 go_enter func223,ntmps223;go_wp2;go_ret;exact⟨rfl,(Vb _ _).alloc (Va _) _⟩
theorem DU(rs:Q06)(k:Nat)(h:k<rs.length)(nm:bW):lQ (ag (rs.drop k)) nm=((rs[k].name.toList==nm.toList) || lQ (ag (rs.drop (k+1))) nm):=by
 rw[nX _ _ h];rfl
theorem Bg(ad:Q02)(cap:Nat)(rs:Q06)(g:Nat)(nm:bW)(w:af)(hlen:rs.length<=1048576)(hs:j5 w ad rs)(hg:g<w.heap.size)(hc:w.cell? ⟨g,0,none⟩=some (.string nm)):
  Calls prog 241 #[.slice ad rs.length cap,.func (Fn.func 223) #[] #[.pointer (some ⟨g,0,none⟩)]] w fun e w'=>(∃r:Int,e=.returned (.int .i64 r)/\decide (0<=r)=lQ (ag rs) nm)/\ae w w':=by
 have HS:=aD hs;have HC:Hid (w.cell? ⟨g,0,none⟩=some (.string nm)):=hc;clear hs hc;go_enter func241,ntmps241;go_wp2_with fail;go_loopw[8] (fun i wr=>∃k:Nat,k<=rs.length/\i=.int .i64 k/\Hid (lQ (ag (rs.drop k)) nm=lQ (ag rs) nm)/\Hid (ae w wr)) (fun i _=>rs.length-(intOf i).toNat);case atStart=>exact⟨0,Vf _,rfl,rfl,Vb _ _⟩
 obtain⟨k,hk,rfl,HP,HB⟩:=hrel;by_cases hlt:k<rs.length
 ·rcases HS.out.below HB.out with rfl|⟨b,off,rfl,hb,hr,-⟩
  ·simp at hlt
  obtain⟨t0,t1⟩:=hr k hlt;have hk1:=bC k;have hk2:(k:Int)<(rs.length:Int):=by omega
  have HCW:Hid (wr.cell? ⟨g,0,none⟩=some (.string nm)):=aJ HB.out hg HC.out;have HGW:Hid (g<wr.heap.size):=U9 hg HB.out.size;clear hr;cases he:(rs[k].name.toList==nm.toList);case true=>
   have HN:Hid (lQ (ag rs) nm=true):=by show _=_;rw[<-HP.out,DU _ _ hlt,he];rfl
   go_wp2_with(go_at_call 223;refine(Bf rs[k] g nm _ HGW.out HCW.out).mono ?_;rintro e w' ⟨he2,hbx⟩;rw[he]at he2;subst he2);go_ret;exact⟨⟨k,rfl,by rw[HN.out];simp⟩,HB.out.trans (hbx.mono HB.out.size)⟩
  have WB:Hid (lQ (ag (rs.drop (k+1))) nm=lQ (ag rs) nm):=by show _=_;rw[<-HP.out,DU _ _ hlt,he];rfl
  go_wp2_with(go_at_call 223;refine(Bf rs[k] g nm _ HGW.out HCW.out).mono ?_;rintro e w' ⟨he2,hbx⟩;rw[he]at he2;subst he2);go_roundw;case rel=>exact⟨k+1,by omega,by go_num,WB,HB.out.trans (hbx.mono HB.out.size)⟩
  simp[intOf]<;>omega
 have HN:Hid (lQ (ag rs) nm=false):=by show _=_;rw[<-HP.out,Vt (by omega)];rfl
 go_wp2;go_ret;exact⟨⟨-1,rfl,by rw[HN.out];simp⟩,HB.out⟩
theorem wy(ad:Q02)(cap:Nat)(rs:Q06)(g:Nat)(nm:bW)(w:af)(hlen:rs.length<=1048576)(hs:j5 w ad rs)(hg:g<w.heap.size)(hc:w.cell? ⟨g,0,none⟩=some (.string nm)):
  Calls prog 222 #[.slice ad rs.length cap,.func (Fn.func 223) #[] #[.pointer (some ⟨g,0,none⟩)]] w fun e w'=>e=.returned (.bool (lQ (ag rs) nm))/\ae w w':=by
 go_enter func222,ntmps222;go_wp2_with fail;refine(Bg ad cap rs g nm _ hlen hs hg hc).mono ?_;rintro e w' ⟨⟨r,rfl,hr⟩,hbx⟩;have HR:Hid (decide (0<=r)=lQ (ag rs) nm):=hr;clear hr hs hc;go_wp2;go_ret;exact⟨by rw[<-HR.out];rfl,hbx⟩
set_option maxRecDepth 100000 in
theorem Bh(ad adA:Q02)(cap capA:Nat)(rs:Q06)(b n:Nat)(M:ByteArray×ByteArray->Option Value)(xs:Q0a)(w:af)(hlen:rs.length<=1048576)(hs:j5 w ad rs)(hV:aM dX prog 94 w b n M)(hT:Tab rs M)(hla:xs.length<=1048576)(hsa:lK w adA xs)(hfa:∀a∈xs,a.fits):
  Calls prog 183 #[.slice ad rs.length cap,.map (some b),.slice adA xs.length capA] w fun e w'=>e=.returned (.bool (oU (ag rs) xs))/\ae w w':=by
 have HS:=aD hs;have HV:Hid (aM dX prog 94 w b n M):=hV;have HT:=aD hT;have HA:=aD hsa;have HFA:=aD hfa;clear hs hV hT hsa hfa;go_enter func183,ntmps183;go_wp2_with fail;go_loopw[11] (fun i wr=>∃k:Nat,k<=xs.length/\i=.int .i64 k/\Hid (nZ (ag rs) xs k=true)/\Hid (ae w wr)) (fun i _=>xs.length-(intOf i).toNat);case atStart=>exact⟨0,Vf _,rfl,zM _ _,Vb _ _⟩
 obtain⟨k,hk,rfl,HP,HB⟩:=hrel;by_cases hlt:k<xs.length
 ·rcases HA.out.below HB.out with rfl|⟨ba,Yz,rfl,hba,hra⟩
  ·simp at hlt
  obtain⟨t0,t1⟩:=hra k hlt;have hk1:=bC k;have hk2:(k:Int)<(xs.length:Int):=by omega
  have zA:=HFA.out _ (U8 hlt);have z1:xs[k].t.size<=maxLen:=zA.1;have z2:xs[k].s.size<=maxLen:=zA.2;have HI:Hid ((M (xs[k].t,xs[k].s)).isSome=!(aB (ag rs) xs[k].t xs[k].s).isEmpty):=HT.out.some_iff (xs[k].t,xs[k].s);obtain⟨W1,hW1⟩:∃W1,W1=wr.alloc (.cells #[.string xs[k].t,.string xs[k].s] 43):=⟨_,rfl⟩;have hal:ae wr W1:=by rw[hW1];exact(Vb _ _).alloc (Va _) _
  have Wx:=jF HB hal;have g0:W1.cell? ⟨wr.heap.size,0,none⟩=some (.string xs[k].t):=by rw[hW1];simp
  have g1:W1.cell? ⟨wr.heap.size,1,none⟩=some (.string xs[k].s):=by rw[hW1];simp
  have hgl:wr.heap.size<W1.heap.size:=by rw[hW1];simp
  clear hra hal zA;go_wp2_with fail;rw[<-hW1];clear hW1 t0 t1;refine(wy ad cap rs wr.heap.size xs[k].t _ hlen (HS.out.below Wx.out) hgl g0).mono ?_;rintro e w2 ⟨rfl,hb2⟩;have HB2:=jF Wx hb2;replace g0:=aJ hb2 hgl g0;replace g1:=aJ hb2 hgl g1;have HV2:=aD (HV.out.below HB2.out);clear hb2 hgl;cases ht:lQ (ag rs) xs[k].t;case false=>
   have HN:Hid (oU (ag rs) xs=false):=uW _ _ k hlt (by simp[qg,ht]);go_wp2;go_ret;exact⟨by rw[HN.out];rfl,HB2.out⟩
  cases he:xs[k].s.toList.isEmpty;case true=>
   have WB:Hid (nZ (ag rs) xs (k+1)=true):=by show _=_;rw[oV _ _ _ hlt,HP.out];simp[qg,ht,he]
   go_wp2;go_roundw;case rel=>exact⟨k+1,by omega,by go_num,WB,HB2⟩
   simp[intOf]<;>omega
  cases hz:(M (xs[k].t,xs[k].s)).isSome;case false=>
   have HN:Hid (oU (ag rs) xs=false):=uW _ _ k hlt (by have:=HI.out;rw[hz]at this;simp[qg,ht,he];simpa using this.symm);go_wp2_with(go_at_call 184;refine(zy b n M xs[k].t xs[k].s _ z1 z2 HV2.out).mono ?_;rintro e w' ⟨he2,rfl⟩;rw[hz]at he2;subst he2);go_ret;exact⟨by rw[HN.out];rfl,HB2.out⟩
  have WB:Hid (nZ (ag rs) xs (k+1)=true):=by show _=_;rw[oV _ _ _ hlt,HP.out];have:=HI.out;rw[hz]at this;simp[qg,ht,he];simpa using this.symm
  go_wp2_with(go_at_call 184;refine(zy b n M xs[k].t xs[k].s _ z1 z2 HV2.out).mono ?_;rintro e w' ⟨he2,rfl⟩;rw[hz]at he2;subst he2);go_roundw;case rel=>exact⟨k+1,by omega,by go_num,WB,HB2⟩
  simp[intOf]<;>omega
 have HN:Hid (oU (ag rs) xs=true):=by
  have:=HP.out;obtain rfl:k=xs.length:=by omega
  unfold nZ at this;rw[Vs]at this;exact this
 go_wp2;go_ret;exact⟨by rw[HN.out];rfl,HB.out⟩
theorem uH{e:Ex}(h:ay e=true)(h1:e.kind≠1):e.allow=[]:=by
 unfold ay at h;rw[if_neg h1]at h;split at h
 ·simp only[Vd,Vk]at h;exact Vr.1 h.1.1.2
 split at h
 ·simp only[Vd,Vk]at h;exact Vr.1 h.1.2
 split at h
 ·simp only[Vd,Vk]at h;exact Vr.1 h.1.1.2
 split at h
 ·simp only[Vd,Vk]at h;exact Vr.1 h.1.1.2
 cases h
theorem JU(ts:Q0b)(typ:bW)(rows:Q08)(k:Nat)(h:k<rows.length):aX ts typ (ak (rows.drop k))=if oU ts rows[k].e.allow&&lT ts typ rows[k].e then aX ts typ (ak (rows.drop (k+1))) else false:=by
 rw[gW _ _ h];rfl
theorem He(ts:Q0b)(typ:bW)(e:Ex)(h:e.kind=3):lT ts typ e=!(gT ts typ e.over e.name).isEmpty:=by
 unfold lT gT;rw[if_neg (by omega),if_pos h];cases bH (aB ts typ e.over)<;>simp
set_option maxRecDepth 100000 in
theorem Bi(ad Ws:Q02)(cap capE:Nat)(rs:Q06)(b n:Nat)(M:ByteArray×ByteArray->Option Value)(typ:bW)(rows:Q08)(w:af)(hlen:rs.length<=1048576)(hs:j5 w ad rs)(hl:∀r∈rs,r.light)(hf:∀r∈rs,r.fits)(hV:aM dX prog 94 w b n M)(hT:Tab rs M)(ht:typ.size<=maxLen)(hle:rows.length<=1048576)(hse:ik w Ws rows)(hlE:∀q∈rows,q.e.light)(hfE:∀q∈rows,q.e.fits)(hnb:∀q∈rows,ay q.e=true):
  Calls prog 132 #[.slice ad rs.length cap,.map (some b),.string typ,.slice Ws rows.length capE] w fun e w'=>e=.returned (.bool (aX (ag rs) typ (ak rows)))/\ae w w':=by
 have HS:=aD hs;have HL:=aD hl;have WE:=aD hf;have HV:Hid (aM dX prog 94 w b n M):=hV;have HT:=aD hT;have HE:=aD hse;have Xl:=aD hlE;have Y5:=aD hfE;have HNB:Hid (∀q∈rows,ay q.e=true):=hnb;clear hs hl hf hV hT hse hlE hfE hnb;go_enter func132,ntmps132;go_wp2_with fail;go_loopw[13] (fun i wr=>∃k:Nat,k<=rows.length/\i=.int .i64 k/\Hid (aX (ag rs) typ (ak (rows.drop k))=aX (ag rs) typ (ak rows))/\Hid (ae w wr)) (fun i _=>rows.length-(intOf i).toNat);case atStart=>exact⟨0,Vf _,rfl,rfl,Vb _ _⟩
 obtain⟨k,hk,rfl,HP,HB⟩:=hrel;by_cases hlt:k<rows.length
 ·rcases HE.out.below HB.out with rfl|⟨bE,offE,rfl,hbE,hrE,hokE⟩
  ·simp at hlt
  obtain⟨t0,t1,t2,t3,t4⟩:=hrE k hlt;have HOKW:Hid (rows[k].ok w):=HE.out.mem (U8 hlt);have hk1:=bC k;have hk2:(k:Int)<(rows.length:Int):=by omega
  have lgA:rows[k].e.allow.length<=1048576:=(Xl.out _ (U8 hlt)).1;have HFK:Hid (rows[k].e.fits):=Y5.out _ (U8 hlt);have HNK:Hid (ay rows[k].e=true):=HNB.out _ (U8 hlt);have HDR:=JU (ag rs) typ rows k hlt;have HD:Hid (aX (ag rs) typ (ak rows)=if oU (ag rs) rows[k].e.allow&&lT (ag rs) typ rows[k].e then aX (ag rs) typ (ak (rows.drop (k+1))) else false):=by show _=_;rw[<-HP.out];exact HDR
  obtain⟨W1,hW1⟩:∃W1,W1=wr.alloc (.cells #[.int .i64 rows[k].e.kind,.slice rows[k].adA rows[k].e.allow.length rows[k].capA,.string rows[k].e.over,.string rows[k].e.name,.slice rows[k].adK rows[k].e.kids.length rows[k].capK] 39):=⟨_,rfl⟩;have hal:ae wr W1:=by rw[hW1];exact(Vb _ _).alloc (Va _) _
  have Wx:=jF HB hal;have HVW:=aD (HV.out.below Wx.out);have zO:rows[k].e.over.size<=maxLen:=HFK.out.2.1;have zN:rows[k].e.name.size<=maxLen:=HFK.out.2.2.1;clear hrE hokE hal HDR;by_cases h1:rows[k].e.kind=1
  ·have Yk:Hid (lT (ag rs) typ rows[k].e=true):=by show _=_;unfold lT;rw[if_neg (by omega),if_neg (by omega)]
   have hq1:(rows[k].e.kind==1)=true:=by simpa using h1
   replace h1:Hid (rows[k].e.kind=1):=h1;go_wp2_with fail;rw[<-hW1];refine(Bh ad rows[k].adA cap rows[k].capA rs b n M rows[k].e.allow _ hlen (HS.out.below Wx.out) HVW.out HT.out lgA (HOKW.out.1.below Wx.out) HFK.out.1).mono ?_;rintro e w2 ⟨rfl,hb2⟩;have HB2:=jF Wx hb2;clear hb2 hW1 t0 t1 t2 t3 t4;cases hz:oU (ag rs) rows[k].e.allow;case false=>
    have HN:Hid (aX (ag rs) typ (ak rows)=false):=by show _=_;rw[HD.out,hz];rfl
    go_wp2;go_ret;exact⟨by rw[HN.out];rfl,HB2.out⟩
   have WB:Hid (aX (ag rs) typ (ak (rows.drop (k+1)))=aX (ag rs) typ (ak rows)):=by show _=_;rw[HD.out,hz,Yk.out];rfl
   go_wp2;go_roundw;case rel=>exact⟨k+1,by omega,by go_num,WB,HB2⟩
   simp[intOf]<;>omega
  have hq1:(rows[k].e.kind==1)=false:=by simpa using h1
  have Zq:Hid (oU (ag rs) rows[k].e.allow=true):=by show _=_;rw[uH HNK.out h1];rfl
  by_cases h2:rows[k].e.kind=2
  ·have hq2:(rows[k].e.kind==2)=true:=by simpa using h2
   have HI:=HT.out.some_iff (typ,rows[k].e.name);have Yk:Hid (lT (ag rs) typ rows[k].e=(M (typ,rows[k].e.name)).isSome):=by show _=_;unfold lT;rw[if_pos h2,HI]
   clear HI;replace h2:Hid (rows[k].e.kind=2):=h2;go_wp2_with fail;rw[<-hW1];refine(zy b n M typ rows[k].e.name _ ht zN HVW.out).mono ?_;rintro e w2 ⟨rfl,hw2⟩;rw[hw2];clear hw2 w2 hW1 t0 t1 t2 t3 t4;cases hz:(M (typ,rows[k].e.name)).isSome;case false=>
    have HN:Hid (aX (ag rs) typ (ak rows)=false):=by show _=_;rw[HD.out,Yk.out,hz,Zq.out];rfl
    go_wp2;go_ret;exact⟨by rw[HN.out];rfl,Wx.out⟩
   have WB:Hid (aX (ag rs) typ (ak (rows.drop (k+1)))=aX (ag rs) typ (ak rows)):=by show _=_;rw[HD.out,Yk.out,hz,Zq.out];rfl
   go_wp2;go_roundw;case rel=>exact⟨k+1,by omega,by go_num,WB,Wx⟩
   simp[intOf]<;>omega
  have hq2:(rows[k].e.kind==2)=false:=by simpa using h2
  by_cases h3:rows[k].e.kind=3
  ·have hq3:(rows[k].e.kind==3)=true:=by simpa using h3
   have Yk:Hid (lT (ag rs) typ rows[k].e=!(gT (ag rs) typ rows[k].e.over rows[k].e.name).isEmpty):=He _ _ _ h3;replace h3:Hid (rows[k].e.kind=3):=h3;go_wp2_with fail;rw[<-hW1];refine(yE b n rs ad M typ rows[k] _ HVW.out HT.out (HS.out.below Wx.out) HL.out WE.out ht zO zN).mono ?_;rintro e w2 ⟨⟨Wv,cap',rfl,-,-⟩,hb2⟩;have HB2:=jF Wx hb2;clear hb2 hW1 t0 t1 t2 t3 t4;generalize gT (ag rs) typ rows[k].e.over rows[k].e.name=gs at Yk⊢;cases gs with
   | nil =>
    have HN:Hid (aX (ag rs) typ (ak rows)=false):=by show _=_;rw[HD.out,Yk.out,Zq.out];rfl
    go_wp2;go_ret;exact⟨by rw[HN.out];rfl,HB2.out⟩
   | cons g gs =>
    have WB:Hid (aX (ag rs) typ (ak (rows.drop (k+1)))=aX (ag rs) typ (ak rows)):=by show _=_;rw[HD.out,Yk.out,Zq.out];rfl
    have hlz:(((g::gs).length:Int)==0)=false:=by
     have:¬(((g::gs).length:Int)=0):=by simp;omega
     simpa using this
    obtain⟨ln,hln⟩:∃ln,ln=(g::gs).length:=⟨_,rfl⟩;rw[<-hln]at hlz ⊢;clear hln;go_wp2;go_roundw;case rel=>exact⟨k+1,by omega,by go_num,WB,HB2⟩
    simp[intOf]<;>omega
  have hq3:(rows[k].e.kind==3)=false:=by simpa using h3
  have Yk:Hid (lT (ag rs) typ rows[k].e=true):=by show _=_;unfold lT;rw[if_neg h2,if_neg h3]
  have WB:Hid (aX (ag rs) typ (ak (rows.drop (k+1)))=aX (ag rs) typ (ak rows)):=by show _=_;rw[HD.out,Yk.out,Zq.out];rfl
  have WT:Hid (ae w (wr.alloc (.cells #[.int .i64 rows[k].e.kind,.slice rows[k].adA rows[k].e.allow.length rows[k].capA,.string rows[k].e.over,.string rows[k].e.name,.slice rows[k].adK rows[k].e.kids.length rows[k].capK] 39))):=by rw[<-hW1];exact Wx
  clear hW1;go_wp2;go_roundw;case rel=>exact⟨k+1,by omega,by go_num,WB,WT⟩
  simp[intOf]<;>omega
 have HN:Hid (aX (ag rs) typ (ak rows)=true):=by show _=_;rw[<-HP.out,Vt (by omega)];rfl
 go_wp2;go_ret;exact⟨by rw[HN.out];rfl,HB.out⟩
def Al.cells(a:Al):List Value:=[.string a.t,.string a.s]
def iJ:List Al->List Value
 | []=>[]
 | a::xs=>a.cells++iJ xs
theorem Fp(xs ys:Q0a):iJ (xs++ys)=iJ xs++iJ ys:=by
 induction xs with
 | nil=>rfl
 | cons d ds ih=>simp[iJ,ih]
theorem Bj(xs:Q0a)(d:Al):iJ (xs++[d])=iJ xs++d.cells:=by rw[Fp];simp[iJ]
theorem DV(xs:Q0a)(i:Nat)(h:i<xs.length)(o:Nat)(ho:o<2):(iJ xs)[i*2+o]?=(xs[i].cells)[o]?:=by
 induction xs generalizing i with
 | nil=>simp at h
 | cons s xs ih =>
  cases i with
  | zero =>
   simp only[iJ,Nat.zero_mul,VC,List.getElem_cons_zero];rw[V9 (by simp[Al.cells];omega)]
  | succ i =>
   simp only[iJ,List.getElem_cons_succ];rw[V7 (by simp[Al.cells];omega)];have e:(i+1)*2+o-s.cells.length=i*2+o:=by simp[Al.cells];omega
   rw[e];exact ih i (by simpa using h)
theorem Pw{w:af}{base:Nat}{v:Value}{xs:Q0a}(h:w.ownsRow base 94 2 v xs.length (iJ xs)):∃ad cp,v=.slice ad xs.length cp/\lK w ad xs/\∀p,ad=some p->base<=p.block:=by
 have h2:=h;rcases h.2 with⟨rfl,h0⟩|⟨g,cp,cur,rfl,hbg,hg,hnc,-⟩
 ·exact⟨none,0,by rw[h0],.inl (Vr.1 h0),fun p hp=>by cases hp⟩
 have hlt:=h2.lt g rfl;refine⟨_,cp,rfl,.inr ⟨g,0,rfl,hlt.2,fun i hi=>?_⟩,fun p hp=>by injection hp with hp;rw[<-hp];exact hlt.1⟩;have h3:∀(o:Nat) (u:Value),(iJ xs)[i*2+o]?=some u->w.cell? ⟨g,0+i*2+o,none⟩=some u:=fun o u hu=>by
  have:=h2.cells (g:=g) rfl (i*2+o) u hu;rw[G6]at this;rw[VC];exact this
 exact⟨h3 0 _ (by have:=DV xs i hi 0 (by omega);simpa[Al.cells] using this),h3 1 _ (by have:=DV xs i hi 1 (by omega);simpa[Al.cells] using this)⟩
def dM:List Al->List Al
 | []=>[]
 | a::xs=>if a.s.toList.isEmpty then dM xs else a::dM xs
theorem wB(xs ys:Q0a):dM (xs++ys)=dM xs++dM ys:=by
 induction xs with
 | nil=>rfl
 | cons a xs ih=>simp only[VS,dM,ih];split<;>simp
theorem Px(xs:Q0a)(k:Nat)(h:k<xs.length)(he:xs[k].s.toList.isEmpty=true):dM (xs.take (k+1))=dM (xs.take k):=by
 rw[Ve h,wB];simp[dM]at he ⊢;simp[he]
theorem MH(xs:Q0a)(k:Nat)(h:k<xs.length)(he:xs[k].s.toList.isEmpty=false):dM (xs.take (k+1))=dM (xs.take k)++[xs[k]]:=by
 rw[Ve h,wB];simp[dM,he]
theorem DW(xs:Q0a):(dM xs).length<=xs.length:=by
 induction xs with
 | nil=>simp[dM]
 | cons a xs ih=>simp only[dM];split<;>simp<;>omega
def jA(ts:Q0b)(typ:ByteArray)(e:Ex):List Al :=
 if e.kind=1 then dM e.allow else if e.kind=2 then [⟨typ,e.name⟩] else if e.kind=3 then (gT ts typ e.over e.name).map fun g=>⟨g,e.name⟩ else []
theorem Py:(prog.info? 94).map (fun i=>(i.zero,i.size,i.bytes))=some (some (.agg #[.string ⟨#[]⟩,.string ⟨#[]⟩]),2,32):=by kernel_rfl
theorem Fq(rs:Q06)(hl:∀r∈rs,r.light)(typ over rel:bW):(gT (ag rs) typ over rel).length<=1048576:=by
 unfold gT;split
 ·exact yC rs hl typ over rel
 simp
theorem xV(w:af)(o o':Obj):((w.alloc o).alloc o').heap[w.heap.size+1]?=some o':=by
 have:=heap_alloc_new (w.alloc o) o';simpa using this
set_option maxRecDepth 100000 in
theorem Hf(b n:Nat)(rs:Q06)(ad:Q02)(M:ByteArray×ByteArray->Option Value)(typ:bW)(x:ER)(w:af)(hV:aM dX prog 94 w b n M)(hT:Tab rs M)(hs:j5 w ad rs)(hl:∀r∈rs,r.light)(hf:∀r∈rs,r.fits)(ht:typ.size<=maxLen)(hxf:x.e.fits)(hxl:x.e.light)(hxo:x.ok w):
  Calls prog 188 #[.map (some b),.string typ,x.val] w fun e w'=>(∃(Wv:Q02) (cap':Nat),e=.returned (.slice Wv (jA (ag rs) typ x.e).length cap')/\lK w' Wv (jA (ag rs) typ x.e)/\∀p,Wv=some p->w.heap.size<=p.block)/\ae w w':=by
 have HV:Hid (aM dX prog 94 w b n M):=hV;have HT:=aD hT;have HS:=aD hs;have HL:=aD hl;have WE:=aD hf;have XP:=aD hxf;have HXO:=aD hxo;have lgA:x.e.allow.length<=1048576:=hxl.1;clear hV hT hs hl hf hxf hxo hxl;obtain⟨i0,hi,hz0,hz1,hz2⟩:=info_parts Py;obtain⟨W0,hW0⟩:∃W0,W0=w.alloc (.cells #[.int .i64 x.e.kind,.slice x.adA x.e.allow.length x.capA,.string x.e.over,.string x.e.name,.slice x.adK x.e.kids.length x.capK] 39):=⟨_,rfl⟩;have hal:ae w W0:=by rw[hW0];exact(Vb _ _).alloc (Va _) _
 have HB0:=aD hal;have hg0:w.heap.size<W0.heap.size:=by rw[hW0];simp
 have c0:W0.cell? ⟨w.heap.size,0,none⟩=some (.int .i64 x.e.kind):=by rw[hW0];simp
 have c1:W0.cell? ⟨w.heap.size,1,none⟩=some (.slice x.adA x.e.allow.length x.capA):=by rw[hW0];simp
 have c2:W0.cell? ⟨w.heap.size,2,none⟩=some (.string x.e.over):=by rw[hW0];simp
 have c3:W0.cell? ⟨w.heap.size,3,none⟩=some (.string x.e.name):=by rw[hW0];simp
 have c4:W0.cell? ⟨w.heap.size,4,none⟩=some (.slice x.adK x.e.kids.length x.capK):=by rw[hW0];simp
 clear hal;unfold ER.val;by_cases h1:x.e.kind=1
 ·have HLI:Hid (jA (ag rs) typ x.e=dM x.e.allow):=by show _=_;unfold jA;rw[if_pos h1]
  have hq1:(x.e.kind==1)=true:=by simpa using h1
  replace h1:Hid (x.e.kind=1):=h1;go_enter func188,ntmps188;go_wp2_with fail;rw[<-hW0];clear hW0;go_loopw[7,19] (fun v i wr=>∃k:Nat,k<=x.e.allow.length/\i=.int .i64 k/\Hid (wr.ownsRow w.heap.size 94 2 v (dM (x.e.allow.take k)).length (iJ (dM (x.e.allow.take k))))/\Hid (ae w wr)) (fun _ i _=>x.e.allow.length-(intOf i).toNat);case atStart=>exact⟨0,Vf _,rfl,World.ownsRow_nil _ _ _ _,HB0⟩
  clear HB0 c0 c1 c2 c3 c4 hg0;obtain⟨k,hk,rfl,HOW,HB⟩:=hrel;by_cases hlt:k<x.e.allow.length
  ·rcases (HXO.out.1).below HB.out with hnil|⟨ba,Yz,had,hba,hra⟩
   ·rw[hnil]at hlt;simp at hlt
   obtain⟨t0,t1⟩:=hra k hlt;have hk1:=bC k;have hk2:(k:Int)<(x.e.allow.length:Int):=by omega
   obtain⟨W1,hW1⟩:∃W1,W1=wr.alloc (.cells #[.string x.e.allow[k].t,.string x.e.allow[k].s] 43):=⟨_,rfl⟩;have hal:ae wr W1:=by rw[hW1];exact(Vb _ _).alloc (Va _) _
   have Wx:=jF HB hal;have YT:Hid (W1.ownsRow w.heap.size 94 2 u7 (dM (x.e.allow.take k)).length (iJ (dM (x.e.allow.take k)))):=own_below HOW.out hal;have g0:W1.cell? ⟨wr.heap.size,0,none⟩=some (.string x.e.allow[k].t):=by rw[hW1];simp
   have g1:W1.cell? ⟨wr.heap.size,1,none⟩=some (.string x.e.allow[k].s):=by rw[hW1];simp
   have hgl1:wr.heap.size<W1.heap.size:=by rw[hW1];simp
   have hgl:=DW (x.e.allow.take k);rw[Vz]at hgl;have hwsz:w.heap.size<=W1.heap.size:=Wx.out.size;rw[had];clear hra hal HOW;cases he:x.e.allow[k].s.toList.isEmpty;case true=>
    have HE:Hid (dM (x.e.allow.take (k+1))=dM (x.e.allow.take k)):=Px _ _ hlt he;have WT:Hid (ae w (wr.alloc (.cells #[.string x.e.allow[k].t,.string x.e.allow[k].s] 43))):=by rw[<-hW1];exact Wx
    have HOX:Hid ((wr.alloc (.cells #[.string x.e.allow[k].t,.string x.e.allow[k].s] 43)).ownsRow w.heap.size 94 2 u7 (dM (x.e.allow.take (k+1))).length (iJ (dM (x.e.allow.take (k+1))))):=by rw[<-hW1,HE.out];exact YT
    clear hW1 g0 g1;go_wp2;go_roundw;case rel=>exact⟨k+1,by omega,by go_num,HOX,WT⟩
    simp[intOf]<;>omega
   have HX:Hid (dM (x.e.allow.take (k+1))=dM (x.e.allow.take k)++[x.e.allow[k]]):=MH _ _ hlt he;have HOX:Hid ((wr.alloc (.cells #[.string x.e.allow[k].t,.string x.e.allow[k].s] 43)).ownsRow w.heap.size 94 2 u7 (dM (x.e.allow.take k)).length (iJ (dM (x.e.allow.take k)))):=by rw[<-hW1];exact YT
   have WT:Hid (ae w (wr.alloc (.cells #[.string x.e.allow[k].t,.string x.e.allow[k].s] 43))):=by rw[<-hW1];exact Wx
   have hws:w.heap.size<=wr.heap.size:=HB.out.size;clear hW1 YT Wx g0 g1 hgl1 hwsz W1;go_wp2_with(at_builtin;refine wpList_append_own_at _ rfl _ _ 277 rfl w.heap.size 94 i0 _ 2 32 underlying277 hi hz0 hz1 hz2 rfl (by decide) _ _ _ rfl (HOX.out.alloc _) ⟨wr.heap.size+1,0,none⟩ 1 1 [.string x.e.allow[k].t,.string x.e.allow[k].s] rfl rfl (World.news_of_block (cs:=#[.string x.e.allow[k].t,.string x.e.allow[k].s]) (t:=94) (fr:=(0,0)) (xV wr _ _)) (by simp[Value.oneCell']) (by unfold maxLen;omega) (by omega) (by simp;omega) ?_);intro v' w3 hown3 hgrow _ hloc;have HB3:Hid (ae w w3):=(WT.out.alloc WT.out.size _).grown hgrow (by simp;omega) (fun i hi=>(HOX.out.lt i hi).1);have WO:Hid (w3.ownsRow w.heap.size 94 2 v' (dM (x.e.allow.take (k+1))).length (iJ (dM (x.e.allow.take (k+1))))):=by
    show World.ownsRow _ _ _ _ _ _ _;rw[HX.out,Bj,Vh];exact hown3
   clear hown3 hgrow hloc HOX WT;go_wp2;go_roundw;case rel=>exact⟨k+1,by omega,by go_num,WO,HB3⟩
   simp[intOf]<;>omega
  obtain rfl:k=x.e.allow.length:=by omega
  have hown:=HOW.out;rw[Vs]at hown;obtain⟨Wv,cp,rfl,hS',hN'⟩:=Pw hown;have HS2:=aD hS';have Yy:Hid (∀p,Wv=some p->w.heap.size<=p.block):=hN';clear hown HOW hS' hN';go_wp2;go_ret;exact⟨⟨Wv,cp,by rw[HLI.out];rfl,by rw[HLI.out];exact HS2.out,Yy.out⟩,HB.out⟩
 have hq1:(x.e.kind==1)=false:=by simpa using h1
 by_cases h2:x.e.kind=2
 ·have HLI:Hid (jA (ag rs) typ x.e=[⟨typ,x.e.name⟩]):=by show _=_;unfold jA;rw[if_neg h1,if_pos h2]
  have hq2:(x.e.kind==2)=true:=by simpa using h2
  replace h2:Hid (x.e.kind=2):=h2;have HOX:Hid ((w.alloc (.cells #[.int .i64 x.e.kind,.slice x.adA x.e.allow.length x.capA,.string x.e.over,.string x.e.name,.slice x.adK x.e.kids.length x.capK] 39)).ownsRow w.heap.size 94 2 (.slice none 0 0) 0 []):=World.ownsRow_nil _ _ _ _;have WT:Hid (ae w (w.alloc (.cells #[.int .i64 x.e.kind,.slice x.adA x.e.allow.length x.capA,.string x.e.over,.string x.e.name,.slice x.adK x.e.kids.length x.capK] 39))):=by rw[<-hW0];exact HB0
  clear hW0 HB0 c0 c1 c2 c3 c4 hg0 W0;go_enter func188,ntmps188;go_wp2_with(at_builtin;refine wpList_append_own_at _ rfl _ _ 277 rfl w.heap.size 94 i0 _ 2 32 underlying277 hi hz0 hz1 hz2 rfl (by decide) _ _ _ rfl (HOX.out.alloc _) ⟨w.heap.size+1,0,none⟩ 1 1 [.string typ,.string x.e.name] rfl rfl (World.news_of_block (cs:=#[.string typ,.string x.e.name]) (t:=94) (fr:=(0,0)) (xV w _ _)) (by simp[Value.oneCell']) (by unfold maxLen;omega) (by omega) (by simp;omega) ?_);intro v' w3 hown3 hgrow _ hloc;have HB3:Hid (ae w w3):=(WT.out.alloc WT.out.size _).grown hgrow (by simp;omega) (fun i hi=>(HOX.out.lt i hi).1);have Xo:w3.ownsRow w.heap.size 94 2 v' ([⟨typ,x.e.name⟩]:Q0a).length (iJ [⟨typ,x.e.name⟩]):=hown3;obtain⟨Wv,cp,rfl,hS',hN'⟩:=Pw Xo;have HS2:=aD hS';have Yy:Hid (∀p,Wv=some p->w.heap.size<=p.block):=hN';clear hown3 Xo hgrow hloc HOX WT hS' hN';go_wp2;go_ret;exact⟨⟨Wv,cp,by rw[HLI.out];rfl,by rw[HLI.out];exact HS2.out,Yy.out⟩,HB3.out⟩
 have hq2:(x.e.kind==2)=false:=by simpa using h2
 by_cases h3:x.e.kind=3
 ·have HLI:Hid (jA (ag rs) typ x.e=(gT (ag rs) typ x.e.over x.e.name).map fun g=>(⟨g,x.e.name⟩:Al)):=by show _=_;unfold jA;rw[if_neg h1,if_neg h2,if_pos h3]
  have hq3:(x.e.kind==3)=true:=by simpa using h3
  replace h3:Hid (x.e.kind=3):=h3;have HGL:(gT (ag rs) typ x.e.over x.e.name).length<=1048576:=Fq rs HL.out _ _ _;have Z8:=aD (HV.out.below HB0.out);go_enter func188,ntmps188;go_wp2_with fail;rw[<-hW0];refine(yE b n rs ad M typ x _ Z8.out HT.out (HS.out.below HB0.out) HL.out WE.out ht XP.out.2.1 XP.out.2.2.1).mono ?_;rintro e w1 ⟨⟨adG,cpG,rfl,hSG,hNG⟩,hb1⟩;generalize gT (ag rs) typ x.e.over x.e.name=gs at *
  have HB1:=jF HB0 hb1;have HSG:=aD hSG;have HNG:Hid (∀p,adG=some p->W0.heap.size<=p.block):=hNG;have XK:Hid (w1.cell? ⟨w.heap.size,3,none⟩=some (.string x.e.name)/\w.heap.size<w1.heap.size):=⟨aJ hb1 hg0 c3,U9 hg0 hb1.size⟩;clear hW0 hSG hNG hb1 c0 c1 c2 c3 c4 HB0 Z8 hg0 HNG;go_wp2_with fail;go_loopw[7,51] (fun v i wr=>∃m:Nat,m<=gs.length/\i=.int .i64 m/\Hid (wr.ownsRow w.heap.size 94 2 v m (iJ ((gs.take m).map fun g=>(⟨g,x.e.name⟩:Al))))/\Hid (ae w wr)/\Hid (Aside w1 (.slice none 0 0) wr v)) (fun _ i _=>gs.length-(intOf i).toNat);case atStart=>exact⟨0,Vf _,rfl,World.ownsRow_nil _ _ _ _,HB1,Aside.refl _ _⟩
  clear HB1;obtain⟨m,hm,rfl,HO,HB,HA⟩:=hrel;have x3:=qG HA.out XK.out.2 (by simp[Value.ownBlock]) XK.out.1;by_cases Xd:m<gs.length
  ·rcases HSG.out with rfl|⟨bg,offg,rfl,hbg,hrg⟩
   ·simp at Xd
   have q0:=qG HA.out hbg (by simp[Value.ownBlock]) (hrg m Xd);have hm1:=bC m;have hm2:(m:Int)<(gs.length:Int):=by omega
   have hws:w.heap.size<=wr.heap.size:=HB.out.size;have HFX:Hid (iJ ((gs.take (m+1)).map fun g=>(⟨g,x.e.name⟩:Al))=iJ ((gs.take m).map fun g=>(⟨g,x.e.name⟩:Al))++[.string gs[m],.string x.e.name]):=by
    show _=_;rw[Ve Xd,VX,List.map_singleton,Bj];rfl
   clear hrg;go_wp2_with(at_builtin;refine wpList_append_own_at _ rfl _ _ 277 rfl w.heap.size 94 i0 _ 2 32 underlying277 hi hz0 hz1 hz2 rfl (by decide) _ _ _ rfl (HO.out.alloc _) ⟨wr.heap.size,0,none⟩ 1 1 [.string gs[m],.string x.e.name] rfl rfl (World.news_of_block (cs:=#[.string gs[m],.string x.e.name]) (t:=94) (fr:=(0,0)) (heap_alloc_new wr _)) (by simp[Value.oneCell']) (by unfold maxLen;omega) (by omega) (by simp;omega) ?_);intro v' w3 hown3 hgrow _ hloc;have HB3:Hid (ae w w3):=(HB.out.alloc HB.out.size _).grown hgrow (by simp;omega) (fun i hi=>(HO.out.lt i hi).1);have WO:Hid (w3.ownsRow w.heap.size 94 2 v' (m+1) (iJ ((gs.take (m+1)).map fun g=>(⟨g,x.e.name⟩:Al)))):=by
    show World.ownsRow _ _ _ _ _ _ _;rw[HFX.out];simpa[List.map_take] using hown3
   have HA3:Hid (Aside w1 (.slice none 0 0) w3 v'):=HA.out.trans ((Aside.below ((Vb _ _).alloc (Va _) _)).trans (Aside.app hgrow (by simpa using hloc)));clear hown3 hgrow hloc HO HA;go_wp2;go_roundw;case rel=>exact⟨m+1,by omega,by go_num,WO,HB3,HA3⟩
   simp[intOf]<;>omega
  obtain rfl:m=gs.length:=by omega
  have hown:=HO.out;rw[Vs]at hown;have e:gs.length=(gs.map fun g=>(⟨g,x.e.name⟩:Al)).length:=by simp
  rw[e]at hown;obtain⟨Wv,cp,rfl,hS',hN'⟩:=Pw hown;have HS2:Hid (lK wr Wv (gs.map fun g=>(⟨g,x.e.name⟩:Al))):=hS';have Yy:Hid (∀p,Wv=some p->w.heap.size<=p.block):=hN';obtain⟨ln,hln⟩:∃ln,ln=(gs.map fun g=>(⟨g,x.e.name⟩:Al)).length:=⟨_,rfl⟩;rw[<-hln];have HLN:Hid (ln=(gs.map fun g=>(⟨g,x.e.name⟩:Al)).length):=hln;clear hown HO hS' hN' e HA x3 hln;go_wp2;go_ret;exact⟨⟨Wv,cp,by rw[HLI.out,<-HLN.out];rfl,by rw[HLI.out];exact HS2.out,Yy.out⟩,HB.out⟩
 have HLI:Hid (jA (ag rs) typ x.e=[]):=by show _=_;unfold jA;rw[if_neg h1,if_neg h2,if_neg h3]
 have hq3:(x.e.kind==3)=false:=by simpa using h3
 have WT:Hid (ae w (w.alloc (.cells #[.int .i64 x.e.kind,.slice x.adA x.e.allow.length x.capA,.string x.e.over,.string x.e.name,.slice x.adK x.e.kids.length x.capK] 39))):=by rw[<-hW0];exact HB0
 clear hW0 HB0 c0 c1 c2 c3 c4 hg0;go_enter func188,ntmps188;go_wp2;go_ret;exact⟨⟨none,0,by rw[HLI.out];rfl,by rw[HLI.out];exact .inl rfl,fun p hp=>by cases hp⟩,WT.out⟩
abbrev Ky:=ByteArray×ByteArray
def lookL(E:List (Ky×St))(k:Ky):List St:=E.filterMap fun p=>if p.1=k then some p.2 else none
theorem lookL_append(E F:List (Ky×St))(k:Ky):lookL (E++F) k=lookL E k++lookL F k:=by unfold lookL;rw[List.filterMap_append]
theorem uA(E:List (Ky×St))(k:Ky)(s:St):lookL (E++[(k,s)]) k=lookL E k++[s]:=by rw[lookL_append];simp[lookL]
theorem qQ(E:List (Ky×St)){k y:Ky}(s:St)(h:k≠y):lookL (E++[(y,s)]) k=lookL E k:=by rw[lookL_append];simp[lookL,Ne.symm h]
theorem mem_lookL{E:List (Ky×St)}{k:Ky}{s:St}:s∈lookL E k↔(k,s)∈E:=by
 unfold lookL;rw[List.mem_filterMap];constructor
 ·rintro⟨⟨a,b⟩,h1,h2⟩;simp only at h2;split at h2
  ·rename_i e;injection h2 with h2;rw[<-e,<-h2];exact h1
  cases h2
 intro h;exact⟨(k,s),h,by simp⟩
def FreeB(M:Ky->Option Value)(g:Nat):Prop:=∀k v,M k=some v->v.ownBlock≠some g
structure Grp(w:World)(bL n:Nat)(M:Ky->Option Value)(E:List (Ky×St)):Prop where
 map:aM dX prog 94 w bL n M
 row:∀k,(M k=none/\lookL E k=[]) \/ ∃v,M k=some v/\w.ownsRow (bL+1) 274 3 v (lookL E k).length (iV (lookL E k))
 apart:∀k k' v v',k≠k'->M k=some v->M k'=some v'->∀g,v.ownBlock=some g->v'.ownBlock≠some g
theorem Grp.lt{w:af}{bL n:Nat}{M:Ky->Option Value}{E:List (Ky×St)}(h:Grp w bL n M E){k:Ky}{v:Value}(hk:M k=some v){g:Nat}(hg:v.ownBlock=some g):bL<g/\g<w.heap.size:=by
 rcases h.row k with⟨e,-⟩|⟨v',e,ho⟩
 ·rw[e]at hk;cases hk
 rw[e]at hk;injection hk with hk;subst hk;have:=ho.lt g hg;exact⟨by omega,this.2⟩
theorem Grp.fresh{w:af}{bL n:Nat}{M:Ky->Option Value}{E:List (Ky×St)}(h:Grp w bL n M E){g:Nat}(hg:w.heap.size<=g):FreeB M g:=fun k v hk e=>by
 have:=(h.lt hk e).2;omega
theorem Grp.mono{w:af}{bL n n':Nat}{M:Ky->Option Value}{E:List (Ky×St)}(h:Grp w bL n M E)(hn:n<=n'):Grp w bL n' M E:=⟨h.map.mono hn,h.row,h.apart⟩
theorem Grp.below{w w':af}{bL n:Nat}{M:Ky->Option Value}{E:List (Ky×St)}(h:Grp w bL n M E)(hB:ae w w'):Grp w' bL n M E where
 map:=h.map.below hB
 row k:=by
  rcases h.row k with e|⟨v,e,ho⟩
  ·exact .inl e
  exact .inr ⟨v,e,own_below ho hB⟩
 apart:=h.apart
theorem grp_made(w:af):Grp (w.alloc (.map #[] 0)) w.heap.size 0 (fun _=>none) [] where
 map:=kr _ _ _ w
 row k:=.inl ⟨rfl,rfl⟩
 apart k k' v v' _ h:=by cases h
structure Stl(W:World)(M:Ky->Option Value)(w2:World)(M2:Ky->Option Value)(bL:Nat):Prop where
 size:W.heap.size<=w2.heap.size
 block:∀g,g<W.heap.size->g≠bL->FreeB M g->w2.heap[g]?=W.heap[g]?
 free:∀g,g<W.heap.size->FreeB M g->FreeB M2 g
theorem Stl.refl(W:af)(M:Ky->Option Value)(bL:Nat):Stl W M W M bL:=⟨Va _,fun _ _ _ _=>rfl,fun _ _ h=>h⟩
theorem Stl.trans{W w2 w3:af}{M M2 M3:Ky->Option Value}{bL:Nat}(h:Stl W M w2 M2 bL)(h2:Stl w2 M2 w3 M3 bL):Stl W M w3 M3 bL where
 size:=Vj h.size h2.size
 block g hg hb hf:=(h2.block g (U9 hg h.size) hb (h.free g hg hf)).trans (h.block g hg hb hf)
 free g hg hf:=h2.free g (U9 hg h.size) (h.free g hg hf)
theorem Stl.below{W w2:af}{M:Ky->Option Value}{bL:Nat}(hB:ae W w2):Stl W M w2 M bL:=⟨hB.size,fun g hg _ _=>hB.block g hg,fun _ _ h=>h⟩
structure Cel(w:World)(M:Ky->Option Value)(bL g o:Nat)(u:Value):Prop where
 cell:w.cell? ⟨g,o,none⟩=some u
 lt:g<w.heap.size
 free:FreeB M g
 ne:g≠bL
theorem Cel.stl{w w2:af}{M M2:Ky->Option Value}{bL g o:Nat}{u:Value}(h:Cel w M bL g o u)(hS:Stl w M w2 M2 bL):Cel w2 M2 bL g o u where
 cell:=(Vx (w:=w) (hS.block g h.lt h.ne h.free)).trans h.cell
 lt:=U9 h.lt hS.size
 free:=hS.free g h.lt h.free
 ne:=h.ne
theorem Grp.step{W0 w1 w2 w3:af}{bL n:Nat}{M:Ky->Option Value}{E:List (Ky×St)}{y:Ky}{v':Value}{s:St}(h:Grp W0 bL n M E)(hg1:W0.grownBy w1 (some bL))(hown:w2.ownsRow (bL+1) 274 3 v' ((lookL E y).length+1) (iV (lookL E y)++s.cells))
  (hg2:w1.grownBy w2 ((M y).getD (.slice none 0 0)).ownBlock) (hloc:v'.ownBlock=((M y).getD (.slice none 0 0)).ownBlock\/v'.ownBlock=some w1.heap.size) (hg3:w2.grownBy w3 (some bL)) (hM:aM dX prog 94 w3 bL (n+1) (lX M y (some v'))) :
  Grp w3 bL (n+1) (lX M y (some v')) (E++[(y,s)])/\Stl W0 M w3 (lX M y (some v')) bL:=by
 have hrow0:∀k v,M k=some v->∃xs m,W0.ownsRow (bL+1) 274 3 v m xs:=fun k v hk=>by
  rcases h.row k with⟨e,-⟩|⟨v1,e,ho⟩
  ·rw[e]at hk;cases hk
  rw[e]at hk;injection hk with hk;subst hk;exact⟨_,_,ho⟩
 have hne2:∀k v,k≠y->M k=some v->v.ownBlock=none\/v.ownBlock≠((M y).getD (.slice none 0 0)).ownBlock:=fun k v hky hk=>by
  cases e:v.ownBlock with
  | none=>exact .inl rfl
  | some g =>
   right;cases ey:M y with
   | none=>simp[Value.ownBlock]
   | some vy=>intro e2;exact h.apart k y v vy hky hk ey g e (by simpa using e2.symm)
 have hnb:∀v,(∃k,M k=some v)->v.ownBlock=none\/v.ownBlock≠some bL:=fun v ⟨k,hk⟩=>by
  cases e:v.ownBlock with
  | none=>exact .inl rfl
  | some g=>right;have:=(h.lt hk e).1;intro e2;injection e2 with e2;omega
 have hnew:∀g,v'.ownBlock=some g->bL<g:=fun g e=>by have:=(hown.lt g e).1;omega
 have hv'b:v'.ownBlock=none\/v'.ownBlock≠some bL:=by
  cases e:v'.ownBlock with
  | none=>exact .inl rfl
  | some g=>right;have:=hnew g e;intro e2;injection e2 with e2;omega
 constructor
 ·refine⟨hM,fun k=>?_,fun k k' v u hkk hk hk' g e=>?_⟩
  ·by_cases ek:k=y
   ·subst ek;rw[ed,uA];refine .inr ⟨v',rfl,?_⟩;rw[Ba,Vh];exact hown.kept hg3 hv'b
   rw[dm ek,qQ _ _ ek];rcases h.row k with e|⟨v,e,ho⟩
   ·exact .inl e
   exact .inr ⟨v,e,((ho.kept hg1 (hnb v ⟨k,e⟩)).kept hg2 (hne2 k v ek e)).kept hg3 (hnb v ⟨k,e⟩)⟩
  by_cases ek:k=y
  ·subst ek;rw[ed]at hk;injection hk with hk;subst hk;rw[dm (Ne.symm hkk)]at hk';intro e2;rcases hloc with el|el
   ·rw[e]at el;cases ey:M k with
    | none=>rw[ey]at el;simp[Value.ownBlock]at el
    | some vy=>rw[ey]at el;exact h.apart k k' vy u hkk ey hk' g (by simpa using el.symm) e2
   rw[e]at el;injection el with el;have:=(h.lt hk' e2).2;have:=hg1.size;omega
  rw[dm ek]at hk;by_cases ek':k'=y
  ·subst ek';rw[ed]at hk';injection hk' with hk';subst hk';intro e2;rcases hloc with el|el
   ·rw[e2]at el;cases ey:M k' with
    | none=>rw[ey]at el;simp[Value.ownBlock]at el
    | some vy=>rw[ey]at el;exact h.apart k k' v vy hkk hk ey g e (by simpa using el.symm)
   rw[e2]at el;injection el with el;have:=(h.lt hk e).2;have:=hg1.size;omega
  rw[dm ek']at hk';exact h.apart k k' v u hkk hk hk' g e
 refine⟨Vj hg1.size (Vj hg2.size hg3.size),fun g hg hb hf=>?_,fun g hg hf k v hk=>?_⟩
 ·have h1:=hg1.block g hg (fun e=>hb (by injection e));have h2:=hg2.block g (U9 hg hg1.size) (fun e=>by
   cases ey:M y with
   | none=>rw[ey]at e;simp[Value.ownBlock]at e
   | some vy=>rw[ey]at e;exact hf y vy ey (by simpa using e.symm))
  have h3:=hg3.block g (U9 hg (Vj hg1.size hg2.size)) (fun e=>hb (by injection e));rw[h3,h2,h1]
 by_cases ek:k=y
 ·subst ek;rw[ed]at hk;injection hk with hk;subst hk;intro e2;rcases hloc with el|el
  ·rw[e2]at el;cases ey:M k with
   | none=>rw[ey]at el;simp[Value.ownBlock]at el
   | some vy=>rw[ey]at el;exact hf k vy ey (by simpa using el.symm)
  rw[e2]at el;injection el with el;have:=hg1.size;omega
 rw[dm ek]at hk;exact hf k v hk
end Go.Proofs.YtajkkeikihhejaaGreat
