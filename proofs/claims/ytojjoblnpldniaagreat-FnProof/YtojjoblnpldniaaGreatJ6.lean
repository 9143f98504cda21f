/- Contract of the document's function on strata. -/
import Derived.Test.YtojjoblnpldniaaGreatSq
import Derived.Test.YtojjoblnpldniaaGreatJ5
import Derived.Test.YtojjoblnpldniaaGreatJ3
open Go.Proofs.Tryz
set_option maxHeartbeats 80000000
set_option linter.defProp false
namespace Go.Proofs.YtojjoblnpldniaaGreat
open ChangeShapes WideShapes ChangeAt RowKit
open Pl
def St.cells(s:St):List Value:=[.string s.typ,.string s.rel,.int .i64 s.n]
def jh:List St->List Value
 | []=>[]
 | s::xs=>s.cells++jh xs
def Gz(xs ys:List St):jh (xs++ys)=jh xs++jh ys:=by
 induction xs with
 | nil=>rfl
 | cons d ds ih=>simp[jh,ih]
def Ce(xs:List St)(d:St):jh (xs++[d])=jh xs++d.cells:=by rw[Gz];simp[jh]
def mM(xs:List St)(i:Nat)(h:i<xs.length)(o:Nat)(ho:o<3):(jh xs)[i*3+o]?=(xs[i].cells)[o]?:=by
 induction xs generalizing i with
 | nil=>simp at h
 | cons s xs ih =>
  cases i with
  | zero =>
   simp only[jh,Nat.zero_mul,Yg,List.getElem_cons_zero];rw[YK (by simp[St.cells];omega)]
  | succ i =>
   simp only[jh,List.getElem_cons_succ];rw[YA (by simp[St.cells];omega)];have e:(i+1)*3+o-s.cells.length=i*3+o:=by simp[St.cells];omega
   rw[e];exact ih i (by simpa using h)
def yE(xs:List Dp)(i:Nat)(h:i<xs.length)(o:Nat)(ho:o<3):(fu xs)[i*3+o]?=(xs[i].cells)[o]?:=by
 induction xs generalizing i with
 | nil=>simp at h
 | cons s xs ih =>
  cases i with
  | zero =>
   simp only[fu,Nat.zero_mul,Yg,List.getElem_cons_zero];rw[YK (by simp[Dp.cells];omega)]
  | succ i =>
   simp only[fu,List.getElem_cons_succ];rw[YA (by simp[Dp.cells];omega)];have e:(i+1)*3+o-s.cells.length=i*3+o:=by simp[Dp.cells];omega
   rw[e];exact ih i (by simpa using h)
def IV(g j:Nat):(⟨g,0,none⟩:Addr).add j=⟨g,j,none⟩:=by
 unfold Addr.add;by_cases hj:j=0
 ·subst hj;simp
 simp[hj]
def Ub{w:ag}{base:Nat}{t:TypeId}{v:Value}{n:Nat}{xs:Q03}(h:w.ownsRow base t 3 v n xs):∃ad cp,v=.slice ad n cp/\(n=0 \/ ∃g,ad=some (am g)/\base<=g/\g<w.heap.size/\∀(j:Nat) (u:Value),xs[j]?=some u->w.cell? (ap g j)=some u):=by
 have h2:=h;rcases h.2 with⟨rfl,h0⟩|⟨g,cp,cur,rfl,hbg,hg,hnc,-⟩
 ·exact⟨none,0,by rw[h0],.inl h0⟩
 have hlt:=h2.lt g rfl;refine⟨_,cp,rfl,.inr ⟨g,rfl,hlt.1,hlt.2,fun j u hu=>?_⟩⟩;have:=h2.cells (g:=g) rfl j u hu;rwa [IV]at this
def AtD(w:World)(b off:Nat)(d:Dp):Prop:=w.cell? ⟨b,off,none⟩=some (.string d.typ)/\w.cell? ⟨b,off+1,none⟩=some (.string d.rel)/\w.cell? ⟨b,off+2,none⟩=some (.bool d.neg)
def Vn(w:World)(lo:Nat)(ad:Q02)(xs:List Dp):Prop:=xs=[] \/ ∃b,ad=some ⟨b,0,none⟩/\lo<=b/\b<w.heap.size/\∀(i:Nat) (h:i<xs.length),AtD w b (i*3) xs[i]
def WV{w:ag}{base:Nat}{v:Value}{xs:List Dp}(h:w.ownsRow base 294 3 v xs.length<|fu xs):∃ad cp,v=.slice ad xs.length cp/\Vn w base ad xs:=by
 obtain⟨ad,cp,e,h0⟩:=Ub h;refine⟨ad,cp,e,?_⟩;rcases h0 with h0|⟨g,e1,hb,hg,hc⟩
 ·exact .inl<|X0.1 h0
 refine .inr ⟨g,e1,hb,hg,fun i hi=>⟨?_,?_,?_⟩⟩
 ·exact hc _ _ (by have:=yE xs i hi 0 cq;simpa[Dp.cells] using this)
 ·exact hc _ _ (by have:=yE xs i hi 1 cq;simpa[Dp.cells] using this)
 exact hc _ _ (by have:=yE xs i hi 2 cq;simpa[Dp.cells] using this)
def XA(w:World)(g:Nat)(xs:List St):Prop:=∀(i:Nat) (h:i<xs.length),WG w g (i*3) xs[i]
def WW{w:ag}{base:Nat}{v:Value}{xs:List St}(h:w.ownsRow base 212 3 v xs.length<|jh xs):∃ad cp,v=.slice ad xs.length cp/\(xs.length=0 \/ ∃g,ad=some (am g)/\base<=g/\g<w.heap.size/\XA w g xs):=by
 obtain⟨ad,cp,e,h0⟩:=Ub h;refine⟨ad,cp,e,?_⟩;rcases h0 with h0|⟨g,e1,hb,hg,hc⟩
 ·exact .inl h0
 refine .inr ⟨g,e1,hb,hg,fun i hi=>⟨?_,?_,?_⟩⟩
 ·exact hc _ _ (by have:=mM xs i hi 0 cq;simpa[St.cells] using this)
 ·exact hc _ _ (by have:=mM xs i hi 1 cq;simpa[St.cells] using this)
 exact hc _ _ (by have:=mM xs i hi 2 cq;simpa[St.cells] using this)
def Uc:(prog.info? 212).map (fun i=>(i.zero,i.size,i.bytes))=some (some<|.agg #[.string ⟨#[]⟩,.string ⟨#[]⟩,.int .i64 0],3,40):=cw
def IW(ks:List<|ByteArray×ByteArray):List St:=ks.map fun k=>⟨k.1,k.2,0⟩
def GD(ks:List<|ByteArray×ByteArray):(IW ks).length=ks.length:=by simp[IW]
def QY(ks:List<|ByteArray×ByteArray)(k:Q01):IW (ks++[k])=IW ks++[⟨k.1,k.2,0⟩]:=by simp[IW]
def dL(rs:Q06)(k:Nat):List (ByteArray×ByteArray):=ay<|ai<|rs.take k
def jC(t:TR)(j:Nat):List (ByteArray×ByteArray):=(t.rows.take j).map fun q=>(t.name,q.name)
def qC(rs:Q06)(k:Nat)(h:k<rs.length):dL rs (k+1)=dL rs k++jC rs[k] rs[k].rows.length:=by
 unfold dL jC;rw[XM h,X8];unfold ai ay;rw[YF,YE,List.map_singleton,List.flatMap_singleton];congr 1;simp[jN,TR.p,fD,RR.p]
def vM(t:TR)(j:Nat)(h:j<t.rows.length):jC t (j+1)=jC t j++[(t.name,t.rows[j].name)]:=by
 unfold jC;rw[XM h,YF];rfl
def E8(t:TR)(j:Nat):(jC t j).length<=t.rows.length:=by unfold jC;simp;omega
def yF(rs:Q06)(hr:∀r∈rs,r.rows.length<=6)(k:Nat):(dL rs k).length<=k*6:=by
 induction k with
 | zero=>simp[dL,ai,ay]
 | succ k ih =>
  by_cases h:k<rs.length
  ·rw[qC _ _ h,XT];have h1:=E8 rs[k] rs[k].rows.length;have h2:=hr rs[k]<|XI h;omega
  have e:rs.take (k+1)=rs.take k:=by rw[Yj cq,Yj cq]
  unfold dL at ih⊢;rw[e];omega
open Maps
def RR.sl(q:RR):Value:=.slice q.ad q.rows.length q.cap
def mi(t:ByteArray)(M:ByteArray×ByteArray->Option Value):List RR->ByteArray×ByteArray->Option Value
 | []=>M
 | q::qs=>mi t (iw M (t,q.name)<|some q.sl) qs
def fF(M:ByteArray×ByteArray->Option Value):List TR->ByteArray×ByteArray->Option Value
 | []=>M
 | t::ts=>fF (mi t.name M t.rows) ts
def qD(rs:Q06):ByteArray×ByteArray->Option Value:=fF (fun _=>none) rs
def GG(t:dw)(M:ByteArray×ByteArray->Option Value)(xs ys:Q07):mi t M (xs++ys)=mi t (mi t M xs) ys:=by
 induction xs generalizing M with
 | nil=>rfl
 | cons q qs ih=>simp only[Yz,mi];exact ih _
def Cf(M:ByteArray×ByteArray->Option Value)(xs ys:Q06):fF M (xs++ys)=fF (fF M xs) ys:=by
 induction xs generalizing M with
 | nil=>rfl
 | cons q qs ih=>simp only[Yz,fF];exact ih _
def KR(t:dw)(M:ByteArray×ByteArray->Option Value)(qs:Q07)(j:Nat)(h:j<qs.length):mi t M (qs.take<|j+1)=iw (mi t M<|qs.take j) (t,qs[j].name) (some qs[j].sl):=by
 rw[XM h,GG];rfl
def GH(M:ByteArray×ByteArray->Option Value)(rs:Q06)(k:Nat)(h:k<rs.length):fF M (rs.take<|k+1)=mi rs[k].name (fF M<|rs.take k) rs[k].rows:=by
 rw[XM h,Cf];rfl
set_option maxRecDepth 100000 in
def zy(ad:Q02)(cap:Nat)(rs:Q06)(w:ag)(hlen:rs.length<=6)(hs:kI w ad rs)(hrl:∀r∈rs,r.rows.length<=6)(hf:∀r∈rs,r.fits):
  Calls prog 63 #[.slice ad rs.length cap] w fun e w'=>e=.returned (.map<|some w.heap.size)/\aL eD prog 146 w' w.heap.size 36 (qD rs)/\ae w w':=by
 have HS:=aK hs;have HRL:O (∀r∈rs,r.rows.length<=6):=hrl;have Zd:=aK hf;have HM0:O (aL eD prog 146 (w.alloc<|.map #[] 0) w.heap.size 0 fun _=>none):=jL _ _ _ w;have HB0:O (ae w<|w.alloc<|.map #[] 0):=(XL _ _).alloc (XK _) _;clear hs hrl hf;have hmm:=@run_makeMap prog;go_enter func63,ntmps63;go_wp2_with fail;go_loopw[11] (fun i wr=>∃k:Nat,k<=rs.length/\i=.int .i64 k/\O (aL eD prog 146 wr w.heap.size (k*6)<|fF (fun _=>none) (rs.take k))/\O (ae w wr)) (fun i _=>rs.length-(intOf i).toNat);case atStart=>exact⟨0,XP _,rfl,HM0,HB0⟩
 clear HM0 HB0 hmm;obtain⟨k,hk,rfl,HM,HB⟩:=hrel;by_cases hlt:k<rs.length
 ·rcases HS.out.below HB.out with rfl|⟨b,off,rfl,hb,hr,hok⟩
  ·simp at hlt
  obtain⟨t0,t1⟩:=hr k hlt;have hk1:=bG k;have hk2:(k:Int)<(rs.length:Int):=cq;have h6:rs[k].rows.length<=6:=HRL _<|XI hlt;have z0:rs[k].name.size<=maxLen:=(Zd _<|XI hlt).1;have HFR:O (∀q∈rs[k].rows,q.fits):=(Zd _<|XI hlt).2.2;clear hr hok;obtain⟨W1,hW1⟩:=eQx<|wr.alloc<|.cells #[.string rs[k].name,.slice rs[k].ad rs[k].rows.length rs[k].cap] 36;have hal:ae wr W1:=by rw[hW1];exact(XL _ _).alloc (XK _) _
  have HM1:O (aL eD prog 146 W1 w.heap.size (k*6)<|fF (fun _=>none) (rs.take k)):=HM.below hal;have HB1:=jr HB hal;have HC1:O (wr.heap.size<W1.heap.size/\W1.cell? ⟨wr.heap.size,0,none⟩=some (.string rs[k].name)):=⟨by rw[hW1];simp,by rw[hW1];simp⟩;have hgw:w.heap.size<wr.heap.size:=HM.lt;clear HM hal;go_wp2_with fail;rw[<-hW1];clear hW1 t0 t1 HB;obtain⟨wo,hwo⟩:=eQx wr;subst hwo;go_loopw[18] (fun i w2=>∃j:Nat,j<=rs[k].rows.length/\i=.int .i64 j/\O (aL eD prog 146 w2 w.heap.size (k*6+j)<|mi rs[k].name (fF (fun _=>none) (rs.take k)) (rs[k].rows.take j))/\O (ae w w2)/\O (wo.heap.size<w2.heap.size/\w2.cell? ⟨wo.heap.size,0,none⟩=some (.string rs[k].name))) (fun i _=>rs[k].rows.length-(intOf i).toNat);case atStart=>exact⟨0,XP _,rfl,HM1,HB1,HC1⟩
  clear HM1 HB1 HC1;obtain⟨j,hj,rfl,HM,HB,HC⟩:=hrel;by_cases hjl:j<rs[k].rows.length
  ·rcases HS.out.below HB.out with hnil|⟨b',off',he,hb2,hr,hok⟩
   ·rw[hnil]at hlt;simp at hlt
   injection he with he;injection he with he1 he2;subst he1;subst he2;have ok:=hok rs[k]<|XI hlt;rcases ok with hnil|⟨b2,ZR,had,hbb,hr2,-⟩
   ·rw[hnil]at hjl;simp at hjl
   obtain⟨q0,q1⟩:=hr2 j hjl;have z1:rs[k].rows[j].name.size<=maxLen:=(HFR _<|XI hjl).1;have hj1:=bG j;have hj2:(j:Int)<(rs[k].rows.length:Int):=cq;obtain⟨kl,hkl⟩:=j5 (rs[k].name,rs[k].rows[j].name) z0 z1;have ZY:O (keyOf prog 146 (eD (rs[k].name,rs[k].rows[j].name))=some kl):=hkl;obtain⟨W2,hW2⟩:=eQx<|wr.alloc<|.cells #[.string rs[k].rows[j].name,.slice rs[k].rows[j].ad rs[k].rows[j].rows.length rs[k].rows[j].cap] 39;have hal:ae wr W2:=by rw[hW2];exact(XL _ _).alloc (XK _) _
   have ZT:O (aL eD prog 146 W2 w.heap.size (k*6+j)<|mi rs[k].name (fF (fun _=>none) (rs.take k)) (rs[k].rows.take j)):=HM.below hal;have HB2:=jr HB hal;have hc1:=aM hal HC.1 HC.2;have ZM:O (wo.heap.size<W2.heap.size/\W2.cell? ⟨wo.heap.size,0,none⟩=some (.string rs[k].name)):=⟨XJ HC.1 hal.size,hc1⟩;have g0:W2.cell? ⟨wr.heap.size,0,none⟩=some (.string rs[k].rows[j].name):=by rw[hW2];simp
   have g1:W2.cell? ⟨wr.heap.size,1,none⟩=some (.slice rs[k].rows[j].ad rs[k].rows[j].rows.length rs[k].rows[j].cap):=by rw[hW2];simp
   have hsz:wo.heap.size<wr.heap.size:=HC.1;have hc0:=HC.2;rw[had];clear hr hok hr2 hkl HM hal HC;go_wp2_with(first|(at_mapUpdate;rw[<-hW2];refine jw _ rfl _ _ _ 102 rfl 146 37 ji wE underlying102 w.heap.size (k*6+j) _ rfl ZT cy (rs[k].name,rs[k].rows[j].name) kl rfl ZY _ rfl ?_;intro w3 hV3 hg3)|go_in);have HM4:O (aL eD prog 146 w3 w.heap.size (k*6+(j+1))<|mi rs[k].name (fF (fun _=>none) (rs.take k)) (rs[k].rows.take<|j+1)):=by
    show aL _ _ _ _ _ _ _;rw[KR _ _ _ _ hjl];exact hV3
   have Z7:O (ae w w3):=HB2.grown hg3 HB2.size (fun i hi=>by injection hi with hi;omega);have HC4:O (wo.heap.size<w3.heap.size/\w3.cell? ⟨wo.heap.size,0,none⟩=some (.string rs[k].name)):=⟨XJ ZM.1 hg3.size,by rw[hg3.cell_far _ ZM.1 (by simp;omega)];exact ZM.2⟩;clear hV3 hg3 hW2 ZT HB2 ZM g0 g1 q0 q1 hc0 hc1;go_wp2;go_roundw;case rel=>exact⟨j+1,cq,cx,HM4,Z7,HC4⟩
   simp[intOf]<;>omega
  obtain rfl:j=rs[k].rows.length:=cq;have HM4:O (aL eD prog 146 wr w.heap.size ((k+1)*6)<|fF (fun _=>none) (rs.take<|k+1)):=by
   show aL _ _ _ _ _ _ _;have:=HM.out;rw[X8]at this;rw[GH _ _ _ hlt];exact this.mono cq
  clear HM;go_wp2;go_roundw;case rel=>exact⟨k+1,cq,cx,HM4,HB⟩
  simp[intOf]<;>omega
 obtain rfl:k=rs.length:=cq;have HM4:O (aL eD prog 146 wr w.heap.size 36<|qD rs):=by
  show aL _ _ _ _ _ _ _;have:=HM.out;rw[X8]at this;exact this.mono cq
 go_wp2;go_ret;exact⟨rfl,HM4,HB⟩
def Vo:∀x:List UInt8,Op.bytesLess x x=false
 | []=>rfl
 | a::x=>by simp[Op.bytesLess,Vo x]
def Vp:∀x y z:List UInt8,Op.bytesLess x y=true->Op.bytesLess y z=true->Op.bytesLess x z=true
 | [],_,[],h,k=>by cases ‹List UInt8› <;> simp [Op.bytesLess] at h k
 | [],_,_::_,_,_=>rfl
 | _::_,[],_,h,_=>by simp[Op.bytesLess]at h
 | _::_,_::_,[],_,k=>by simp[Op.bytesLess]at k
 | a::x,b::y,c::z,h,k=>by
  simp only[Op.bytesLess,Bool.or_eq_true,XN,XU,beq_iff_eq]at h k ⊢;rcases h with h|⟨h,h'⟩
  ·rcases k with k|⟨k,k'⟩
   ·exact .inl<|UInt8.lt_trans h k
   exact .inl<|k ▸ h
  rcases k with k|⟨k,k'⟩
  ·exact .inl<|h ▸ k
  exact .inr ⟨h.trans k,Vp x y z h' k'⟩
def tT{f:Nat->ByteArray}{n:Nat}(h:∀i,i+1<n->jO (f i) (f<|i+1)=true):∀i j,i<j->j<n->f i≠f j:=by
 have h2:∀d i,i+d+1<n->jO (f i) (f<|i+d+1)=true:=by
  intro d
  induction d with
  | zero=>intro i hi;exact h i cq
  | succ d ih =>
   intro i hi;have h3:=ih i cq;have h4:=h (i+d+1) cq;exact Vp _ _ _ h3 h4
 intro i j hij hj e;have h5:=h2 (j-i-1) i cq;have e2:i+(j-i-1)+1=j:=cq;rw[e2,e]at h5;unfold jO at h5;rw[Vo]at h5;cases h5
def kW{rs:Q06}(h:bz (ai rs)=true)(k:Nat)(hk:k<rs.length):aW rs[k].name=true/\(∀i (hi:i<rs.length),k=i+1->jO rs[i].name rs[k].name=true)/\dS (fD rs[k].rows) rs[k].rows.length=true:=by
 simp only[bz,XN,XU]at h;rw[mD]at h;have h1:=qA h.2 k hk;unfold lJ at h1;have e:(ai rs)[k]?=some rs[k].p:=by simp[ai,hk]
 rw[e]at h1;simp only[XN,XU]at h1;have e2:rs[k].p.rels.length=rs[k].rows.length:=by simp[TR.p,fD]
 rw[e2]at h1;refine⟨h1.1.1.1,fun i hi hki=>?_,h1.2⟩;subst hki;have h2:=h1.1.1.2;have e3:(ai rs)[i]?=some rs[i].p:=by simp[ai,hi]
 simp only[e3,Option.map_some,Yv]at h2;exact h2
def yG{rs:Q07}{n:Nat}(h:dS (fD rs) n=true)(k:Nat)(hk:k<rs.length)(hn:k<n):aW rs[k].name=true/\(∀i (hi:i<rs.length),k=i+1->jO rs[i].name rs[k].name=true)/\aS (au rs[k].rows)=true:=by
 have h1:=qz h k hn;unfold nE at h1;have e:(fD rs)[k]?=some rs[k].p:=by simp[fD,hk]
 rw[e]at h1;simp only[XN]at h1;refine⟨h1.1.1,fun i hi hki=>?_,h1.2⟩;subst hki;have h2:=h1.1.2;have e3:(fD rs)[i]?=some rs[i].p:=by simp[fD,hi]
 simp only[e3,Option.map_some,Yv]at h2;exact h2
def IX{rs:Q06}(h:bz (ai rs)=true){t t':TR}(ht:t∈rs)(ht':t'∈rs)(e:t.name=t'.name):t=t':=by
 obtain ⟨i,hi,rfl⟩:=Yu.1 ht;obtain ⟨j,hj,rfl⟩:=Yu.1 ht';have hne:=tT (f:=fun k=>(rs[k]?.map TR.name).getD ByteArray.empty) (n:=rs.length) (fun k hk=>by
  have h0:k<rs.length:=cq;simp only[XQ hk,XQ h0,Option.map_some,Yv];exact(kW h (k+1) hk).2.1 k h0 rfl)
 by_cases hij:i=j
 ·subst hij;rfl
 exfalso;rcases Nat.lt_or_gt_of_ne hij with hl|hl
 ·have:=hne i j hl hj;simp[hi,hj]at this;exact this e
 have:=hne j i hl hi;simp[hi,hj]at this;exact this e.symm
def IY{rs:Q07}(h:dS (fD rs) rs.length=true){t t':RR}(ht:t∈rs)(ht':t'∈rs)(e:t.name=t'.name):t=t':=by
 obtain ⟨i,hi,rfl⟩:=Yu.1 ht;obtain ⟨j,hj,rfl⟩:=Yu.1 ht';have hne:=tT (f:=fun k=>(rs[k]?.map RR.name).getD ByteArray.empty) (n:=rs.length) (fun k hk=>by
  have h0:k<rs.length:=cq;simp only[XQ hk,XQ h0,Option.map_some,Yv];exact(yG h (k+1) hk hk).2.1 k h0 rfl)
 by_cases hij:i=j
 ·subst hij;rfl
 exfalso;rcases Nat.lt_or_gt_of_ne hij with hl|hl
 ·have:=hne i j hl hj;simp[hi,hj]at this;exact this e
 have:=hne j i hl hi;simp[hi,hj]at this;exact this e.symm
def KS{t:ByteArray}{M:ByteArray×ByteArray->Option Value}{qs:Q07}{k:Q01}{v:Value}(h:mi t M qs k=some v):M k=some v \/ ∃q∈qs,k=(t,q.name)/\v=q.sl:=by
 induction qs generalizing M with
 | nil=>exact .inl h
 | cons q qs ih =>
  simp only[mi]at h;rcases ih h with h|⟨q',hq,e⟩
  ·by_cases e:k=(t,q.name)
   ·rw[e,dH]at h;injection h with h;exact .inr ⟨q,ct,e,h.symm⟩
   rw[bP e]at h;exact .inl h
  exact .inr ⟨q',by simp[hq],e⟩
def zz{t:ByteArray}{M:ByteArray×ByteArray->Option Value}{qs:Q07}{k:Q01}(h:(M k).isSome=true \/ ∃q∈qs,k=(t,q.name)):(mi t M qs k).isSome=true:=by
 induction qs generalizing M with
 | nil=>rcases h with h|⟨q,hq,-⟩;exact h;cases hq
 | cons q qs ih =>
  simp only[mi];refine ih ?_;by_cases e:k=(t,q.name)
  ·left;rw[e,dH];rfl
  rcases h with h|⟨q',hq,e'⟩
  ·left;rw[bP e];exact h
  rcases X7.1 hq with rfl|hq
  ·exact absurd e' e
  exact .inr ⟨q',hq,e'⟩
def GI{M:ByteArray×ByteArray->Option Value}{rs:Q06}{k:Q01}{v:Value}(h:fF M rs k=some v):M k=some v \/ ∃t∈rs,∃q∈t.rows,k=(t.name,q.name)/\v=q.sl:=by
 induction rs generalizing M with
 | nil=>exact .inl h
 | cons t rs ih =>
  simp only[fF]at h;rcases ih h with h|⟨t',ht,e⟩
  ·rcases KS h with h|⟨q,hq,e⟩
   ·exact .inl h
   exact .inr ⟨t,ct,q,hq,e⟩
  exact .inr ⟨t',by simp[ht],e⟩
def uJ{M:ByteArray×ByteArray->Option Value}{rs:Q06}{k:Q01}(h:(M k).isSome=true \/ ∃t∈rs,∃q∈t.rows,k=(t.name,q.name)):(fF M rs k).isSome=true:=by
 induction rs generalizing M with
 | nil=>rcases h with h|⟨q,hq,-⟩;exact h;cases hq
 | cons t rs ih =>
  simp only[fF];refine ih ?_;rcases h with h|⟨t',ht,q,hq,e⟩
  ·exact .inl<|zz<|.inl h
  rcases X7.1 ht with rfl|ht
  ·exact .inl<|zz<|.inr ⟨q,hq,e⟩
  exact .inr ⟨t',ht,q,hq,e⟩
def KT{rs:List Rl}{n:ByteArray}(h:kJ rs n=none):∀r∈rs,r.name≠n:=by
 induction rs with
 | nil=>intro r hr;cases hr
 | cons r rs ih =>
  simp only[kJ]at h;split at h
  ·cases h
  rename_i hn;intro q hq;rcases X7.1 hq with rfl|hq
  ·exact fun e=>hn<|fT.2 e
  exact ih h q hq
def Om{ts:Q0b}{ty n:ByteArray}(h:fI ts ty n=none):∀t∈ts,t.name=ty->∀r∈t.rels,r.name≠n:=by
 induction ts with
 | nil=>intro t ht;cases ht
 | cons t ts ih =>
  simp only[fI]at h;intro q hq e;split at h
  ·rw[Option.or_eq_none_iff]at h;rcases X7.1 hq with rfl|hq
   ·exact KT h.1
   exact ih h.2 q hq e
  rename_i hn;rcases X7.1 hq with rfl|hq
  ·exact absurd (fT.2 e) hn
  exact ih h q hq e
def rX{rs:Q06}{ty n:ByteArray}{es:Q09}(h:fI (ai rs) ty n=some es):∃t∈rs,∃q∈t.rows,t.name=ty/\q.name=n/\au q.rows=es:=by
 obtain⟨t,ht,r,hr,e1,e2,e3⟩:=wT h;obtain⟨t',ht',rfl⟩:=XW.1 ht;obtain⟨q,hq,rfl⟩:=XW.1 hr;exact⟨t',ht',q,hq,e1,e2,e3⟩
structure Tab(rs:Q06)(M:ByteArray×ByteArray->Option Value):Prop where
 no:∀k,M k=none->fI (ai rs) k.1 k.2=none
 yes:∀k v,M k=some v->∃t∈rs,∃q∈t.rows,k=(t.name,q.name)/\v=q.sl/\fI (ai rs) k.1 k.2=some (au q.rows)/\aS (au q.rows)=true
def qE{rs:Q06}(h:bz (ai rs)=true):Tab rs (qD rs) where
 no k hk:=by
  cases e:fI (ai rs) k.1 k.2 with
  | none=>rfl
  | some es =>
   obtain⟨t,ht,q,hq,e1,e2,-⟩:=rX e;have:=uJ (M:=fun _=>none) (rs:=rs) (k:=k) (.inr ⟨t,ht,q,hq,by rw[e1,e2]⟩);unfold qD at hk;rw[hk]at this;cases this
 yes k v hk:=by
  rcases GI hk with h0|⟨t,ht,q,hq,e,ev⟩
  ·cases h0
  have hSF:=bI h;refine⟨t,ht,q,hq,e,ev,?_,(hSF.2.2 t ht q hq).1⟩;cases e2:fI (ai rs) k.1 k.2 with
  | none=>exact(Om e2 t.p (Yn ht) (by rw[e];rfl) q.p (Yn hq) (by rw[e];rfl)).elim
  | some es =>
   obtain⟨t',ht',q',hq',e3,e4,e5⟩:=rX e2;have h1:t'=t:=IX h ht' ht (by rw[e3,e]);subst h1;obtain⟨i,hi,rfl⟩:=Yu.1 ht;have h2:q'=q:=IY (kW h i hi).2.2 hq' hq (by rw[e4,e]);subst h2;rw[e5]
def Tab.some_iff{rs:Q06}{M:ByteArray×ByteArray->Option Value}(h:Tab rs M)(k:Q01):(M k).isSome=!(aH (ai rs) k.1 k.2).isEmpty:=by
 unfold aH;cases e:M k with
 | none=>rw[h.no k e];rfl
 | some v =>
  obtain⟨t,ht,q,hq,-,-,e1,e2⟩:=h.yes k v e;rw[e1];have:=pq e2;cases e3:au q.rows with
  | nil=>rw[e3]at this;simp at this
  | cons x xs=>rfl
def Cg(d:Dp):0<=stepOf d/\stepOf d<=1:=by unfold stepOf;split<;>omega
structure Mid(ts:Q0b)(n:Nat)(oS:List St)(k j:Nat)(mb:Bool)(out:List St):Prop where
 len:out.length=n
 nn:n=(ay ts).length
 round:Round ts out
 le:∀i (h:i<out.length),i≠k->out[i].n<=n
 lek:∀h:k<out.length,out[k].n<=n+1+j
 same:mb=false->out=oS/\(∀i (h:i<out.length),i<k->Ua ts out out[i] (iP ts out[i].key).length)/\∀h:k<out.length,Ua ts out out[k] j
 grow:nY oS<=nY out/\(mb=true->nY oS<nY out)
def Mid.start{ts:Q0b}{n:Nat}{out:List St}(hl:out.length=n)(hn:n=(ay ts).length)(hr:Round ts out)(hle:∀s∈out,s.n<=n):Mid ts n out 0 0 false out where
 len:=hl
 nn:=hn
 round:=hr
 le i h _:=hle _<|XI h
 lek h:=by have:=hle _<|XI h;omega
 same _:=⟨rfl,fun i _ hi=>cq,fun _ d hd=>by simp at hd⟩
 grow:=⟨Int.le_refl _,ct⟩
def Mid.key{ts:Q0b}{n k j:Nat}{oS out:List St}{mb:Bool}(h:Mid ts n oS k j mb out)(hk:k<out.length)(hk2:k<(ay ts).length):out[k].key=(ay ts)[k]:=by
 have e:=h.round.keys;have:(jg out)[k]'(by simp[jg,hk])=(ay ts)[k]:=by simp only[e]
 rw[<-this];simp[jg]
def qF(out:List St)(d:Dp):Int:=gI out (d.typ,d.rel)+stepOf d
def Mid.at{ts:Q0b}{n k j:Nat}{oS out:List St}{mb:Bool}(h:Mid ts n oS k j mb out)(key:Q01)(hk:key∈ay ts):∃i:Nat,∃hi:i<out.length,iG key.1 key.2 out 0=(i:Int)/\out[i].n=gI out key/\0<=gI out key/\gI out key<=n+1+j:=by
 obtain⟨i,hi,h1,h2,h3⟩:=qy out 0 (k:=key) (by rw[h.round.keys];exact hk);refine⟨i,hi,by rw[h1];congr 1;omega,h3,?_,?_⟩
 ·exact(h.round.at hk).1
 rw[<-h3];by_cases e:i=k
 ·subst e;exact h.lek hi
 have:=h.le i hi e;omega
def Mid.no{ts:Q0b}{n k j:Nat}{oS out:List St}{mb:Bool}(h:Mid ts n oS k j mb out)(hk:k<out.length)(d:Dp)(hd:(iP ts out[k].key)[j]?=some d)(hw:qF out d<=out[k].n):Mid ts n oS k (j+1) mb out where
 len:=h.len
 nn:=h.nn
 round:=h.round
 le:=h.le
 lek hh:=by have:=h.lek hh;omega
 same hm:=by
  obtain⟨e,s1,s2⟩:=h.same hm;refine⟨e,s1,fun hh d' hd'=>?_⟩;obtain⟨hj,hd2⟩:=List.getElem?_eq_some_iff.1 hd;rw[XM hj]at hd';rcases XV.1 hd' with hd'|hd'
  ·exact s2 hh d' hd'
  rw[hd2]at hd';simp at hd';subst hd';exact hw
 grow:=h.grow
def Mid.yes{ts:Q0b}{n k j:Nat}{oS out:List St}{mb:Bool}(h:Mid ts n oS k j mb out)(hF:Found ts)(hk:k<out.length)(d:Dp)(hd:(iP ts out[k].key)[j]?=some d)(hw:out[k].n<qF out d):Mid ts n oS k (j+1) true (out.set k ⟨out[k].typ,out[k].rel,qF out d⟩) where
 len:=by rw[List.length_set];exact h.len
 nn:=h.nn
 round:=h.round.set hF hk<|YR hd
 le i hi hne:=by
  rw[List.getElem_set_ne (Ne.symm hne)];exact h.le i (by simpa using hi) hne
 lek hh:=by
  rw[List.getElem_set_self];show qF out d<=_;obtain⟨i,hi,-,-,-,h4⟩:=h.at (d.typ,d.rel)<|hF _ (h.round.mem<|XI hk) d<|YR hd;have:=Cg d;unfold qF;push_cast;omega
 same hm:=by cases hm
 grow:=by
  have:=h.grow.1;rw[QP _ _ hk];exact⟨cq,fun _=>cq⟩
def Mid.next{ts:Q0b}{n k j:Nat}{oS out:List St}{mb:Bool}(h:Mid ts n oS k j mb out)(hk:k<out.length)(hj:j=(iP ts out[k].key).length)(hle:out[k].n<=n):Mid ts n oS (k+1) 0 mb out where
 len:=h.len
 nn:=h.nn
 round:=h.round
 le i hi _:=by
  by_cases e:i=k
  ·subst e;exact hle
  exact h.le i hi e
 lek hh:=by have:=h.le (k+1) hh cq;omega
 same hm:=by
  obtain⟨e,s1,s2⟩:=h.same hm;refine⟨e,fun i hi hik=>?_,fun _ d hd=>by simp at hd⟩;by_cases e2:i=k
  ·subst e2;have:=s2 hi;rw[hj]at this;exact this
  exact s1 i hi cq
 grow:=h.grow
def Mid.over{ts:Q0b}{n k j:Nat}{oS out:List St}{mb:Bool}(h:Mid ts n oS k j mb out)(hF:Found ts)(hk:k<out.length)(hn:(n:Int)<out[k].n):¬ ∃f,Sol ts f :=
 QN hF (h.round.mem<|XI hk) (h.round.low _<|XI hk) (by have:=h.nn;omega)
structure Pass(ts:Q0b)(n:Nat)(mb:Bool)(out:List St):Prop where
 len:out.length=n
 nn:n=(ay ts).length
 round:Round ts out
 le:∀s∈out,s.n<=n
 sat:mb=false->∀s∈out,Ua ts out s (iP ts s.key).length
def Mid.done{ts:Q0b}{n k j:Nat}{oS out:List St}{mb:Bool}(h:Mid ts n oS k j mb out)(hk:k=n):Pass ts n mb out where
 len:=h.len
 nn:=h.nn
 round:=h.round
 le s hs:=by
  obtain⟨i,hi,rfl⟩:=Yu.1 hs;exact h.le i hi (by have:=h.len;omega)
 sat hm s hs:=by
  obtain⟨e,s1,s2⟩:=h.same hm;obtain⟨i,hi,rfl⟩:=Yu.1 hs;exact s1 i hi (by have:=h.len;omega)
def Pass.least{ts:Q0b}{n:Nat}{out:List St}(h:Pass ts n false out):Least ts (gI out):=h.round.done<|h.sat rfl
def Pass.zero{ts:Q0b}{n:Nat}(hn:n=(ay ts).length):Pass ts n true (IW<|ay ts) where
 len:=by rw[GD,hn]
 nn:=hn
 round:=⟨by unfold jg IW;rw[List.map_map];exact List.map_id _,fun s hs=>by simp[IW]at hs;obtain⟨a,b,-,rfl⟩:=hs;exact Int.le_refl _,fun s hs=>by simp[IW]at hs;obtain⟨a,b,-,rfl⟩:=hs;exact rR.zero _ _⟩
 le s hs:=by simp[IW]at hs;obtain⟨a,b,-,rfl⟩:=hs;simp
 sat h:=by cases h
def Ud(n:Int)(out:List St)(h:∀s∈out,s.n<=n):nY out<=n*out.length:=by
 induction out with
 | nil=>simp[nY]
 | cons s xs ih =>
  have h1:=h s ct;have h2:=ih fun q hq=>h q (by simp[hq]);simp only[nY,Yh];have:n*((xs.length+1:Nat):Int)=n*xs.length+n:=by push_cast;rw[Int.mul_add];simp
  omega
structure RowS(w wr:World)(ad:Q02)(g:Nat)(out:List St):Prop where
 below:ae w wr
 at':out=[]\/(ad=some ⟨g,0,none⟩/\w.heap.size<=g/\g<wr.heap.size/\XA wr g out/\∀j,wr.frozen? ⟨g,j,none⟩=false)
def WG.kept{w w':ag}{b off:Nat}{s:St}(h:WG w b off s)(hb:cW b w)(hB:ae w w'):WG w' b off s:=⟨aM hB hb h.1,aM hB hb h.2.1,aM hB hb h.2.2⟩
def RowS.kept{w wr w2:ag}{ad:Q02}{g:Nat}{out:List St}(h:RowS w wr ad g out)(hb:ae wr w2):RowS w w2 ad g out where
 below:=h.below.trans<|hb.mono h.below.size
 at':=by
  rcases h.at' with e|⟨e,h1,h2,h3,h4⟩
  ·exact .inl e
  exact .inr ⟨e,h1,XJ h2 hb.size,fun i hi=>(h3 i hi).kept h2 hb,fun j=>by rw[hb.frozen (p:=⟨g,j,none⟩) h2];exact h4 j⟩
def RowS.slN{w wr:ag}{ad:Q02}{g:Nat}{out:List St}(h:RowS w wr ad g out):KI wr ad out:=by
 rcases h.at' with e|⟨e,h1,h2,h3,h4⟩
 ·exact .inl e
 exact .inr ⟨g,0,e,h2,fun i hi=>by rw[Yg];exact h3 i hi⟩
def RowS.set{w wr:ag}{ad:Q02}{g:Nat}{out:List St}(h:RowS w wr ad g out){k:Nat}(hk:k<out.length)(n:Int):RowS w (wr.setCell (ap g<|k*3+2)<|.int .i64 n) ad g (out.set k ⟨out[k].typ,out[k].rel,n⟩):=by
 rcases h.at' with e|⟨e,h1,h2,h3,h4⟩
 ·rw[e]at hk;simp at hk
 refine⟨h.below.setCell (p:=⟨g,k*3+2,none⟩) h1 _,.inr ⟨e,h1,by simpa using h2,fun i hi=>?_,fun j=>by simpa using h4 j⟩⟩;have hi':i<out.length:=by simpa using hi
 obtain⟨c0,c1,c2⟩:=h3 i hi';by_cases ei:i=k
 ·subst ei;rw[List.getElem_set_self];exact⟨by rw[rA cq];exact c0,by rw[rA cq];exact c1,AZ c2⟩
 rw[List.getElem_set_ne (Ne.symm ei)];exact⟨by rw[rA cq];exact c0,by rw[rA cq];exact c1,by rw[rA cq];exact c2⟩
def QZ(w:World)(g i:Nat):Int:=match w.cell? ⟨g,i*3+2,none⟩ with|some (.int _ x)=>x|_=>0
def KU(w:World)(g:Nat):Nat->Int
 | 0=>0
 | n+1=>KU w g n+QZ w g n
def IZ(xs ys:List St):nY (xs++ys)=nY xs+nY ys:=by
 induction xs with
 | nil=>simp[nY]
 | cons s xs ih=>simp only[Yz,nY,ih];omega
def XA.sum{w:ag}{g:Nat}{out:List St}(h:XA w g out):∀k,k<=out.length->KU w g k=nY (out.take k)
 | 0,_=>by simp[KU,nY]
 | k+1,hk=>by
  have hlt:k<out.length:=cq;rw[XM hlt,IZ];simp only[KU,h.sum k cq,nY];have:QZ w g k=out[k].n:=by unfold QZ;rw[(h k hlt).2.2]
  omega
def RowS.sum{w wr:ag}{ad:Q02}{g:Nat}{out:List St}(h:RowS w wr ad g out):KU wr g out.length=nY out:=by
 rcases h.at' with e|⟨e,h1,h2,h3,h4⟩
 ·rw[e];simp[KU,nY]
 rw[h3.sum _ (XK _),X8]
def Q0:Value->Int
 | .bool true=>1
 | _=>0
def E9(w:World)(g n:Nat)(m:Value):Nat:=(2*((n:Int)*n-KU w g n)+Q0 m).toNat
def KV{ts:Q0b}{w wr w2:ag}{ad:Q02}{g n:Nat}{oS out:List St}{mb:Bool}(hS:RowS w wr ad g oS)(hO:RowS w w2 ad g out)(h:Mid ts n oS n 0 mb out)(hl:oS.length=n):E9 w2 g n (.bool mb)<E9 wr g n (.bool true):=by
 have e1:=hS.sum;have e2:=hO.sum;have h3:=Ud n out fun s hs=>(h.done rfl).le s hs;have h2:=h.len;have h4:=h.grow;rw[hl]at e1;rw[h2]at e2 h3;unfold E9;rw[e1,e2];cases mb;case false=>simp only[Q0];omega
 have:=h4.2 rfl;simp only[Q0];omega
def Ue{w wr:ag}{v:Value}{out:List St}(hB:ae w wr)(h:bj w wr 212 3 v out.length<|jh out):∃ad cp g,v=.slice ad out.length cp/\RowS w wr ad g out:=by
 rcases h.2 with⟨rfl,h0⟩|⟨g,cp,cur,rfl,hbg,hg,hnc,-⟩
 ·exact⟨none,0,0,by rw[h0],hB,.inl<|X0.1 h0⟩
 obtain⟨ad,cp',e,h0⟩:=WW h;injection e with e1 e2 e3;refine⟨some<|am g,cp,g,rfl,hB,?_⟩;rcases h0 with h0|⟨g',e4,h1,h2,h3⟩
 ·exact .inl<|X0.1 h0
 rw[<-e1]at e4;injection e4 with e4;injection e4 with e4;subst e4;exact .inr ⟨rfl,h1,h2,h3,fun j=>by simp[World.frozen?,hg]⟩
def VS(ad:Q02)(cap n:Nat)(xs:List St)(key:Q01)(w:ag)(hn:xs.length=n)(hlen:n<=1048576)(hs:KI w ad xs)(i:Nat)(hat:iG key.1 key.2 xs 0=(i:Int)):
  Calls prog 219 #[.slice ad n cap,.string key.1,.string key.2] w (bh w<|.int .i64 (i:Int)):=by
 subst hn;rw[<-hat];exact QK ad cap xs key.1 key.2 w hlen hs
def AtD.set{w:ag}{b off g o:Nat}{d:Dp}{v:Value}(h:AtD w b off d)(hn:g≠b):AtD (w.setCell (ap g o) v) b off d:=⟨by rw[zl hn];exact h.1,by rw[zl hn];exact h.2.1,by rw[zl hn];exact h.2.2⟩
def Vn.set{w:ag}{lo g o:Nat}{ad:Q02}{xs:List Dp}{v:Value}(h:Vn w lo ad xs)(hg:g<lo):Vn (w.setCell (ap g o) v) lo ad xs:=by
 rcases h with h|⟨b,e,h1,h2,h3⟩
 ·exact .inl h
 exact .inr ⟨b,e,h1,by simpa using h2,fun i hi=>(h3 i hi).set cq⟩
def keepD{wr W w':ag}{g o1 o2:Nat}{x y:Value}(h:W.cell? (ap g o1)=some x/\W.cell? (ap g o2)=some y/\g<W.heap.size/\ae wr W)(hb:ae W w'):
  w'.cell? (ap g o1)=some x/\w'.cell? (ap g o2)=some y/\g<w'.heap.size/\ae wr w' :=
 ⟨aM hb h.2.2.1 h.1,aM hb h.2.2.1 h.2.1,XJ h.2.2.1 hb.size,h.2.2.2.trans<|hb.mono h.2.2.2.size⟩
def oZ.small{rs:Q06}{ad:Q02}{rows:Q08}(h:oZ rs ad rows)(hl:∀r∈rs,∀q∈r.rows,q.rows.length<=15/\∀e∈q.rows,fE q.rows.length e.e.kids):rows.length<=15/\∀e∈rows,fE rows.length e.e.kids:=by
 rcases h with rfl|⟨t,ht,q,hq,rfl,-⟩
 ·exact⟨ct,ct⟩
 exact hl t ht q hq
def Ch(ts:Q0b)(ty over rel:dw):(iL ts ty over rel).length<=(bn<|aH ts ty over).length:=Ki _ _ _
def KW(ts:Q0b)(typ:dw)(es:Q09)(A G:Nat)(hA:∀e∈es,e.allow.length<=A)(hG:∀over rel,(iL ts typ over rel).length<=G)(k:Nat):(aY ts typ es k).length<=k*(A+G+1):=by
 induction k with
 | zero=>simp[aY]
 | succ k ih =>
  simp only[aY,XT];have:(iN ts typ es k).length<=A+G+1:=by
   unfold iN;split
   ·simp
   rename_i e he;have h1:=hA e<|YR he;have h2:=EW ((dK es).getD k false) e.allow;have h3:(mh ts typ ((dK es).getD k false) e).length<=G+1:=by
    unfold mh;split
    ·simp
    split
    ·have:=hG e.over e.name;simp;omega
    simp
   rw[XT];omega
  have e:(k+1)*(A+G+1)=k*(A+G+1)+(A+G+1):=Nat.succ_mul _ _;omega
def DW(ts:Q0b)(typ:dw)(es:Q09)(k:Nat)(h:es.length<=k):iN ts typ es k=[]:=by
 unfold iN;rw[List.getElem?_eq_none h]
def KX(ts:Q0b)(typ:dw)(es:Q09)(B:Nat)(hB:∀k,k<=es.length->(aY ts typ es k).length<=B)(k:Nat):(aY ts typ es k).length<=B:=by
 induction k with
 | zero=>exact hB 0<|XP _
 | succ k ih =>
  by_cases h:k+1<=es.length
  ·exact hB _ h
  simp only[aY];rw[DW _ _ _ _ cq,YB];exact ih
def I1(rs:Q07)(n:dw)(es:Q09)(h:kJ (fD rs) n=some es):∃q∈rs,es=au q.rows:=by
 induction rs with
 | nil=>simp[fD,kJ]at h
 | cons r rs ih =>
  simp only[fD,YT,kJ]at h;split at h
  ·injection h with h;exact⟨r,ct,h.symm⟩
  obtain⟨q,hq,e⟩:=ih h;exact⟨q,by simp[hq],e⟩
def KY(ts:Q06)(ty n:dw)(es:Q09)(h:fI (ai ts) ty n=some es):∃t∈ts,∃q∈t.rows,es=au q.rows:=by
 induction ts with
 | nil=>simp[ai,fI]at h
 | cons t ts ih =>
  simp only[ai,YT,fI]at h;split at h
  ·rcases Option.or_eq_some_iff.1 h with h|⟨-,h⟩
   ·obtain⟨q,hq,e⟩:=I1 _ _ _ h;exact⟨t,ct,q,hq,e⟩
   obtain⟨t',ht,q,hq,e⟩:=ih h;exact⟨t',by simp[ht],q,hq,e⟩
  obtain⟨t',ht,q,hq,e⟩:=ih h;exact⟨t',by simp[ht],q,hq,e⟩
def zB(rs:Q06)(hl:∀r∈rs,r.light)(typ over rel:dw):(iL (ai rs) typ over rel).length<=1048576:=by
 refine XR (Ch _ _ _ _) ?_;unfold aH;cases h:fI (ai rs) typ over with
 | none=>simp[bn]
 | some es =>
  obtain⟨t,ht,q,hq,rfl⟩:=KY _ _ _ _ h;exact Ba q.rows ((hl t ht).2 q hq).2
def Ci(rs:Q06)(hl:∀r∈rs,r.light)(typ:dw)(rows:Q08)(hle:rows.length<=15)(hlE:∀q∈rows,q.e.light)(k:Nat):(aY (ai rs) typ (au rows) k).length<=100000000:=by
 refine KX _ _ _ _ (fun k hk=>?_) k;refine XR (KW _ _ _ 1048576 1048576 (fun e he=>?_) (zB rs hl typ) k) ?_
 ·obtain⟨q,hq,rfl⟩:=XW.1 he;exact(hlE q hq).1
 rw[aX]at hk;omega
def pz(w:ag):(zeroValue 37).run prog w=.ok (.slice none 0 0) w:=cw
def AP(b n:Nat)(M:ByteArray×ByteArray->Option Value)(t r:dw)(w:ag)(ht:t.size<=maxLen)(hr:r.size<=maxLen)(hV:aL eD prog 146 w b n M):
  Calls prog 94 #[.map (some b),.string t,.string r] w (bh w<|.bool (M (t,r)).isSome):=by
 obtain⟨kl,hkl⟩:=j5 (t,r) ht hr;have HV:O (aL eD prog 146 w b n M):=hV;have ZY:O (keyOf prog 146 (eD (t,r))=some kl):=hkl;clear hkl hV;go_enter func94,ntmps94;go_wp2_with(first|(at_lookup;refine dm _ rfl _ _ 102 rfl 146 37 ji underlying102 (pz _) b n M rfl HV (t,r) kl rfl ZY ?_)|go_in);go_ret;exact⟨rfl,rfl⟩
def Fa(a:Al)(w:ag):
  Calls prog 240 #[.agg #[.string a.t,.string a.s]] w (a8 w<|.bool<|!a.s.toList.isEmpty):=by
 cases h:a.s.toList.isEmpty;case true=>
  go_enter func240,ntmps240;go_wp2;go_ret;exact⟨rfl,(XL _ _).alloc (XK _) _⟩
 go_enter func240,ntmps240;go_wp2;go_ret;exact⟨rfl,(XL _ _).alloc (XK _) _⟩
def zC(xs:Q0a)(k:Nat)(h:k<xs.length):(xs.drop k).any (fun a=>!a.s.toList.isEmpty)=((!xs[k].s.toList.isEmpty) || (xs.drop<|k+1).any (fun a=>!a.s.toList.isEmpty)):=by
 rw[Yi h];rfl
def DX(ad:Q02)(cap:Nat)(xs:Q0a)(w:ag)(hlen:a7 xs)(hs:mJ w ad xs):
  Calls prog 264 #[.slice ad xs.length cap,.func (Fn.func 240) #[] #[]] w fun e w'=>(∃r:Int,e=.returned (.int .i64 r)/\decide (0<=r)=xs.any (fun a=>!a.s.toList.isEmpty))/\ae w w':=by
 have HS:=aK hs;clear hs;go_enter func264,ntmps264;go_wp2_with fail;go_loopw[8] (fun i wr=>∃k:Nat,k<=xs.length/\i=.int .i64 k/\O ((xs.drop k).any (fun a=>!a.s.toList.isEmpty)=xs.any (fun a=>!a.s.toList.isEmpty))/\O (ae w wr)) (fun i _=>xs.length-(intOf i).toNat);case atStart=>exact⟨0,XP _,rfl,rfl,XL _ _⟩
 obtain⟨k,hk,rfl,HP,HB⟩:=hrel;by_cases hlt:k<xs.length
 ·rcases HS.out.below HB.out with rfl|⟨b,off,rfl,hb,hr⟩
  ·simp at hlt
  obtain⟨t0,t1⟩:=hr k hlt;have hk1:=bG k;have hk2:(k:Int)<(xs.length:Int):=cq;clear hr;cases he:xs[k].s.toList.isEmpty;case false=>
   have HN:O (xs.any (fun a=>!a.s.toList.isEmpty)=true):=by show _=_;rw[<-HP,zC _ _ hlt,he];rfl
   go_wp2_with(go_at_call 240;refine(Fa xs[k] _).mono ?_;rintro e w' ⟨he2,hbx⟩;rw[he]at he2;subst he2);go_ret;exact⟨⟨k,rfl,by rw[HN];simp⟩,HB.trans<|hbx.mono HB.size⟩
  have Zc:O ((xs.drop<|k+1).any (fun a=>!a.s.toList.isEmpty)=xs.any (fun a=>!a.s.toList.isEmpty)):=by show _=_;rw[<-HP,zC _ _ hlt,he];rfl
  go_wp2_with(go_at_call 240;refine(Fa xs[k] _).mono ?_;rintro e w' ⟨he2,hbx⟩;rw[he]at he2;subst he2);go_roundw;case rel=>exact⟨k+1,cq,cx,Zc,HB.trans<|hbx.mono HB.size⟩
  simp[intOf]<;>omega
 have HN:O (xs.any (fun a=>!a.s.toList.isEmpty)=false):=by show _=_;rw[<-HP,Ya cq];rfl
 go_wp2;go_ret;exact⟨⟨-1,rfl,by rw[HN];simp⟩,HB⟩
def yH(ad:Q02)(cap:Nat)(xs:Q0a)(w:ag)(hlen:a7 xs)(hs:mJ w ad xs):
  Calls prog 193 #[.slice ad xs.length cap,.func (Fn.func 240) #[] #[]] w (a8 w<|.bool<|xs.any fun a=>!a.s.toList.isEmpty):=by
 go_enter func193,ntmps193;go_wp2_with fail;refine(DX ad cap xs _ hlen hs).mono ?_;rintro e w' ⟨⟨r,rfl,hr⟩,hbx⟩;have HR:O (decide (0<=r)=xs.any (fun a=>!a.s.toList.isEmpty)):=hr;clear hr hs;go_wp2;go_ret;exact⟨by rw[<-HR];rfl,hbx⟩
def Q3(xs:Q0a):(!xs.any fun a=>!a.s.toList.isEmpty)=xs.all fun a=>a.s.toList.isEmpty:=by
 induction xs with
 | nil=>rfl
 | cons a xs ih=>simp only[YP,List.all_cons,Bool.not_or,Bool.not_not,ih]
set_option maxRecDepth 100000 in
def wZ(ad:Q02)(cap:Nat)(rs:Q08)(w:ag)(hlen:a7 rs)(hs:iE w ad rs)(hl:∀r∈rs,r.e.light):
  Calls prog 172 #[.slice ad rs.length cap] w (a8 w<|.bool<|bQ<|au rs):=by
 by_cases h1:rs.length=1
 ·obtain⟨r,rfl⟩:∃r,rs=[r]:=List.length_eq_one_iff.1 h1;rcases hs with h|⟨b,off,rfl,hb,hr,hok⟩
  ·cases h
  obtain⟨t0,t1,t2,t3,t4⟩:=hr 0 ct;simp only[Nat.zero_mul,Nat.add_zero,List.getElem_cons_zero]at t0 t1 t2 t3 t4;have HOK:O (r.ok w):=hok r ct;obtain⟨lg,-⟩:=hl r ct;clear hr hok h1;simp only[Yh,YO,Yg];by_cases hq:r.e.kind=1
  ·have HD:O (bQ (au [r])=!r.e.allow.any fun a=>!a.s.toList.isEmpty):=by show _=_;rw[Q3];simp[bQ,au,hq]
   have hqb:(r.e.kind==1)=true:=by simpa using hq
   go_enter func172,ntmps172;go_wp2_with(go_at_call 193;refine(yH _ _ r.e.allow _ lg<|HOK.1.below<|(XL _ _)).mono ?_;rintro e w' ⟨rfl,hbx⟩);go_ret;exact⟨by rw[HD];rfl,hbx⟩
  have HD:O (bQ (au [r])=false):=by show _=_;simp[bQ,au,hq]
  have hqb:(r.e.kind==1)=false:=by simpa using hq
  go_enter func172,ntmps172;go_wp2;go_ret;exact⟨by rw[HD];rfl,XL _ _⟩
 have HD:O (bQ (au rs)=false):=by
  show _=_;rcases rs with _|⟨r,_|⟨r2,rs⟩⟩
  ·rfl
  ·simp at h1
  rfl
 have h2:((rs.length:Int)==1)=false:=by
  have:¬((rs.length:Int)=1):=cq;simpa using this
 clear hs;go_enter func172,ntmps172;go_wp2;go_ret;exact⟨by rw[HD];rfl,XL _ _⟩
def ic(ts:Q0b)(ty over rel:ByteArray):List ByteArray:=if bQ (aH ts ty over) then iL ts ty over rel else []
def Oo:(prog.info? 9).map (fun i=>(i.zero,i.size,i.bytes))=some (some<|.string ⟨#[]⟩,1,16):=cw
def KZ(r:ER)(h:bQ (au [r])=true):bn (au [r])=r.e.allow/\r.e.kind=1:=by
 simp only[au,YT,List.map_nil,bQ,XN,XU]at h;exact⟨by simp[au,bn,h.1],h.1⟩
def K7{rows:Q08}(h:bQ (au rows)=true):∃r,rows=[r]:=by
 rcases rows with _|⟨r,_|⟨r2,rs⟩⟩
 ·simp[au,bQ]at h
 ·exact⟨r,rfl⟩
 simp[au,bQ]at h
set_option maxRecDepth 100000 in
def zD(b n:Nat)(rs:Q06)(ad:Q02)(M:ByteArray×ByteArray->Option Value)(typ:dw)(x:ER)(w:ag)(hV:aL eD prog 146 w b n M)(hT:Tab rs M)(hs:kI w ad rs)(hl:∀r∈rs,r.light)(hf:∀r∈rs,r.fits)(ht:typ.size<=maxLen)(ho:x.e.over.size<=maxLen)(hn:x.e.name.size<=maxLen):
  Calls prog 93 #[.map (some b),.string typ,x.val] w fun e w'=>(∃(Y8:Q02) (cap':Nat),e=.returned (.slice Y8 (ic (ai rs) typ x.e.over x.e.name).length cap')/\VC w' Y8 (ic (ai rs) typ x.e.over x.e.name)/\∀p,Y8=some p->w.heap.size<=p.block)/\ae w w':=by
 have HV:O (aL eD prog 146 w b n M):=hV;have HT:=aK hT;have HS:=aK hs;have HL:=aK hl;have Zd:=aK hf;obtain⟨kl,hkl⟩:=j5 (typ,x.e.over) ht ho;have ZY:O (keyOf prog 146 (eD (typ,x.e.over))=some kl):=hkl;clear hkl hV hT hs hl hf;obtain⟨i0,hi,hz0,hz1,hz2⟩:=info_parts Oo;obtain⟨W0,hW0⟩:=eQx<|w.alloc<|.cells (cU x) 43;have hal:ae w W0:=by rw[hW0];exact(XL _ _).alloc (XK _) _
 have HB0:=aK hal;have HV0:=aK<|HV.below hal;have c3:W0.cell? (a6 w 3)=some (.string x.e.name):=by rw[hW0];simp
 have hg0:w.heap.size<W0.heap.size:=by rw[hW0];simp
 -- what lies in the table
 obtain⟨rows,YY,capE,HM,HE,HF,HFL⟩:∃(rows:Q08) (YY:Q02) (capE:Nat),O ((M (typ,x.e.over)).getD (.slice none 0 0)=.slice YY rows.length capE)/\O (au rows=aH (ai rs) typ x.e.over)/\O (oZ rs YY rows)/\O (∀q∈rows,q.e.fits):=by
  cases e:M (typ,x.e.over) with
  | none=>exact⟨[],none,0,rfl,by show _=_;unfold aH;rw[HT.no _ e];rfl,.inl rfl,by show ∀_,_;simp⟩
  | some v =>
   obtain⟨t,htm,q,hq,-,rfl,e1,-⟩:=HT.yes _ v e;exact⟨q.rows,q.ad,q.cap,rfl,by show _=_;unfold aH;rw[e1];rfl,.inr ⟨t,htm,q,hq,rfl,rfl⟩,((Zd t htm).2.2 q hq).2.2⟩
 have HSE:O (iE W0 YY rows):=HF.sl<|HS.below hal;have ZH:=HF.light HL;have HLE1:a7 rows:=ZH.1;have HLE2:O (∀q∈rows,q.e.light):=ZH.2;clear ZH hal;go_enter func93,ntmps93;unfold ER.val;go_wp2_with(at_lookup;rw[<-hW0];refine jZ _ rfl _ _ 102 rfl 146 37 ji underlying102 (pz _) b n M rfl HV0 (typ,x.e.over) kl rfl ZY ?_;rw[HM];clear hW0);refine(wZ YY capE rows _ HLE1 HSE HLE2).mono ?_;rintro e w1 ⟨rfl,hb1⟩;have HB1:=jr HB0 hb1;have HNM:O (ac w1 w.heap.size 3 (.string x.e.name)/\w.heap.size<w1.heap.size):=⟨aM hb1 hg0 c3,XJ hg0 hb1.size⟩;clear hb1 c3 hg0;cases hd:bQ (au rows);case false=>
  have HG:O (ic (ai rs) typ x.e.over x.e.name=[]):=by show _=_;unfold ic;rw[<-HE,hd];rfl
  go_wp2;go_ret;refine⟨⟨none,0,by rw[HG];rfl,by rw[HG];exact .inl rfl,fun p hp=>by cases hp⟩,HB1⟩
 obtain⟨r,rfl⟩:=K7 hd;have HG:O (ic (ai rs) typ x.e.over x.e.name=gl (ai rs) x.e.name r.e.allow):=by
  show _=_;unfold ic iL;rw[<-HE,hd,if_pos rfl,(KZ r hd).1]
 rcases HSE.out with h|⟨bE,offE,rfl,hbE,hrE,hokE⟩
 ·cases h
 have HSW:O (iE w1 (some<|ap bE offE) [r]):=HF.sl<|HS.below HB1;rcases HSW.out with h|⟨bE',offE',heE,hbE1,hrE1,hokE1⟩
 ·cases h
 injection heE with heE;injection heE with heE1 heE2;subst heE1;subst heE2;obtain⟨s0,s1,s2,s3,s4⟩:=hrE1 0 ct;simp only[Nat.zero_mul,Nat.add_zero,List.getElem_cons_zero]at s0 s1 s2 s3 s4;have HOKR:O (r.ok w):=by
  have h1:=HF.sl HS;exact h1.mem ct
 have lgA:a7 r.e.allow:=(HLE2 r ct).1;have HFA:O (∀a∈r.e.allow,a.fits):=(HFL r ct).1;have hone:([r]:Q08).length=1:=rfl;rw[hone];clear hrE hokE hrE1 hokE1 HE HM hd hbE;go_wp2_with fail;go_loopw[8,25] (fun v i wr=>∃k:Nat,k<=r.e.allow.length/\i=.int .i64 k/\O (bj w wr 9 1 v (gl (ai rs) x.e.name<|r.e.allow.take k).length<|rC<|gl (ai rs) x.e.name<|r.e.allow.take k)/\O (ae w wr)/\O (wr.cell? (a6 w 3)=some (.string x.e.name)/\w.heap.size<wr.heap.size/\v.ownBlock≠some w.heap.size)) (fun _ i _=>r.e.allow.length-(intOf i).toNat);case atStart=>exact⟨0,XP _,rfl,World.ownsRow_nil _ _ _ _,HB1,HNM.1,HNM.2,by simp[Value.ownBlock]⟩
 clear HB1 HNM s0 s1 s2 s3 s4;obtain⟨k,hk,rfl,HOW,HB,HC⟩:=hrel;by_cases hlt:k<r.e.allow.length
 ·rcases (HOKR.out.1).below HB.out with hnil|⟨ba,offa,had,hba,hra⟩
  ·rw[hnil]at hlt;simp at hlt
  obtain⟨t0,t1⟩:=hra k hlt;have hk1:=bG k;have hk2:(k:Int)<(r.e.allow.length:Int):=cq;have zA:=HFA _<|XI hlt;have z1:r.e.allow[k].t.size<=maxLen:=zA.1;obtain⟨hc3,hcl,hco⟩:=HC.out;obtain⟨W1,hW1⟩:=eQx<|wr.alloc<|.cells #[.string r.e.allow[k].t,.string r.e.allow[k].s] 216;have hal:ae wr W1:=by rw[hW1];exact(XL _ _).alloc (XK _) _
  have Y9:=jr HB hal;have HVW:=aK<|HV.below Y9;have HOW1:O (bj w W1 9 1 u8 (gl (ai rs) x.e.name<|r.e.allow.take k).length<|rC<|gl (ai rs) x.e.name<|r.e.allow.take k):=own_below HOW hal;have g0:W1.cell? (aE wr)=some (.string r.e.allow[k].t):=by rw[hW1];simp
  have g3:=aM hal hcl hc3;have hgl1:wr.heap.size<W1.heap.size:=by rw[hW1];simp
  have hgl:=Ki (ai rs) x.e.name<|r.e.allow.take k;rw[Yc]at hgl;have HI:=HT.some_iff (r.e.allow[k].t,x.e.name);have hwsz:cY w W1:=Y9.size;rw[had];clear hra hal HC HOW;go_wp2_with fail;rw[<-hW1];refine(AP b n M r.e.allow[k].t x.e.name _ z1 hn HVW).mono ?_;rintro e w' ⟨rfl,hw'⟩;rw[hw'];clear hw' w' hW1 t0 t1 hc3;cases hz:(M (r.e.allow[k].t,x.e.name)).isSome;case false=>
   have HE:O (gl (ai rs) x.e.name (r.e.allow.take<|k+1)=gl (ai rs) x.e.name (r.e.allow.take k)):=by
    refine Vi _ _ _ _ hlt ?_;rw[hz]at HI;simpa using HI.symm
   clear HI;go_wp2;go_roundw;case rel=>exact⟨k+1,cq,cx,by rw[HE];exact HOW1,Y9,g3,cq,hco⟩
   simp[intOf]<;>omega
  have HX:O (gl (ai rs) x.e.name (r.e.allow.take<|k+1)=gl (ai rs) x.e.name (r.e.allow.take k)++[r.e.allow[k].t]):=by
   refine Qd _ _ _ _ hlt ?_;rw[hz]at HI;simpa using HI.symm
  clear HI;go_wp2_with(at_builtin;refine wpList_append_own_at _ rfl _ _ 143 rfl w.heap.size 9 i0 (.string ⟨#[]⟩) 1 16 underlying143 hi hz0 hz1 hz2 rfl cv _ _ _ rfl (HOW1.alloc _) ⟨W1.heap.size,0,none⟩ 1 1 [.string r.e.allow[k].t] rfl rfl (cell_one_new _ _ _) (by intro u hu;simp at hu;subst hu;rfl) cy cq (by simp;omega) ?_);intro v' w3 hown3 hgrow _ hloc;have hb3:O (ae w w3):=(Y9.alloc Y9.size _).grown hgrow (by simp;omega) (fun i hi=>(HOW1.lt i hi).1);have Zq:O (bj w w3 9 1 v' (gl (ai rs) x.e.name<|r.e.allow.take<|k+1).length<|rC<|gl (ai rs) x.e.name<|r.e.allow.take<|k+1):=by
   show World.ownsRow _ _ _ _ _ _ _;rw[HX];simpa[rC] using hown3
  have HC3:O (w3.cell? (a6 w 3)=some (.string x.e.name)/\w.heap.size<w3.heap.size/\v'.ownBlock≠some w.heap.size):=by
   refine⟨?_,?_,?_⟩
   ·rw[hgrow.cell_far _ (by simp;omega) (Ne.symm hco)];exact aM ((XL _ _).alloc (XK _) _) cq g3
   ·have:=hgrow.size;simp at this;omega
   rcases hloc with e|e
   ·rw[e];exact hco
   rw[e];simp;omega
  clear hown3 hgrow hloc HOW1 g0 g3;go_wp2;go_roundw;case rel=>exact⟨k+1,cq,cx,Zq,hb3,HC3⟩
  simp[intOf]<;>omega
 obtain rfl:k=r.e.allow.length:=cq;have hown:=HOW.out;rw[X8]at hown;obtain⟨Y8,cp,rfl,hS',hN'⟩:=Qe hown;have HS2:=aK hS';have HN2:O (∀p,Y8=some p->w.heap.size<=p.block):=hN';clear hown HOW hS' hN' HC;go_wp2;go_ret;refine⟨⟨Y8,cp,by rw[HG];rfl,by rw[HG];exact HS2,HN2⟩,HB⟩
def oN(a:Al)(e:Ex):Bool:=decide (e.kind=1)&&dR e.allow e.allow.length a
def zF(ts:Q0b)(ty rel:ByteArray)(a:Al):Bool:=(aH ts ty rel).any<|oN a
def fit_drop(a:Al)(rows:Q08)(k:Nat)(h:k<rows.length):(au<|rows.drop k).any (oN a)=(oN a rows[k].e || (au<|rows.drop<|k+1).any (oN a)):=by
 rw[il _ _ h];rfl
set_option maxRecDepth 100000 in
def Q4(b n:Nat)(rs:Q06)(ad:Q02)(M:ByteArray×ByteArray->Option Value)(oa ob r c d s:dw)(w:ag)(hV:aL eD prog 146 w b n M)(hT:Tab rs M)(hs:kI w ad rs)(hl:∀r∈rs,r.light)(ho:oa.size<=maxLen)(hr:r.size<=maxLen):
  Calls prog 64 #[.map (some b),.agg #[.string oa,.string ob,.string r,.string c,.string d,.string s]] w fun e w'=>e=.returned (.bool<|zF (ai rs) oa r ⟨c,s⟩)/\ae w w':=by
 have HT:=aK hT;have HS:=aK hs;have HL:=aK hl;obtain⟨kl,hkl⟩:=j5 (oa,r) ho hr;have ZY:O (keyOf prog 146 (eD (oa,r))=some kl):=hkl;obtain⟨W0,hW0⟩:=eQx<|(w.alloc<|.cells #[.string oa,.string ob,.string r,.string c,.string d,.string s] 29).alloc<|.cells #[.string c,.string s] 216;have hal:ae w W0:=by
  rw[hW0]
  repeat(first|exact XL _ _|refine Below.alloc ?_ (by first|(simp;done)|(simp;omega)) _)
 have HB0:=aK hal;have HV0:=aK<|hV.below hal;have HC0:O (W0.cell? ⟨w.heap.size+1,0,none⟩=some (.string c)/\W0.cell? ⟨w.heap.size+1,1,none⟩=some (.string s)/\w.heap.size+1<W0.heap.size):=⟨by rw[hW0];simp,by rw[hW0];simp,by rw[hW0];simp⟩;obtain⟨rows,YY,capE,HM,HE,HF⟩:∃(rows:Q08) (YY:Q02) (capE:Nat),O ((M (oa,r)).getD (.slice none 0 0)=.slice YY rows.length capE)/\O (au rows=aH (ai rs) oa r)/\O (oZ rs YY rows):=by
  cases e:M (oa,r) with
  | none=>exact⟨[],none,0,rfl,by show _=_;unfold aH;rw[HT.no _ e];rfl,.inl rfl⟩
  | some v =>
   obtain⟨t,htm,q,hq,-,rfl,e1,-⟩:=HT.yes _ v e;exact⟨q.rows,q.ad,q.cap,rfl,by show _=_;unfold aH;rw[e1];rfl,.inr ⟨t,htm,q,hq,rfl,rfl⟩⟩
 have ZH:=HF.light HL;have HLE1:rows.length<=1048576:=ZH.1;have HLE2:O (∀q∈rows,q.e.light):=ZH.2;have HSE:O (iE w YY rows):=HF.sl HS;clear hV hT hs hl hkl hal ZH;go_enter func64,ntmps64;go_wp2_with(at_lookup;rw[<-hW0];refine jZ _ rfl _ _ 102 rfl 146 37 ji underlying102 (pz _) b n M rfl HV0 (oa,r) kl rfl ZY ?_;rw[HM];clear hW0);go_loopw[23] (fun i wr=>∃k:Nat,k<=rows.length/\i=.int .i64 k/\O ((au<|rows.drop k).any (oN ⟨c,s⟩)=(au rows).any (oN ⟨c,s⟩))/\O (ae w wr)/\O (wr.cell? ⟨w.heap.size+1,0,none⟩=some (.string c)/\wr.cell? ⟨w.heap.size+1,1,none⟩=some (.string s)/\w.heap.size+1<wr.heap.size)) (fun i _=>rows.length-(intOf i).toNat);case atStart=>exact⟨0,XP _,rfl,rfl,HB0,HC0⟩
 clear HB0 HC0 HV0;obtain⟨k,hk,rfl,HP,HB,HC⟩:=hrel;by_cases hlt:k<rows.length
 ·rcases HSE.out.below HB.out with hnil|⟨bE,offE,hadE,hbE,hrE,hok⟩
  ·rw[hnil]at hlt;simp at hlt
  obtain⟨t0,t1,t2,t3,t4⟩:=hrE k hlt;have HOK:O (rows[k].ok wr):=hok _<|XI hlt;have lgA:rows[k].e.allow.length<=1048576:=(HLE2 _<|XI hlt).1;have hk1:=bG k;have hk2:(k:Int)<(rows.length:Int):=cq;obtain⟨x0,x1,x2⟩:=HC.out;have HD:O ((au rows).any (oN ⟨c,s⟩)=(oN ⟨c,s⟩ rows[k].e || (au<|rows.drop<|k+1).any (oN ⟨c,s⟩))):=by show _=_;rw[<-HP];exact fit_drop _ _ _ hlt
  obtain⟨W1,hW1⟩:=eQx<|wr.alloc<|.cells #[.int .i64 rows[k].e.kind,.slice rows[k].adA rows[k].e.allow.length rows[k].capA,.string rows[k].e.over,.string rows[k].e.name,.slice rows[k].adK rows[k].e.kids.length rows[k].capK] 43;have hal:ae wr W1:=by rw[hW1];exact(XL _ _).alloc (XK _) _
  have HB1:=jr HB hal;have HC1:O (W1.cell? ⟨w.heap.size+1,0,none⟩=some (.string c)/\W1.cell? ⟨w.heap.size+1,1,none⟩=some (.string s)/\w.heap.size+1<W1.heap.size):=⟨aM hal x2 x0,aM hal x2 x1,XJ x2 hal.size⟩;have HA1:O (mJ W1 rows[k].adA rows[k].e.allow):=HOK.1.below hal;rw[hadE];clear hrE hok hal HC;by_cases h1:rows[k].e.kind=1
  ·have hq1:(rows[k].e.kind==1)=true:=by simpa using h1
   have HFE:O (oN ⟨c,s⟩ rows[k].e=dR rows[k].e.allow rows[k].e.allow.length ⟨c,s⟩):=by show _=_;unfold oN;simp[h1]
   replace h1:O (rows[k].e.kind=1):=h1;go_wp2_with fail;rw[<-hW1];refine(wJ rows[k].adA rows[k].e.allow.length rows[k].capA rows[k].e.allow ⟨c,s⟩ _ (XK _) lgA HA1).mono ?_;rintro e w2 ⟨rfl,hb2⟩;have HB2:=jr HB1 hb2;have ZM:O (w2.cell? ⟨w.heap.size+1,0,none⟩=some (.string c)/\w2.cell? ⟨w.heap.size+1,1,none⟩=some (.string s)/\w.heap.size+1<w2.heap.size):=⟨aM hb2 HC1.2.2 HC1.1,aM hb2 HC1.2.2 HC1.2.1,XJ HC1.2.2 hb2.size⟩;clear hb2 hW1 t0 t1 t2 t3 t4 x0 x1;cases hz:dR rows[k].e.allow rows[k].e.allow.length ⟨c,s⟩;case true=>
    have HN:O (zF (ai rs) oa r ⟨c,s⟩=true):=by show _=_;unfold zF;rw[<-HE,HD,HFE,hz];rfl
    go_wp2;go_ret;exact⟨by rw[HN];rfl,HB2⟩
   have Zc:O ((au<|rows.drop<|k+1).any (oN ⟨c,s⟩)=(au rows).any (oN ⟨c,s⟩)):=by show _=_;rw[HD,HFE,hz];rfl
   go_wp2;go_roundw;case rel=>exact⟨k+1,cq,cx,Zc,HB2,ZM⟩
   simp[intOf]<;>omega
  have hq1:(rows[k].e.kind==1)=false:=by simpa using h1
  have Zc:O ((au<|rows.drop<|k+1).any (oN ⟨c,s⟩)=(au rows).any (oN ⟨c,s⟩)):=by show _=_;rw[HD];simp[oN,h1]
  have Zv:O (ae w<|wr.alloc<|.cells #[.int .i64 rows[k].e.kind,.slice rows[k].adA rows[k].e.allow.length rows[k].capA,.string rows[k].e.over,.string rows[k].e.name,.slice rows[k].adK rows[k].e.kids.length rows[k].capK] 43):=by rw[<-hW1];exact HB1
  have HCX:O ((wr.alloc<|.cells #[.int .i64 rows[k].e.kind,.slice rows[k].adA rows[k].e.allow.length rows[k].capA,.string rows[k].e.over,.string rows[k].e.name,.slice rows[k].adK rows[k].e.kids.length rows[k].capK] 43).cell? ⟨w.heap.size+1,0,none⟩=some (.string c)/\(wr.alloc<|.cells #[.int .i64 rows[k].e.kind,.slice rows[k].adA rows[k].e.allow.length rows[k].capA,.string rows[k].e.over,.string rows[k].e.name,.slice rows[k].adK rows[k].e.kids.length rows[k].capK] 43).cell? ⟨w.heap.size+1,1,none⟩=some (.string s)/\w.heap.size+1<(wr.alloc<|.cells #[.int .i64 rows[k].e.kind,.slice rows[k].adA rows[k].e.allow.length rows[k].capA,.string rows[k].e.over,.string rows[k].e.name,.slice rows[k].adK rows[k].e.kids.length rows[k].capK] 43).heap.size):=by rw[<-hW1];exact HC1
  clear hW1;go_wp2;go_roundw;case rel=>exact⟨k+1,cq,cx,Zc,Zv,HCX⟩
  simp[intOf]<;>omega
 have HN:O (zF (ai rs) oa r ⟨c,s⟩=false):=by show _=_;unfold zF;rw[<-HE,<-HP,Ya cq];rfl
 go_wp2;go_ret;exact⟨by rw[HN];rfl,HB⟩
set_option linter.unusedVariables false
set_option maxRecDepth 100000
def I4{x y:Al}:kN x y=true↔x=y:=by
 unfold kN;simp only[XN,beq_iff_eq];constructor
 ·rintro⟨h0,h1⟩;obtain⟨xa,xb⟩:=x;obtain⟨ya,yb⟩:=y;simp only at h0 h1;rw[IP h0,IP h1]
 rintro rfl;simp
def Fb(x y:Al):kN x y=kN y x:=by
 rw[X9,I4,I4];exact⟨Eq.symm,Eq.symm⟩
def Q5(x y:Al){v:Bool}(h:kN x y=v)(w:ag):
  (binOp .eql 27 (.agg #[.string x.t,.string x.s])<|.agg #[.string y.t,.string y.s]).run prog w=.ok (.bool v) w:=by
 subst h;go_simp;unfold kN
 (repeat' split)<;>simp_all
def pE(xs:Q0a)(o:Al):Bool:=xs.any fun x=>kN x o
def Oq{xs:Q0a}{o:Al}{k:Nat}(h:k<xs.length):pE (xs.take<|k+1) o=(pE (xs.take k) o || kN xs[k] o):=by
 rw[XM h];unfold pE;rw[List.any_append];simp only[YP,List.any_nil,Bool.or_false]
def Q6{xs:Q0a}{o:Al}{k:Nat}(h:k<xs.length)(he:kN xs[k] o=true):pE xs o=true:=Yq.2 ⟨xs[k],XI h,he⟩
def K8(ad:Q02)(cap:Nat)(ts:Q0a)(t:Al)(w:ag)(hlen:a7 ts)(hs:mJ w ad ts):
  Calls prog 308 #[.slice ad ts.length cap,.agg #[.string t.t,.string t.s]] w fun e w'=>(∃r:Int,e=.returned (.int .i64 r)/\decide (0<=r)=pE ts t)/\ae w w':=by
 obtain⟨W,hW⟩:=eQx<|w.alloc<|.cells #[.string t.t,.string t.s] 27;have HB0:O (ae w W):=by show Below _ _ _;rw[hW];exact(XL w.heap.size w).alloc (XK _) _
 have hz:w.heap.size<W.heap.size:=by rw[hW];simp
 have b0:W.cell? (aE w)=some (.string t.t):=by rw[hW];simp
 have b1:W.cell? (a6 w 1)=some (.string t.s):=by rw[hW];simp
 have HS:=aK<|hs.below HB0;clear hs;go_enter func308,ntmps308;go_wp2_with fail;rw[<-hW];clear hW;go_loopw[8] (fun i wr=>∃k:Nat,k<=ts.length/\i=.int .i64 k/\O (pE (ts.take k) t=false)/\ae W wr) (fun i _=>ts.length-(intOf i).toNat);case atStart=>exact⟨0,XP _,rfl,rfl,XL _ _⟩
 obtain⟨k,hk,rfl,HP,hB⟩:=hrel;have a0:=az hB hz b0;have a1:=az hB hz b1;by_cases hlt:k<ts.length
 ·rcases HS.out.below hB with hnil|⟨b,off,rfl,hb,hr⟩
  ·rw[hnil]at hlt;simp at hlt
  obtain⟨t0,t1⟩:=hr k hlt;have hk1:=bG k;have hk2:(k:Int)<(ts.length:Int):=cq;clear hr;cases hq:kN t ts[k];case true=>
   have HE:=Q5 t ts[k] hq;have HN:O (pE ts t=true):=Q6 hlt (by rw[Fb];exact hq);go_wp2_with fail;go_quiet (fail);go_wp2;go_ret;exact⟨⟨_,rfl,by rw[HN];simp⟩,HB0.trans<|below_drewN (hB.mono HB0.size) _⟩
  have HE:=Q5 t ts[k] hq;have Zc:O (pE (ts.take<|k+1) t=false):=by show _=_;rw[Oq hlt,HP,Fb,hq];rfl
  go_wp2_with fail;go_quiet (fail);go_wp2;go_roundw;case rel=>exact⟨k+1,cq,cx,Zc,below_drewN hB _⟩
  simp[intOf]<;>omega
 obtain rfl:k=ts.length:=cq;have HN:O (pE ts t=false):=by have:=HP.out;rw[X8]at this;exact this
 go_wp2;go_ret;exact⟨⟨-1,rfl,by rw[HN];rfl⟩,HB0.trans<|hB.mono HB0.size⟩
def DY(ad:Q02)(cap:Nat)(ts:Q0a)(t:Al)(w:ag)(hlen:a7 ts)(hs:mJ w ad ts):
  Calls prog 268 #[.slice ad ts.length cap,.agg #[.string t.t,.string t.s]] w (a8 w<|.bool<|pE ts t):=by
 have HB0:O (ae w<|w.alloc<|.cells #[.string t.t,.string t.s] 27):=(XL w.heap.size w).alloc (XK _) _;have HS:=aJ hs;clear hs;go_enter func268,ntmps268;go_wp2_with fail;refine(K8 ad cap ts t _ hlen<|HS.below HB0).mono ?_;rintro e w1 ⟨⟨r,rfl,hr⟩,hb1⟩;have HR:=aJ hr;have HB1:=aJ<|HB0.trans<|hb1.mono HB0.size;clear hr hb1;go_wp2;go_ret;exact⟨aj HR,HB1⟩
def fM(xs:Q0a)(o:Al):List Al:=if pE xs o then xs else xs++[o]
def Cj:∃i,prog.info? 27=some i/\i.zero=some (.agg aw)/\i.size=2/\i.bytes=32 :=
 info_parts (P:=prog) (e:=27) (z:=.agg aw) (size:=2) (bytes:=32) cw
def nI{w:ag}{base:Nat}{v:Value}{xs:Q0a}(h:w.ownsRow base 27 2 v xs.length<|pairs xs):∃ad cap,v=.slice ad xs.length cap/\mJ w ad xs:=by
 rcases h.2 with⟨rfl,h0⟩|⟨g,cap,cur,rfl,hbg,hg,hnc,-⟩
 ·exact⟨none,0,by rw[h0],.inl<|X0.1 h0⟩
 refine⟨_,cap,rfl,.inr ⟨g,0,rfl,(h.lt g rfl).2,fun i hi=>?_⟩⟩;obtain⟨h0,h1⟩:=A7 xs i hi;have hl:=yh xs;refine⟨?_,?_⟩
 ·rw[h.cellAt (0+i*2) cq,Yg];exact h0
 rw[h.cellAt (0+i*2+1) cq,Yg];exact h1
def nJ(B:Nat)(v:Value)(xs:Q0a)(o:Al)(w:ag)(hlen:xs.length<=1000)(hB:cV B w)(hown:w.ownsRow B 27 2 v xs.length<|pairs xs):
  Calls prog 200 #[v,.agg #[.string o.t,.string o.s]] w fun e w'=>∃v',e=.returned v'/\w'.ownsRow B 27 2 v' (fM xs o).length (pairs<|fM xs o)/\Aside w v w' v'/\∀B',(∀g,v.ownBlock=some g->B'<=g)->B'<=w.heap.size->Below B' w w':=by
 obtain⟨iO,h0,h1,h2,h3⟩:=Cj;have HIO:=aJ<|And.intro h0<|And.intro h1<|And.intro h2 h3;obtain⟨ad,cap,rfl,hsl⟩:=nI hown;obtain⟨W,hW⟩:=eQx<|w.alloc<|.cells #[.string o.t,.string o.s] 27;have HB0:O (ae w W):=by show Below _ _ _;rw[hW];exact(XL w.heap.size w).alloc (XK _) _
 have hz:w.heap.size<W.heap.size:=by rw[hW];simp
 have b0:W.cell? (aE w)=some (.string o.t):=by rw[hW];simp
 have b1:W.cell? (a6 w 1)=some (.string o.s):=by rw[hW];simp
 have HSL:=aJ hsl;have HO:=aJ hown;clear hsl hown h0 h1 h2 h3;go_enter func200,ntmps200;go_wp2_with fail;rw[<-hW];clear hW;refine(DY ad cap xs o _ cq<|HSL.below HB0).mono ?_;rintro e w1 ⟨rfl,hb1⟩;have HB1:=aJ<|HB0.trans<|hb1.mono HB0.size;have c0:=az hb1 hz b0;have c1:=az hb1 hz b1;have Zj:=aJ<|aP HO HB1;have HA1:O (Aside w (.slice ad xs.length cap) w1<|.slice ad xs.length cap):=Aside.below HB1;clear hb1 b0 b1;cases hh:pE xs o;case true=>
  have HW:O (fM xs o=xs):=by show _=_;unfold fM;rw[hh];rfl
  go_wp2;go_ret;exact⟨_,rfl,by rw[HW];exact Zj,HA1,fun B' _ hB'=>HB1.mono hB'⟩
 have HW:O (fM xs o=xs++[o]):=by show _=_;unfold fM;rw[hh];rfl
 obtain⟨W2,hW2⟩:=eQx<|w1.alloc<|.cells #[.string o.t,.string o.s] 27;have YZ:O (W2.ownsRow B 27 2 (.slice ad xs.length cap) xs.length<|pairs xs):=by show World.ownsRow _ _ _ _ _ _ _;rw[hW2];exact Zj.alloc _
 have HA2:O (Aside w (.slice ad xs.length cap) W2<|.slice ad xs.length cap):=by show Aside _ _ _ _;rw[hW2];exact HA1.trans<|Aside.below<|(XL _ _).alloc (XK _) _
 have HBW2:O (ae w W2):=by show Below _ _ _;rw[hW2];exact HB1.alloc HB1.size _
 have HN2:O (∀j u,[Value.string o.t,.string o.s][j]?=some u->W2.cell? ((⟨w1.heap.size,0,none⟩:Addr).add j)=some u):=fun j u hu=>by
  rw[hW2]
  match j,hu with
  | 0,hu=>simp at hu;subst hu;simp[Addr.add]
  | 1,hu=>simp at hu;subst hu;simp[Addr.add]
 have hsz2:cV B W2:=by have:=HB1.size;rw[hW2];simp;omega
 clear hh;go_wp2_with(at_builtin;rw[<-hW2];clear hW2;refine wpList_append_own_at _ rfl _ _ 192 rfl B 27 iO (.agg aw) 2 32 underlying192 HIO.1 HIO.2.1 HIO.2.2.1 HIO.2.2.2 rfl cv _ xs.length (pairs xs) rfl YZ ⟨w1.heap.size,0,none⟩ 1 1 [.string o.t,.string o.s] rfl rfl HN2 (by simp[Value.oneCell']) cy cq hsz2 ?_);intro v' w3 hown hgr _ hat;have HE:O (w3.ownsRow B 27 2 v' (fM xs o).length<|pairs<|fM xs o):=by
  show World.ownsRow _ _ _ _ _ _ _;rw[HW,XT];have:pairs (xs++[o])=pairs xs++[.string o.t,.string o.s]:=by simp[pairs]
  rw[this];exact hown
 have HA3:O (Aside w (.slice ad xs.length cap) w3 v'):=HA2.trans<|Aside.app hgr hat;have HBL:O (∀B',(∀g,(Value.slice ad xs.length cap).ownBlock=some g->B'<=g)->B'<=w.heap.size->Below B' w w3):=fun B' hv hB'=>(HBW2.mono hB').grown hgr (XR hB' HBW2.size) hv;clear hown hgr hat;go_wp2;go_ret;exact⟨_,rfl,HE,HA3,HBL⟩
def je(xs:Q0a)(t:Tp):List Al:=fM (fM xs ⟨t.a,t.b⟩) ⟨t.c,t.d⟩
def dQ(xs:Q0a)(t:Tp):List Al:=if t.s.toList==[] then fM xs ⟨t.c,t.d⟩ else xs
def fA(ts:Q05):List Al:=ts.foldl je []
def dA(ts:Q05):List Al:=ts.foldl dQ []
def Ck(ts:Q05)(t:Tp):fA (ts++[t])=je (fA ts) t:=by simp[fA]
def zG(ts:Q05)(t:Tp):dA (ts++[t])=dQ (dA ts) t:=by simp[dA]
def pF(xs:Q0a)(o:Al):(fM xs o).length<=xs.length+1:=by
 unfold fM;split
 ·omega
 simp
def rY(xs:Q0a)(t:Tp):(je xs t).length<=xs.length+2:=by
 unfold je;have h1:=pF (fM xs ⟨t.a,t.b⟩) ⟨t.c,t.d⟩;have h2:=pF xs ⟨t.a,t.b⟩;omega
def rZ(xs:Q0a)(t:Tp):(dQ xs t).length<=xs.length+1:=by
 unfold dQ;split
 ·exact pF _ _
 omega
def Ot(t:Tp):K3:=(t.a,t.b,t.r)
def bB(ts:Q05):List (K3×Tp):=ts.map fun t=>(Ot t,t)
def La(ts:Q05)(t:Tp):bB (ts++[t])=bB ts++[(Ot t,t)]:=by simp[bB]
structure DatT(w:World)(D br bp:Nat)(tab:Value)(n1:Int)(E:List<|K3×Tp)(xo xu:Q0a)(np:Nat)(Mp:K3->Option Value)(vo vu:Value):Prop where
 gt:bp<D
 lt:D<w.heap.size
 kind:∃cur,w.heap[D]?=some (.cells cur 194 (0,0))
 c0:w.cell? ⟨D,0,none⟩=some tab
 c1:w.cell? ⟨D,1,none⟩=some (.int .i64 n1)
 c2:w.cell? ⟨D,2,none⟩=some (.map<|some br)
 c3:w.cell? ⟨D,3,none⟩=some (.map<|some bp)
 c4:w.cell? ⟨D,4,none⟩=some vo
 c5:w.cell? ⟨D,5,none⟩=some vu
 told:G.Grp rJ prog 273 29 6 Tp.row w bp np Mp E
 objs:w.ownsRow (bp+1) 27 2 vo xo.length (pairs xo)
 users:w.ownsRow (bp+1) 27 2 vu xu.length (pairs xu)
 apart:∀g,vo.ownBlock=some g->vu.ownBlock≠some g
def fB{w:ag}{base size n g:Nat}{e e':TypeId}{v:Value}{xs:Q03}{cur:Array Value}(h:w.ownsRow base e size v n xs)(hg:v.ownBlock=some g)(hc:w.heap[g]?=some (.cells cur e' (0,0))):e=e':=by
 rcases h.2 with⟨rfl,-⟩|⟨g',cap,cur',rfl,-,hg',-⟩
 ·simp[Value.ownBlock]at hg
 have e1:g'=g:=by simpa[Value.ownBlock] using hg
 rw[e1,hc]at hg';injection hg' with hg';injection hg' with _ h2;exact h2.symm
def GJ{w:ag}{base size n g:Nat}{e:TypeId}{v:Value}{xs:Q03}{es:Array MapEntry}{c:Nat}(h:w.ownsRow base e size v n xs)(hg:v.ownBlock=some g)(hc:w.heap[g]?=some (.map es c)):False:=by
 rcases h.2 with⟨rfl,-⟩|⟨g',cap,cur',rfl,-,hg',-⟩
 ·simp[Value.ownBlock]at hg
 have e1:g'=g:=by simpa[Value.ownBlock] using hg
 rw[e1,hc]at hg';cases hg'
def bY{w w':ag}{base size n:Nat}{e:TypeId}{v:Value}{xs:Q03}(h:w.ownsRow base e size v n xs)(hb:∀g,v.ownBlock=some g->w'.heap[g]?=w.heap[g]?):w'.ownsRow base e size v n xs:=by
 refine⟨h.1,?_⟩;rcases h.2 with h0|⟨g,cap,cur,rfl,h1,h2,h3⟩
 ·exact .inl h0
 exact .inr ⟨g,cap,cur,rfl,h1,(hb g rfl).trans h2,h3⟩
def fG{w:ag}{base size n g:Nat}{e:TypeId}{v:Value}{xs:Q03}(h:w.ownsRow base e size v n xs)(hg:v.ownBlock=some g):∃cur,w.heap[g]?=some (.cells cur e (0,0)):=by
 rcases h.2 with⟨rfl,-⟩|⟨g',cap,cur',rfl,-,hg',-⟩
 ·simp[Value.ownBlock]at hg
 have e1:g'=g:=by simpa[Value.ownBlock] using hg
 exact⟨cur',by rw[<-e1];exact hg'⟩
def xe{w:ag}{bp np:Nat}{Mp:K3->Option Value}{E:List<|K3×Tp}(h:G.Grp rJ prog 273 29 6 Tp.row w bp np Mp E){k:K3}{v:Value}(hk:Mp k=some v):∃n xs,w.ownsRow (bp+1) 29 6 v n xs:=by
 rcases h.row k with⟨e,-⟩|⟨v',e,ho⟩
 ·rw[e]at hk;cases hk
 rw[e]at hk;injection hk with hk;subst hk;exact⟨_,_,ho⟩
def I5{w:ag}{bp np g:Nat}{Mp:K3->Option Value}{E:List<|K3×Tp}{e:TypeId}{cur:Array Value}(h:G.Grp rJ prog 273 29 6 Tp.row w bp np Mp E)(hc:w.heap[g]?=some (.cells cur e (0,0)))(hne:(29:TypeId)≠e):G.FreeB Mp g:=fun k v hk hg=>by
 obtain⟨n,xs,ho⟩:=xe h hk;exact hne<|fB ho hg hc
def xg{w w':ag}{bp np:Nat}{Mp:K3->Option Value}{E:List<|K3×Tp}(h:G.Grp rJ prog 273 29 6 Tp.row w bp np Mp E)(hm:w'.heap[bp]?=w.heap[bp]?)(hr:∀k v g,Mp k=some v->v.ownBlock=some g->w'.heap[g]?=w.heap[g]?):G.Grp rJ prog 273 29 6 Tp.row w' bp np Mp E where
 map:=h.map.of_block hm
 row k:=by
  rcases h.row k with e|⟨v,e,ho⟩
  ·exact .inl e
  exact .inr ⟨v,e,bY ho fun g hg=>hr k v g e hg⟩
 apart:=h.apart
section
variable  {w w':World}{D br bp:Nat}{tab:Value}{n1:Int}{E:List (K3×Tp)}{xo xu:Q0a}{np:Nat}{Mp:K3->Option Value}{vo vu:Value}
def DatT.below(h:DatT w D br bp tab n1 E xo xu np Mp vo vu)(hb:ae w w'):DatT w' D br bp tab n1 E xo xu np Mp vo vu where
 gt:=h.gt
 lt:=XJ h.lt hb.size
 kind:=by obtain⟨cur,e⟩:=h.kind;exact⟨cur,(hb.block D h.lt).trans e⟩
 c0:=(hb.cell (p:=⟨D,0,none⟩) h.lt).trans h.c0
 c1:=(hb.cell (p:=⟨D,1,none⟩) h.lt).trans h.c1
 c2:=(hb.cell (p:=⟨D,2,none⟩) h.lt).trans h.c2
 c3:=(hb.cell (p:=⟨D,3,none⟩) h.lt).trans h.c3
 c4:=(hb.cell (p:=⟨D,4,none⟩) h.lt).trans h.c4
 c5:=(hb.cell (p:=⟨D,5,none⟩) h.lt).trans h.c5
 told:=h.told.below hb
 objs:=aP h.objs hb
 users:=aP h.users hb
 apart:=h.apart
def DatT.tell(h:DatT w D br bp tab n1 E xo xu np Mp vo vu){Mp':K3->Option Value}{E':List<|K3×Tp}{np':Nat}(hg:G.Grp rJ prog 273 29 6 Tp.row w' bp np' Mp' E')(hs:G.Stl w Mp w' Mp' bp):DatT w' D br bp tab n1 E' xo xu np' Mp' vo vu:=by
 have hD:w'.heap[D]?=w.heap[D]?:=by
  obtain⟨cur,e⟩:=h.kind;exact hs.block D h.lt (by have:=h.gt;omega) (I5 h.told e cv)
 have hc:∀o,w'.cell? (ap D o)=w.cell? (ap D o):=fun o=>Yf (w:=w) (a:=⟨D,o,none⟩) hD;have hO:∀{v:Value} {n:Nat} {xs:Q03},w.ownsRow (bp+1) 27 2 v n xs->w'.ownsRow (bp+1) 27 2 v n xs:=fun {v n xs} ho=>bY ho fun g hg=>by
  obtain⟨cur,e⟩:=fG ho hg;have:=ho.lt g hg;exact hs.block g this.2 cq<|I5 h.told e cv
 exact⟨h.gt,XJ h.lt hs.size,by obtain⟨cur,e⟩:=h.kind;exact⟨cur,hD.trans e⟩,(hc _).trans h.c0,(hc _).trans h.c1,(hc _).trans h.c2,(hc _).trans h.c3,(hc _).trans h.c4,(hc _).trans h.c5,hg,hO h.objs,hO h.users,h.apart⟩
def DatT.newO(h:DatT w D br bp tab n1 E xo xu np Mp vo vu){vo':Value}{xo':Q0a}(ho:w'.ownsRow (bp+1) 27 2 vo' xo'.length<|pairs xo')(ha:Aside w vo w' vo'):DatT (w'.setCell (ap D 4) vo') D br bp tab n1 E xo' xu np Mp vo' vu:=by
 obtain⟨cur,hk⟩:=h.kind;have hDo:vo.ownBlock≠some D:=fun e=>absurd (fB h.objs e hk) cv;have hD:w'.heap[D]?=w.heap[D]?:=ha.block D h.lt hDo;have hc:∀o,w'.cell? (ap D o)=w.cell? (ap D o):=fun o=>Yf (w:=w) (a:=⟨D,o,none⟩) hD;have hc2:∀o,o≠4->(w'.setCell (ap D 4) vo').cell? (ap D o)=w.cell? (ap D o):=fun o ne=>(l7 cq).trans<|hc o;have hDn:vo'.ownBlock≠some D:=ha.apart h.lt hDo;have hne:∀g,g≠D->(w'.setCell (ap D 4) vo').heap[g]?=w'.heap[g]?:=fun g e=>heap_setCell_other w' ⟨D,4,none⟩ g vo' e;have hbp:cW bp w:=by have:=h.gt;have:=h.lt;omega
 have hrow:∀k v g,Mp k=some v->v.ownBlock=some g->(w'.setCell (ap D 4) vo').heap[g]?=w.heap[g]?:=fun k v g hm hg=>by
  obtain⟨n,xs,hr⟩:=xe h.told hm;obtain⟨cr,er⟩:=fG hr hg;rw[hne g (fun e=>absurd (fB hr (e ▸ hg) hk) cv)];exact ha.block g (hr.lt g hg).2 fun e=>absurd (fB h.objs e er) cv
 refine⟨h.gt,by simpa using XJ h.lt ha.size,⟨_,heap_setCell_same w' D 4 cur _ vo'<|hD.trans hk⟩,(hc2 0 cq).trans h.c0,(hc2 1 cq).trans h.c1,(hc2 2 cq).trans h.c2,(hc2 3 cq).trans h.c3,QR<|(hc 4).trans h.c4,(hc2 5 cq).trans h.c5,xg h.told ?_ hrow,bY ho fun g hg=>hne g fun e=>hDn<|e ▸ hg,bY h.users fun g hg=>?_,fun g hg hu=>?_⟩
 ·rw[hne bp (by have:=h.gt;omega)];exact ha.block bp hbp fun e=>by have:=(h.objs.lt bp e).1;omega
 ·rw[hne g (fun e=>absurd (fB h.users (e ▸ hg) hk) cv)];exact ha.block g (h.users.lt g hg).2 fun e=>h.apart g e hg
 rcases ha.own with e|⟨g',e,hg'⟩
 ·exact h.apart g (e ▸ hg) hu
 rw[hg]at e;injection e with e;have:=(h.users.lt g hu).2;omega
def DatT.newU(h:DatT w D br bp tab n1 E xo xu np Mp vo vu){vu':Value}{xu':Q0a}(ho:w'.ownsRow (bp+1) 27 2 vu' xu'.length<|pairs xu')(ha:Aside w vu w' vu'):DatT (w'.setCell (ap D 5) vu') D br bp tab n1 E xo xu' np Mp vo vu':=by
 obtain⟨cur,hk⟩:=h.kind;have hDo:vu.ownBlock≠some D:=fun e=>absurd (fB h.users e hk) cv;have hD:w'.heap[D]?=w.heap[D]?:=ha.block D h.lt hDo;have hc:∀o,w'.cell? (ap D o)=w.cell? (ap D o):=fun o=>Yf (w:=w) (a:=⟨D,o,none⟩) hD;have hc2:∀o,o≠5->(w'.setCell (ap D 5) vu').cell? (ap D o)=w.cell? (ap D o):=fun o ne=>(l7 cq).trans<|hc o;have hDn:vu'.ownBlock≠some D:=ha.apart h.lt hDo;have hne:∀g,g≠D->(w'.setCell (ap D 5) vu').heap[g]?=w'.heap[g]?:=fun g e=>heap_setCell_other w' ⟨D,5,none⟩ g vu' e;have hbp:cW bp w:=by have:=h.gt;have:=h.lt;omega
 have hrow:∀k v g,Mp k=some v->v.ownBlock=some g->(w'.setCell (ap D 5) vu').heap[g]?=w.heap[g]?:=fun k v g hm hg=>by
  obtain⟨n,xs,hr⟩:=xe h.told hm;obtain⟨cr,er⟩:=fG hr hg;rw[hne g (fun e=>absurd (fB hr (e ▸ hg) hk) cv)];exact ha.block g (hr.lt g hg).2 fun e=>absurd (fB h.users e er) cv
 refine⟨h.gt,by simpa using XJ h.lt ha.size,⟨_,heap_setCell_same w' D 5 cur _ vu'<|hD.trans hk⟩,(hc2 0 cq).trans h.c0,(hc2 1 cq).trans h.c1,(hc2 2 cq).trans h.c2,(hc2 3 cq).trans h.c3,(hc2 4 cq).trans h.c4,QR<|(hc 5).trans h.c5,xg h.told ?_ hrow,bY h.objs fun g hg=>?_,bY ho fun g hg=>hne g fun e=>hDn<|e ▸ hg,fun g hg hu=>?_⟩
 ·rw[hne bp (by have:=h.gt;omega)];exact ha.block bp hbp fun e=>by have:=(h.users.lt bp e).1;omega
 ·rw[hne g (fun e=>absurd (fB h.objs (e ▸ hg) hk) cv)];exact ha.block g (h.objs.lt g hg).2 fun e=>h.apart g hg e
 rcases ha.own with e|⟨g',e,hg'⟩
 ·exact h.apart g hg<|e ▸ hu
 rw[hu]at e;injection e with e;have:=(h.objs.lt g hg).2;omega
end
def Q7:∃i,prog.info? 29=some i/\i.zero=some (.agg aq)/\i.size=6/\i.bytes=96 :=
 info_parts (P:=prog) (e:=29) (z:=.agg aq) (size:=6) (bytes:=96) cw
def Cm(u:ag):(zeroValue 25).run prog u=.ok (.slice none 0 0) u:=cw
def Fe{w:ag}{bp np:Nat}{Mp:K3->Option Value}{E:List<|K3×Tp}(h:G.Grp rJ prog 273 29 6 Tp.row w bp np Mp E)(k:K3):w.ownsRow (bp+1) 29 6 ((Mp k).getD<|.slice none 0 0) (G.lookL E k).length (G.flatG Tp.row<|G.lookL E k):=by
 rcases h.row k with⟨e,e2⟩|⟨v,e,ho⟩
 ·rw[e,e2];exact World.ownsRow_nil _ _ _ _
 rw[e];exact ho
def news_of_block{w:ag}{g:Nat}{cs:Array Value}{T:TypeId}(h:w.heap[g]?=some (.cells cs T (0,0))):∀j u,cs.toList[j]?=some u->w.cell? ((⟨g,0,none⟩:Addr).add j)=some u:=by
 intro j u hu;have e:(⟨g,0,none⟩:Addr).add j=⟨g,j,none⟩:=by
  unfold Addr.add;by_cases hj:j=0
  ·subst hj;simp
  simp[hj]
 rw[e];simp[World.cell?,h];simpa using hu
def yg.block{w w':ag}{g:Nat}{t:Tp}(h:yg w g t)(e:w'.heap[g]?=w.heap[g]?)(hl:cW g w'):yg w' g t:=by
 obtain⟨h0,h1,h2,h3,h4,h5,_⟩:=h;have hc:∀o,w'.cell? (ap g o)=w.cell? (ap g o):=fun o=>Yf (w:=w) (a:=⟨g,o,none⟩) e;exact⟨(hc _).trans h0,(hc _).trans h1,(hc _).trans h2,(hc _).trans h3,(hc _).trans h4,(hc _).trans h5,hl⟩
def jE{w:ag}{g:Nat}{cs:Array Value}{T:TypeId}(h:w.heap[g]?=some (.cells cs T (0,0)))(o:Nat):w.frozen? (ap g o)=false:=by
 simp[World.frozen?,h]
def yg.aside{w w':ag}{g base n:Nat}{t:Tp}{v v':Value}{xs:Q03}(h:yg w g t)(hc:∃cur,w.heap[g]?=some (.cells cur 29 (0,0)))(ho:w.ownsRow base 27 2 v n xs)(ha:Aside w v w' v'):yg w' g t/\∃cur,w'.heap[g]?=some (.cells cur 29 (0,0)):=by
 obtain⟨cur,e⟩:=hc;have hl:=h.2.2.2.2.2.2;have hb:=ha.block g hl fun hg=>absurd (fB ho hg e) cv;exact⟨h.block hb<|XJ hl ha.size,cur,hb.trans e⟩
def VT{C:Nat->Value}{a b c d e f g h i j:Value}(q:C=fun n=>(a::b::c::d::e::f::g::h::i::j::[]).getD n undef):C 0=a/\C 1=b/\C 2=c/\C 3=d/\C 4=e/\C 5=f/\C 6=g/\C 7=h/\C 8=i/\C 9=j:=by
 rw[q];exact⟨rfl,rfl,rfl,rfl,rfl,rfl,rfl,rfl,rfl,rfl⟩
def Nk{w w1:ag}{D c:Nat}{v:Value}(h:w.cell? (ap D c)=some v)(hD:cW D w)(hb:ae w w1):w1.cell? (ap D c)=some v:=(hb.cell hD).trans h
def cell_of{w1 w':ag}{D c:Nat}{v:Value}(h:w1.cell? (ap D c)=some v)(e:w'.heap[D]?=w1.heap[D]?):w'.cell? (ap D c)=some v:=(Yf (w:=w1) (a:=⟨D,c,none⟩) e).trans h
def DatT.named{w:ag}{p:Addr}{v:Value}{D br bp:Nat}{tab:Value}{n1:Int}{E:List<|K3×Tp}{xo xu:Q0a}{np:Nat}{Mp:K3->Option Value}{vo vu:Value}(h:DatT (w.setCell p v) D br bp tab n1 E xo xu np Mp vo vu):∃x,x=w.setCell p v/\DatT x D br bp tab n1 E xo xu np Mp vo vu:=⟨_,rfl,h⟩
def Q8(bp:Nat)(w:World)(vo:Value)(X:Q0a)(v':Value)(w':World):Prop:=∃w1,ae w w1/\w'.ownsRow (bp+1) 27 2 v' X.length (pairs X)/\Aside w1 vo w' v'/\∀B',(∀g,vo.ownBlock=some g->B'<=g)->B'<=w1.heap.size->Below B' w1 w'
def Q9(D br bp:Nat)(tab:Value)(n1:Int)(E:List<|K3×Tp)(xo xu:Q0a)(np:Nat)(Mp:K3->Option Value)(vo vu:Value)(t:Tp)(w:ag)(hd:DatT w D br bp tab n1 E xo xu np Mp vo vu)(hnp:np<=1000)(hE:E.length<=1000)(hxo:xo.length<=500)(hxu:xu.length<=500)(ht:t.fits):
    Calls prog 134 #[.pointer (some<|am D),.agg<|cg t] w fun e w'=>e=.returned (.tuple #[])/\(∃Mp' vo' vu',DatT w' D br bp tab n1 (E++[(Ot t,t)]) (je xo t) (dQ xu t) (np+1) Mp' vo' vu')/\Below bp w w':=by
  obtain⟨iT,h0,h1,h2,h3⟩:=Q7;have HIT:=aJ<|And.intro h0<|And.intro h1<|And.intro h2 h3;obtain⟨W,hW⟩:=eQx<|(w.alloc<|.cells (cg t) 29).alloc<|.cells #[.string t.a,.string t.b,.string t.r] 273;have Y9:O (ae w W):=by show Below _ _ _;rw[hW];exact((XL _ _).alloc (XK _) _).alloc ct _
  have hWs:W.heap.size=w.heap.size+2:=by rw[hW];simp
  have HT6:O (yg W w.heap.size t):=by show yg _ _ _;rw[hW];refine⟨?_,?_,?_,?_,?_,?_,?_⟩<;>first|(simp;done)|(simp;omega)
  have HK3:O (W.cell? (am<|w.heap.size+1)=some (.string t.a)/\W.cell? (ap (w.heap.size+1) 1)=some (.string t.b)/\W.cell? (ap (w.heap.size+1) 2)=some (.string t.r)):=by show _/\_;rw[hW];refine⟨?_,?_,?_⟩<;>simp
  have HD:=aJ<|hd.below Y9;have hDl:cW D w:=hd.lt;have HFB:O (G.FreeB Mp w.heap.size):=hd.told.fresh<|XK _;have Zv:O (W.heap[w.heap.size]?=some (.cells (cg t) 29 (0,0))):=by show _=_;rw[hW,Below.heap_alloc _ _ _ ct];exact heap_alloc_new w _
  have hbD:bp<D:=hd.gt;have HLL:O ((G.lookL E<|Ot t).length<=1000):=XR (YM _ _) hE;obtain⟨row0,hr0⟩:∃r,r=(Mp<|Ot t).getD (.slice none 0 0):=⟨_,rfl⟩;obtain⟨nn,hnn⟩:∃n,n=(G.lookL E<|Ot t).length:=⟨_,rfl⟩;obtain⟨xs,hxs⟩:∃x,x=G.flatG Tp.row (G.lookL E<|Ot t):=⟨_,rfl⟩;have HR0:=aJ hr0;have HNN:=aJ hnn;have HXS:=aJ hxs;have hnl:nn<=1000:=by rw[hnn];exact HLL
  have Z0:O (∀W0:World,ae W W0->W0.ownsRow (bp+1) 29 6 row0 nn xs):=fun W0 hb=>by rw[hr0,hnn,hxs];exact Fe (HD.told.below hb) _
  have HKEY:O (∃kl,keyOf prog 273 (rJ<|Ot t)=some kl):=wI _ ht.1 ht.2.1 ht.2.2.1;clear h0 h1 h2 h3 hr0 hnn hxs hd hE;obtain⟨C2,hC2⟩:∃C:Nat->Value,C=fun n=>(Value.pointer (some<|am D)::.pointer (some<|am D)::.pointer (some<|ap D 3)::.map (some bp)::.agg #[.string t.a,.string t.b,.string t.r]::.agg (cg t)::[]).getD n undef:=⟨_,rfl⟩;have ZM:O (C2 0=Value.pointer (some<|am D)/\C2 1=Value.pointer (some<|am D)/\C2 2=Value.pointer (some<|ap D 3)/\C2 3=Value.map (some bp)/\C2 4=Value.agg #[.string t.a,.string t.b,.string t.r]/\C2 5=Value.agg (cg t)):=by show _/\_;rw[hC2];exact⟨rfl,rfl,rfl,rfl,rfl,rfl⟩
  clear hC2;go_enter func134,ntmps134;go_wp2_with fail;rw[<-hW];clear hW;refine qY 11 _ _ (G.EI C2 (cg t) 29 6 W bp row0 nn xs<|G.Back rJ prog 273 191 bp np Mp<|Ot t) cw rfl cw cw (H7 [(10,[0,1,2,3,4,8,5,6,7,9,10])]) (G.ei_start W) ?stepA ?finA<;>dsimp only[Et];case stepA =>
    rintro i hi o ho l fq w' hli hI hpre;have HI:=aK hI;have Zf:O (∀e∈o.after,Region.binds .any e=true->l e.on=true):=hpre;clear hI hpre;have hc:=P9 (i:=i) cq;clear hi
    repeat' rcases hc with rfl|hc
    · cases ho;have hA:=HI.early (i:=0) cq hli;clear Zf HI;refine af rfl fun K HK=>?_;go_simp;exact HK _ _ ⟨Value.pointer<|some ⟨D,0,none⟩,by simp[upd, *],hA.put cq ZM.1.symm⟩
    · cases ho;have hA:=HI.early (i:=1) cq hli;have e0:=(hA.val 0 cq<|Zf ⟨0,.data⟩ ct rfl).trans ZM.1;clear Zf HI;refine af rfl fun K HK=>?_;simp only[e0];go_simp;exact HK _ _ ⟨Value.pointer<|some ⟨D,0,none⟩,by simp[upd, *],hA.put cq ZM.2.1.symm⟩
    · cases ho;have hA:=HI.early (i:=2) cq hli;have e1:=(hA.val 1 cq<|Zf ⟨1,.data⟩ ct rfl).trans ZM.2.1;clear Zf HI;refine af rfl fun K HK=>?_;simp only[e1];go_simp;exact HK _ _ ⟨Value.pointer<|some ⟨D,3,none⟩,by simp[upd, *],hA.put cq ZM.2.2.1.symm⟩
    · cases ho;have hA:=HI.early (i:=3) cq hli;have e2:=(hA.val 2 cq<|Zf ⟨2,.data⟩ ct rfl).trans ZM.2.2.1;have hb':=hA.bel;have d3:=(hb'.cell (p:=⟨D,3,none⟩)<|by show D<_;omega).trans HD.c3;clear Zf HI;refine af rfl fun K HK=>?_;simp only[e2];go_simp;exact HK _ _ ⟨Value.map<|some bp,by simp[upd, *],hA.put cq ZM.2.2.2.1.symm⟩
    · cases ho;have hA:=HI.early (i:=4) cq hli;have hb':=hA.bel;have k0:=(hb'.cell (p:=⟨w.heap.size+1,0,none⟩)<|by show w.heap.size+1<_;omega).trans HK3.1;have k1:=(hb'.cell (p:=⟨w.heap.size+1,1,none⟩)<|by show w.heap.size+1<_;omega).trans HK3.2.1;have k2:=(hb'.cell (p:=⟨w.heap.size+1,2,none⟩)<|by show w.heap.size+1<_;omega).trans HK3.2.2;clear Zf HI;refine af rfl fun K HK=>?_;go_simp;exact HK _ _ ⟨Value.agg #[.string t.a,.string t.b,.string t.r],by simp[upd, *],hA.put cq ZM.2.2.2.2.1.symm⟩
    · cases ho;have hA:=HI.early (i:=5) cq hli;have hb':=hA.bel;obtain⟨t0,t1,t2,t3,t4,t5,tl⟩:=HT6.below hb';clear Zf HI;refine af rfl fun K HK=>?_;go_simp;exact HK _ _ ⟨Value.agg<|cg t,by simp[upd, *],hA.put cq ZM.2.2.2.2.2.symm⟩
    · cases ho;have hA:=HI.early (i:=6) cq hli;have e5:=(hA.val 5 cq<|Zf ⟨5,.data⟩ ct rfl).trans ZM.2.2.2.2.2;clear Zf HI;refine af rfl fun K HK=>?_;simp only[e5];go_simp;exact HK _ _ ⟨_,by simp[upd,e5],hA.lay⟩
    · cases ho;have hA:=HI.early (i:=7) cq hli;have e3:=(hA.val 3 cq<|Zf ⟨3,.data⟩ ct rfl).trans ZM.2.2.2.1;have e4:=(hA.val 4 cq<|Zf ⟨4,.data⟩ ct rfl).trans ZM.2.2.2.2.1;have hall:∀k,k<=6->l k=true:=fun k hk=>by
        have hc:=WL (i:=k) cq
        repeat' rcases hc with rfl|hc
        all_goals exact Zf ⟨_,.phase⟩ ct rfl
      have hD':=HD.below hA.bel;obtain⟨kl,hkl⟩:=HKEY.out;obtain⟨st,w1,hrun,hg,hback⟩:=hD'.told.map.entry QB QA underlying191 Cm cy hkl;rw[<-HR0]at hrun;have hrun':(Instr.mapEntry 191 (.map<|some bp)<|Value.agg #[.string t.a,.string t.b,.string t.r]).run prog w'=.ok (.tuple #[row0,goInt st]) w1:=hrun;clear Zf HI;refine af rfl fun K HK=>?_;simp only[e3,e4];go_simp;exact HK _ _ ⟨_,by simp[upd,e3,e4,goInt],hA.took hall hg hback⟩
    · cases ho;have h7:=Zf ⟨7,.data⟩ ct rfl;have hB:=HI.midB h7 (i:=8) cq hli;obtain⟨st,e7⟩:=HI.seven h7;clear Zf HI;refine af rfl fun K HK=>?_;simp only[e7];go_simp;exact HK _ _ ⟨_,by simp[upd,e7,goInt],hB.first⟩
    · cases ho;have h7:=Zf ⟨7,.chain⟩ ct rfl;have h8:=Zf ⟨8,.data⟩ ct rfl;have hB:=HI.midB h7 (i:=9) cq hli;obtain ⟨W0,st,g,hm1,hm2,hm3,hm4,hm5,e7,hm7,hm8,hm9⟩:=hB.mid;have e8:=hm8 h8;have hown:=(Z0 W0 hm1).kept hm5 (by
        rcases h:row0.ownBlock with _|g'
        · exact .inl rfl
        · right;intro e;injection e with e;have:=((Z0 W0 hm1).lt g' h).1;omega)
      have hnew:w'.heap[g]?=some (.cells (cg t) 29 (0,0)):=by
        have hgl:cW g W0:=by
          rcases Nat.lt_or_ge g W0.heap.size with h|h
          · exact h
          · rw[Array.getElem?_eq_none h]at hm4;cases hm4
        rw[hm5.block g hgl (fun e=>by injection e with e;omega)];exact hm4
      clear Zf HI;refine lZ w' rfl rfl _ _ 25 rfl (bp+1) 29 iT _ 6 96 underlying25 HIT.1 HIT.2.1 HIT.2.2.1 HIT.2.2.2 rfl cv row0 nn xs (by simp[Act.eval,e8]) hown ⟨g,0,none⟩ 1 1 [Value.string t.a,.string t.b,.string t.r,.string t.c,.string t.d,.string t.s] (by simp[Act.eval,hm2]) rfl (fun j u hu=>news_of_block hnew j u hu) (by simp[Value.oneCell']) cy cq (by have:=hm5.size;have:=hm1.size;omega) ?_;intro v' w2 hown2 ZP hloc2;exact⟨v',by simp[upd,Act.put],hB.app h8 ZP hown2 hloc2⟩
    · cases ho;have h7:=Zf ⟨7,.data⟩ ct rfl;obtain⟨st,e7⟩:=HI.seven h7;have HI2:=HI.second h7 e7;clear Zf HI;refine af rfl fun K HK=>?_;simp only[e7];go_simp;exact HK _ _ ⟨_,by simp[upd,e7,goInt],HI2⟩
  case finA =>
    rintro o ho l fq w' hall hI;obtain rfl:=Option.some.inj ho;have hC:=hI.last hall;obtain⟨W0,w1,st,hm1,hm2,hm3,hm4,hm5,hm6,-,hm8⟩:=hC.mid;have e10:=hm8<|hall 10 cq;have e3:=(hC.val 3 cq).trans ZM.2.2.2.1;obtain⟨w3,hrun,hM3,hg3⟩:=hm6 w' (fq 9) (hm3.block bp (by have:=hm2.size;have:=hm1.size;omega) (fun e=>by have:=(Z0 W0 hm1).lt bp e.symm;omega));have hst:=(HD.told.below hm1).step (y:=Ot t) (s:=t) hm2 (by rw[<-HNN,<-HXS];exact hm4) (by rw[<-HR0];exact hm3) (by rw[<-HR0];exact hm5) hg3 hM3;have HDQ:=aJ<|(HD.below hm1).tell hst.1 hst.2;have HBQ:O (Below bp w w3):=by
      have b0:Below bp w W0:=(Y9.trans<|hm1.mono Y9.size).mono cq;have b1:Below bp w w1:=b0.grown hm2 (by have:=hm1.size;omega) (fun i hi=>by injection hi with hi;omega);have b2:Below bp w w':=b1.grown hm3 (by have:=hm2.size;have:=hm1.size;omega) (fun i hi=>by have:=((Z0 W0 hm1).lt i hi).1;omega);exact b2.grown hg3 (by have:=hm3.size;have:=hm2.size;have:=hm1.size;omega) (fun i hi=>by injection hi with hi;omega)
    have hz3:cY W w3:=by have:=hg3.size;have:=hm3.size;have:=hm2.size;have:=hm1.size;omega
    have hbx3:w3.heap[w.heap.size]?=some (.cells (cg t) 29 (0,0)):=by
      rw[hst.2.block w.heap.size (by have:=hm1.size;omega) cq HFB,hm1.block w.heap.size cq];exact Zv
    have HTQ:O (yg w3 w.heap.size t/\∃cur,w3.heap[w.heap.size]?=some (.cells cur 29 (0,0))):=⟨HT6.block (by rw[hbx3,Zv]) cq,_,hbx3⟩;have hrun2:(Instr.entryStore 191 (.map<|some bp) (.int .i64 st)<|fq 9).run prog w'=.ok () w3:=hrun;obtain⟨Mn,hMn⟩:∃M,M=iw Mp (Ot t) (some<|fq 9):=⟨_,rfl⟩;rw[<-hMn]at HDQ;refine af rfl fun K HK=>?_;simp only[e3,e10];go_simp;refine HK _ _ ?_;clear hst hrun hrun2 hM3 hg3 hm1 hm2 hm3 hm4 hm5 hm6 hm8 hC hI hall ho HK K e3 e10 HD HT6 HK3 Y9 Z0 Zv ZM HKEY HFB hMn HR0 HNN HXS hbx3;obtain⟨y0,hy0⟩:∃y,y=fq 0:=⟨_,rfl⟩;rw[<-hy0];obtain⟨y1,hy1⟩:∃y,y=fq 1:=⟨_,rfl⟩;rw[<-hy1];obtain⟨y2,hy2⟩:∃y,y=fq 2:=⟨_,rfl⟩;rw[<-hy2];obtain⟨y4,hy4⟩:∃y,y=fq 4:=⟨_,rfl⟩;rw[<-hy4];obtain⟨y8,hy8⟩:∃y,y=fq 8:=⟨_,rfl⟩;rw[<-hy8];obtain⟨y5,hy5⟩:∃y,y=fq 5:=⟨_,rfl⟩;rw[<-hy5];obtain⟨y6,hy6⟩:∃y,y=fq 6:=⟨_,rfl⟩;rw[<-hy6];obtain⟨y7,hy7⟩:∃y,y=fq 7:=⟨_,rfl⟩;rw[<-hy7];obtain⟨y9,hy9⟩:∃y,y=fq 9:=⟨_,rfl⟩;rw[<-hy9];clear hy0 hy1 hy2 hy4 hy8 hy5 hy6 hy7 hy9 fq l hz3;go_wp2_with fail;have hbz:bp+1<=w3.heap.size:=by have:=HDQ.lt;have:=HDQ.gt;omega
    have hx1:(fM xo ⟨t.a,t.b⟩).length<=501:=by have:=pF xo ⟨t.a,t.b⟩;omega
    have m1:=trivial;obtain⟨CQ,hCQ⟩:∃C:Nat->Value,C=fun n=>(Value.pointer (some<|am D)::.pointer (some<|am D)::.pointer (some<|am D)::.pointer (some<|ap D 4)::vo::.pointer (some<|aE w)::.agg #[.string t.a,.string t.b]::undef::.pointer (some<|am D)::.pointer (some<|ap D 4)::[]).getD n undef:=⟨_,rfl⟩;have HCQ:=aJ<|VT hCQ;have HOB:=aJ HDQ.objs;have HCL:=aJ HDQ.c4;have HWO:=aJ<|nJ (bp+1) vo xo ⟨t.a,t.b⟩;clear hCQ;refine kU 10 _ _ (G.WI CQ w3<|Q8 bp w3 vo<|fM xo ⟨t.a,t.b⟩) cw rfl cw (fun o ho l f w' hI hp=>?_) (H7 [(21,[0,1,2,3,4,5,6,7,8,9])]) (G.wi_start _) ?_ ?_<;>try dsimp only[Et]
    iterate 3
      · cases ho;intro k hk;have h9:=hp ⟨9,.data⟩ ct rfl;have hc:=H8 (i:=k) cq
        repeat' rcases hc with rfl|hc
        all_goals first|exact hI.nin h9|exact h9|exact hp ⟨_,.phase⟩ ct rfl
      · rintro i hi o ho l fr w' hli hI hpre;have HI:=aJ hI;have Zf:O (∀e∈o.after,Region.binds .any e=true->l e.on=true):=hpre;clear hI hpre;have hc:=H8 (i:=i) cq;clear hi
        repeat' rcases hc with rfl|hc
        · cases ho;have hW:=HI.out;clear Zf HI;refine af rfl fun K HK=>?_;go_simp;exact HK _ _ ⟨_,by simp[upd, *],hW.put cq cq HCQ.1.symm⟩
        · cases ho;have hW:=HI.out;clear Zf HI;refine af rfl fun K HK=>?_;go_simp;exact HK _ _ ⟨_,by simp[upd, *],hW.put cq cq HCQ.2.1.symm⟩
        · cases ho;have hW:=HI.out;have e1:=(HI.val 1 cq cq<|Zf ⟨1,.data⟩ ct rfl).trans HCQ.2.1;clear Zf HI;refine af rfl fun K HK=>?_;simp only[e1];go_simp;exact HK _ _ ⟨_,by simp[upd, *],hW.put cq cq HCQ.2.2.1.symm⟩
        · cases ho;have hW:=HI.out;have e2:=(HI.val 2 cq cq<|Zf ⟨2,.data⟩ ct rfl).trans HCQ.2.2.1;clear Zf HI;refine af rfl fun K HK=>?_;simp only[e2];go_simp;exact HK _ _ ⟨_,by simp[upd, *],hW.put cq cq HCQ.2.2.2.1.symm⟩
        · cases ho;have hW:=HI.out;have e3:=(HI.val 3 cq cq<|Zf ⟨3,.data⟩ ct rfl).trans HCQ.2.2.2.1;have hb':=HI.early<|.inl hli;have d4:=Nk HCL HDQ.lt hb';clear Zf HI;refine af rfl fun K HK=>?_;simp only[e3];go_simp;exact HK _ _ ⟨_,by simp[upd, *],hW.put cq cq HCQ.2.2.2.2.1.symm⟩
        · cases ho;have hW:=HI.out;clear Zf HI;refine af rfl fun K HK=>?_;go_simp;exact HK _ _ ⟨_,by simp[upd, *],hW.put cq cq HCQ.2.2.2.2.2.1.symm⟩
        · cases ho;have hW:=HI.out;have e5:=(HI.val 5 cq cq<|Zf ⟨5,.data⟩ ct rfl).trans HCQ.2.2.2.2.2.1;have hb':=HI.early<|.inr hli;obtain⟨t0,t1,t2,t3,t4,t5,tl⟩:=HTQ.1.below hb';clear Zf HI;refine af rfl fun K HK=>?_;simp only[e5];go_simp;exact HK _ _ ⟨_,by simp[upd, *],hW.put cq cq HCQ.2.2.2.2.2.2.1.symm⟩
        · cases ho;have hW:=HI.out;have e4:=(HI.val 4 cq cq<|Zf ⟨4,.data⟩ ct rfl).trans HCQ.2.2.2.2.1;have e6:=(HI.val 6 cq cq<|Zf ⟨6,.data⟩ ct rfl).trans HCQ.2.2.2.2.2.2.1;have h4:=Zf ⟨4,.data⟩ ct rfl;have h6:=Zf ⟨6,.data⟩ ct rfl;have hb':=HI.before hli;have hown:=aP HOB hb';clear Zf HI;refine af rfl fun K HK=>?_;simp only[e4,e6];go_simp;refine(HWO w' cq (XR hbz hb'.size) hown).mono ?_;rintro e w2 ⟨v',rfl,hown2,has,hbl⟩;exact HK _ _ ⟨v',by simp[upd,e4,e6],hW.call h4 h6 ⟨w',hb',hown2,has,hbl⟩⟩
        · cases ho;have hW:=HI.out;have e0:=(HI.val 0 cq cq<|Zf ⟨0,.data⟩ ct rfl).trans HCQ.1;clear Zf HI;refine af rfl fun K HK=>?_;simp only[e0];go_simp;exact HK _ _ ⟨_,by simp[upd, *],hW.put cq cq HCQ.2.2.2.2.2.2.2.2.1.symm⟩
        · cases ho;have hW:=HI.out;have e8:=(HI.val 8 cq cq<|Zf ⟨8,.data⟩ ct rfl).trans HCQ.2.2.2.2.2.2.2.2.1;have h8:=Zf ⟨8,.data⟩ ct rfl;clear Zf HI;refine af rfl fun K HK=>?_;simp only[e8];go_simp;exact HK _ _ ⟨_,by simp[upd, *],hW.put cq (fun _=>h8) HCQ.2.2.2.2.2.2.2.2.2.symm⟩
      rintro o ho l fr w' hall hI;obtain rfl:=Option.some.inj ho;obtain⟨hval,w1,hb1,hown,has,hbl⟩:=hI.last hall;have e9:=(hval 9 cq cq).trans HCQ.2.2.2.2.2.2.2.2.2;have hDw:=HDQ.below hb1;have hob:=aP HOB hb1
      first|have hDn:=hDw.newO hown has|have hDn:=hDw.newU hown has
      have hTn:=(HTQ.1.below hb1).aside (by obtain⟨cur,e⟩:=HTQ.2;exact⟨cur,(hb1.block _ HTQ.1.2.2.2.2.2.2).trans e⟩) hob has;obtain⟨cur,hkd⟩:=hDw.kind;have hDo:¬_=some D:=fun e=>absurd (fB hob e hkd) cv;have hkd':=(has.block D hDw.lt hDo).trans hkd;have fz:=fun o=>jE hkd' o;have d4:=cell_of (Nk HCL HDQ.lt hb1)<|has.block D hDw.lt hDo;obtain⟨adn,cpn,e7,-⟩:=nI hown;rw[e7]at hown has hDn;obtain⟨wq,hwn,hDn⟩:=hDn.named;replace HTQ:O (yg wq w.heap.size t/\∃cur,wq.heap[w.heap.size]?=some (.cells cur 29 (0,0))):=by
        have hh:wq.heap[w.heap.size]?=w'.heap[w.heap.size]?:=by rw[hwn];exact heap_setCell_other w' _ w.heap.size _ (by show w.heap.size≠D;omega)
        obtain⟨cr,ecr⟩:=hTn.2;exact⟨hTn.1.block hh<|by rw[hwn];simpa using hTn.1.2.2.2.2.2.2,cr,hh.trans ecr⟩
      replace HBQ:O (Below bp w wq):=by
        have b1:Below bp w w1:=HBQ.trans<|hb1.mono cq;have b2:Below bp w w':=b1.trans (hbl bp (fun g hg=>by have:=(hob.lt g hg).1;omega) (by have:=hb1.size;omega));show Below _ _ _;rw[hwn];exact b2.setCell (by show bp<=D;omega) _
      replace HDQ:=aJ hDn;replace hbz:bp+1<=wq.heap.size:=by have:=HDQ.lt;omega
      clear hval;refine af rfl fun K HK=>?_;simp only[e9,e7];go_simp;rw[<-hwn];refine HK _ _ ?_;rw[<-e7]at HDQ ⊢;clear hb1 hown has hbl hDw hDn hTn hkd hkd' hDo fz d4 HK K hI hall ho hwn e9 e7 HCQ HOB HCL HWO hob;obtain⟨vq,hvq⟩:∃y,y=fr 7:=⟨_,rfl⟩;rw[<-hvq]at HDQ ⊢;generalize fr 0=z0,fr 1=z1,fr 2=z2,fr 3=z3,fr 4=z4,fr 5=z5,fr 6=z6,fr 8=z8;clear hvq fr l
      first
        | (clear m1
           go_wp2_with fail;have m2:=trivial;obtain⟨CQ,hCQ⟩:∃C:Nat->Value,C=fun n=>(Value.pointer (some<|am D)::.pointer (some<|am D)::.pointer (some<|am D)::.pointer (some<|ap D 4)::vq::.pointer (some<|a6 w 3)::.agg #[.string t.c,.string t.d]::undef::.pointer (some<|am D)::.pointer (some<|ap D 4)::[]).getD n undef:=⟨_,rfl⟩;have HCQ:=aJ<|VT hCQ;have HOB:=aJ HDQ.objs;have HCL:=aJ HDQ.c4;have HWO:=aJ<|nJ (bp+1) vq (fM xo ⟨t.a,t.b⟩) ⟨t.c,t.d⟩;clear hCQ;refine kU 10 _ _ (G.WI CQ wq<|Q8 bp wq vq<|fM (fM xo ⟨t.a,t.b⟩) ⟨t.c,t.d⟩) cw rfl cw (fun o ho l f w' hI hp=>?_) (H7 [(31,[0,1,2,3,4,5,6,7,8,9])]) (G.wi_start _) ?_ ?_<;>try dsimp only[Et])
        | (clear m2
           obtain⟨t0,t1,t2,t3,t4,t5,tl⟩:=HTQ.1;cases hs:(t.s.toList==([]:List UInt8))
           · have HU:O (dQ xu t=xu):=by show _=_;unfold dQ;rw[hs];rfl
             go_wp2
             go_end0
             exact⟨rfl,⟨_,_,_,by rw[HU];exact HDQ⟩,HBQ⟩
           have HU:O (dQ xu t=fM xu ⟨t.c,t.d⟩):=by show _=_;unfold dQ;rw[hs];rfl
           clear t0 t1 t2 t3 t4 tl;go_wp2_with fail;clear t5 hs;have m3:=trivial;obtain⟨CQ,hCQ⟩:∃C:Nat->Value,C=fun n=>(Value.pointer (some<|am D)::.pointer (some<|am D)::.pointer (some<|am D)::.pointer (some<|ap D 5)::vu::.pointer (some<|a6 w 3)::.agg #[.string t.c,.string t.d]::undef::.pointer (some<|am D)::.pointer (some<|ap D 5)::[]).getD n undef:=⟨_,rfl⟩;have HCQ:=aJ<|VT hCQ;have HOB:=aJ HDQ.users;have HCL:=aJ HDQ.c5;have HWO:=aJ<|nJ (bp+1) vu xu ⟨t.c,t.d⟩;clear hCQ;refine kU 10 _ _ (G.WI CQ wq<|Q8 bp wq vu<|fM xu ⟨t.c,t.d⟩) cw rfl cw (fun o ho l f w' hI hp=>?_) (H7 [(44,[0,1,2,3,4,5,6,7,8,9])]) (G.wi_start _) ?_ ?_<;>try dsimp only[Et])
        | (clear m3
           go_wp2
           go_end0
           exact⟨rfl,⟨_,_,_,by rw[HU];exact HDQ⟩,HBQ⟩)
def Uf(r:RR):List Value:=[.string r.name,r.sl]
abbrev GK (w:World)(br nr:Nat)(Mr:KL->Option Value)(Er:List<|KL×RR):Prop:=G.Grp Io prog 197 39 2 Uf w br nr Mr Er
def I6{w:ag}{br nr:Nat}{Mr:KL->Option Value}{Er:List<|KL×RR}(h:GK w br nr Mr Er){k:KL}{v:Value}(hk:Mr k=some v):∃n xs,w.ownsRow (br+1) 39 2 v n xs:=by
 rcases h.row k with⟨e,-⟩|⟨v',e,ho⟩
 ·rw[e]at hk;cases hk
 rw[e]at hk;injection hk with hk;subst hk;exact⟨_,_,ho⟩
def tV{w:ag}{br nr g:Nat}{Mr:KL->Option Value}{Er:List<|KL×RR}{e:TypeId}{cur:Array Value}(h:GK w br nr Mr Er)(hc:w.heap[g]?=some (.cells cur e (0,0)))(hne:(39:TypeId)≠e):G.FreeB Mr g:=fun k v hk hg=>by
 obtain⟨n,xs,ho⟩:=I6 h hk;exact hne<|fB ho hg hc
def I7{w:ag}{br nr g:Nat}{Mr:KL->Option Value}{Er:List<|KL×RR}{es:Array MapEntry}{c:Nat}(h:GK w br nr Mr Er)(hc:w.heap[g]?=some (.map es c)):G.FreeB Mr g:=fun k v hk hg=>by
 obtain⟨n,xs,ho⟩:=I6 h hk;exact GJ ho hg hc
def fC{K:Type}{enc:K->Value}{P:Program}{kt:TypeId}{w:ag}{b n:Nat}{M:K->Option Value}(h:aL enc P kt w b n M):∃es c,w.heap[b]?=some (.map es c):=by
 obtain⟨D,⟨es,c,hb,-⟩,-⟩:=h;exact⟨es,c,hb⟩
structure DatA(w:World)(rs:Q06)(D br bp bt:Nat)(n1:Int)(nr:Nat)(Mr:KL->Option Value)(Er:List<|KL×RR)(E:List<|K3×Tp)(xo xu:Q0a)(np:Nat)(Mp:K3->Option Value)(vo vu:Value):Prop where
 dat:DatT w D br bp (.map<|some bt) n1 E xo xu np Mp vo vu
 tab:aL eD prog 146 w bt 36 (qD rs)
 rel:GK w br nr Mr Er
 ord:bt<br/\br<bp
section
variable  {w w':World}{rs:Q06}{D br bp bt:Nat}{n1:Int}{nr:Nat}{Mr:KL->Option Value}{Er:List (KL×RR)}{E:List (K3×Tp)}{xo xu:Q0a}{np:Nat}{Mp:K3->Option Value}{vo vu:Value}
def DatA.below(h:DatA w rs D br bp bt n1 nr Mr Er E xo xu np Mp vo vu)(hb:ae w w'):DatA w' rs D br bp bt n1 nr Mr Er E xo xu np Mp vo vu:=⟨h.dat.below hb,h.tab.below hb,h.rel.below hb,h.ord⟩
def DatA.tell(h:DatA w rs D br bp bt n1 0 (fun _=>none) [] E xo xu np Mp vo vu){E':List<|K3×Tp}{xo' xu':Q0a}{np':Nat}{Mp':K3->Option Value}{vo' vu':Value}(hd:DatT w' D br bp (.map<|some bt) n1 E' xo' xu' np' Mp' vo' vu')(hb:Below bp w w'):DatA w' rs D br bp bt n1 0 (fun _=>none) [] E' xo' xu' np' Mp' vo' vu':=by
 obtain⟨h1,h2⟩:=h.ord;exact⟨hd,h.tab.of_block<|hb.block bt cq,⟨h.rel.map.of_block<|hb.block br cq,fun k=>.inl ⟨rfl,rfl⟩,fun k k' v v' _ e=>by cases e⟩,h.ord⟩
def DatA.list(h:DatA w rs D br bp bt n1 nr Mr Er E xo xu np Mp vo vu){nr':Nat}{Mr':KL->Option Value}{Er':List<|KL×RR}(hg:GK w' br nr' Mr' Er')(hs:G.Stl w Mr w' Mr' br):DatA w' rs D br bp bt n1 nr' Mr' Er' E xo xu np Mp vo vu:=by
 obtain⟨h1,h2⟩:=h.ord;have hgt:=h.dat.gt;have hlt:=h.dat.lt;obtain⟨cur,hk⟩:=h.dat.kind;have hD:w'.heap[D]?=w.heap[D]?:=hs.block D hlt cq<|tV h.rel hk cv;have hc:∀o,w'.cell? (ap D o)=w.cell? (ap D o):=fun o=>Yf (w:=w) (a:=⟨D,o,none⟩) hD;have hO:∀{v:Value} {n:Nat} {xs:Q03},w.ownsRow (bp+1) 27 2 v n xs->w'.ownsRow (bp+1) 27 2 v n xs:=fun {v n xs} ho=>bY ho fun g hg=>by
  obtain⟨cr,e⟩:=fG ho hg;have:=ho.lt g hg;exact hs.block g this.2 cq<|tV h.rel e cv
 obtain⟨es,c,eb⟩:=fC h.dat.told.map;obtain⟨es2,c2,eb2⟩:=fC h.tab;refine⟨⟨hgt,XJ hlt hs.size,⟨cur,hD.trans hk⟩,(hc _).trans h.dat.c0,(hc _).trans h.dat.c1,(hc _).trans h.dat.c2,(hc _).trans h.dat.c3,(hc _).trans h.dat.c4,(hc _).trans h.dat.c5,xg h.dat.told ?_ ?_,hO h.dat.objs,hO h.dat.users,h.dat.apart⟩,h.tab.of_block ?_,hg,h.ord⟩
 ·exact hs.block bp cq cq<|I7 h.rel eb
 ·intro k v g hm hg2;obtain⟨n,xs,ho⟩:=xe h.dat.told hm;obtain⟨cr,e⟩:=fG ho hg2;have:=ho.lt g hg2;exact hs.block g this.2 cq<|tV h.rel e cv
 exact hs.block bt cq cq<|I7 h.rel eb2
def DatA.count(h:DatA w rs D br bp bt n1 nr Mr Er E xo xu np Mp vo vu)(n2:Int):DatA (w.setCell (ap D 1)<|.int .i64 n2) rs D br bp bt n2 nr Mr Er E xo xu np Mp vo vu:=by
 obtain⟨h1,h2⟩:=h.ord;have hgt:=h.dat.gt;obtain⟨cur,hk⟩:=h.dat.kind;have hne:∀g,g≠D->(w.setCell (ap D 1)<|.int .i64 n2).heap[g]?=w.heap[g]?:=fun g e=>heap_setCell_other w ⟨D,1,none⟩ g _ e;have hc2:∀o,o≠1->(w.setCell (ap D 1)<|.int .i64 n2).cell? (ap D o)=w.cell? (ap D o):=fun o ne=>l7 cq;have hO:∀{v:Value} {n:Nat} {xs:Q03},w.ownsRow (bp+1) 27 2 v n xs->(w.setCell (ap D 1)<|.int .i64 n2).ownsRow (bp+1) 27 2 v n xs:=fun {v n xs} ho=>bY ho fun g hg=>hne g fun e=>absurd (fB ho (e ▸ hg) hk) cv;refine⟨⟨hgt,by simpa using h.dat.lt,⟨_,heap_setCell_same w D 1 cur _ _ hk⟩,(hc2 0 cq).trans h.dat.c0,QR h.dat.c1,(hc2 2 cq).trans h.dat.c2,(hc2 3 cq).trans h.dat.c3,(hc2 4 cq).trans h.dat.c4,(hc2 5 cq).trans h.dat.c5,xg h.dat.told (hne bp cq) ?_,hO h.dat.objs,hO h.dat.users,h.dat.apart⟩,h.tab.of_block<|hne bt cq,⟨h.rel.map.of_block<|hne br cq,fun k=>?_,h.rel.apart⟩,h.ord⟩
 ·intro k v g hm hg2;obtain⟨n,xs,ho⟩:=xe h.dat.told hm;exact hne g fun e=>absurd (fB ho (e ▸ hg2) hk) cv
 rcases h.rel.row k with e|⟨v,e,ho⟩
 ·exact .inl e
 exact .inr ⟨v,e,bY ho fun g hg=>hne g fun e2=>absurd (fB ho (e2 ▸ hg) hk) cv⟩
end
end Go.Proofs.YtojjoblnpldniaaGreat
