/- Contract of the document's function on strata. -/
import Derived.Test.YtajkkeikihhejaaGreatSq
import Derived.Test.YtajkkeikihhejaaGreatSpecSchema8
import Derived.Test.YtajkkeikihhejaaGreatJ8
open Go.Proofs.Tryz
set_option maxHeartbeats 80000000
namespace Go.Proofs.YtajkkeikihhejaaGreat
open Go.ChangeShapes Go.WideShapes Go.ChangeAt Go.RowKit
open Pl
def St.cells (s:St):List Value:=[.string s.typ,.string s.rel,.int .i64 s.n]
def iG:List St→List Value
 | []=>[]
 | s::xs=>s.cells ++ iG xs
theorem Ee (xs ys:List St):iG (xs ++ ys)=iG xs ++ iG ys:=by
 induction xs with
 | nil=>rfl
 | cons d ds ih=>simp [iG,ih]
theorem zD (xs:List St) (d:St):iG (xs ++ [d])=iG xs ++ d.cells:=by rw [Ee]; simp [iG]
theorem lq (xs:List St) (i:Nat) (h:i < xs.length) (o:Nat) (ho:o < 3):(iG xs)[i * 3 + o]?=(xs[i].cells)[o]?:=by
 induction xs generalizing i with
 | nil=>simp at h
 | cons s xs ih =>
  cases i with
  | zero =>
   simp only [iG,Nat.zero_mul,Um,List.getElem_cons_zero];rw [List.getElem?_append_left (by simp [St.cells]; omega)]
  | succ i =>
   simp only [iG,List.getElem_cons_succ];rw [List.getElem?_append_right (by simp [St.cells]; omega)];have e:(i + 1) * 3 + o - s.cells.length=i * 3 + o:=by simp [St.cells]; omega
   rw [e];exact ih i (by simpa using h)
theorem wB (xs:List Dp) (i:Nat) (h:i < xs.length) (o:Nat) (ho:o < 3):(eu xs)[i * 3 + o]?=(xs[i].cells)[o]?:=by
 induction xs generalizing i with
 | nil=>simp at h
 | cons s xs ih =>
  cases i with
  | zero =>
   simp only [eu,Nat.zero_mul,Um,List.getElem_cons_zero];rw [List.getElem?_append_left (by simp [Dp.cells]; omega)]
  | succ i =>
   simp only [eu,List.getElem_cons_succ];rw [List.getElem?_append_right (by simp [Dp.cells]; omega)];have e:(i + 1) * 3 + o - s.cells.length=i * 3 + o:=by simp [Dp.cells]; omega
   rw [e];exact ih i (by simpa using h)
theorem FP (g j:Nat):(⟨g,0,none⟩:Addr).add j=⟨g,j,none⟩:=by
 unfold Addr.add;by_cases hj:j=0
 ·subst hj; simp
 simp [hj]
theorem Qq {w:af} {base:Nat} {t:TypeId} {v:Value} {n:Nat} {xs:List Value} (h:w.ownsRow base t 3 v n xs):∃ ad cp,v=.slice ad n cp∧(n=0 ∨ ∃ g,ad=some ⟨g,0,none⟩∧base≤g∧g < w.heap.size∧∀ (j:Nat) (u:Value),xs[j]?=some u→w.cell? ⟨g,j,none⟩=some u):=by
 have h2:=h;rcases h.2 with ⟨rfl,h0⟩ | ⟨g,cp,cur,rfl,hbg,hg,hnc,-⟩
 ·exact ⟨none,0,by rw [h0],.inl h0⟩
 have hlt:=h2.lt g rfl;refine ⟨_,cp,rfl,.inr ⟨g,rfl,hlt.1,hlt.2,fun j u hu=>?_⟩⟩;have:=h2.cells (g:=g) rfl j u hu;rwa [FP] at this
def AtD (w:World) (b off:Nat) (d:Dp):Prop:=w.cell? ⟨b,off,none⟩=some (.string d.typ)∧w.cell? ⟨b,off + 1,none⟩=some (.string d.rel)∧w.cell? ⟨b,off + 2,none⟩=some (.bool d.neg)
def Rs (w:World) (lo:Nat) (ad:Option Addr) (xs:List Dp):Prop:=xs=[] ∨ ∃ b,ad=some ⟨b,0,none⟩∧lo≤b∧b < w.heap.size∧∀ (i:Nat) (h:i < xs.length),AtD w b (i * 3) xs[i]
theorem Tn {w:af} {base:Nat} {v:Value} {xs:List Dp} (h:w.ownsRow base 220 3 v xs.length (eu xs)):∃ ad cp,v=.slice ad xs.length cp∧Rs w base ad xs:=by
 obtain ⟨ad,cp,e,h0⟩:=Qq h;refine ⟨ad,cp,e,?_⟩;rcases h0 with h0 | ⟨g,e1,hb,hg,hc⟩
 ·exact .inl (Ui.1 h0)
 refine .inr ⟨g,e1,hb,hg,fun i hi=>⟨?_,?_,?_⟩⟩
 ·exact hc _ _ (by have:=wB xs i hi 0 (by omega); simpa [Dp.cells] using this)
 ·exact hc _ _ (by have:=wB xs i hi 1 (by omega); simpa [Dp.cells] using this)
 exact hc _ _ (by have:=wB xs i hi 2 (by omega); simpa [Dp.cells] using this)
def TF (w:World) (g:Nat) (xs:List St):Prop:=∀ (i:Nat) (h:i < xs.length),S9 w g (i * 3) xs[i]
theorem Tq {w:af} {base:Nat} {v:Value} {xs:List St} (h:w.ownsRow base 162 3 v xs.length (iG xs)):∃ ad cp,v=.slice ad xs.length cp∧(xs.length=0 ∨ ∃ g,ad=some ⟨g,0,none⟩∧base≤g∧g < w.heap.size∧TF w g xs):=by
 obtain ⟨ad,cp,e,h0⟩:=Qq h;refine ⟨ad,cp,e,?_⟩;rcases h0 with h0 | ⟨g,e1,hb,hg,hc⟩
 ·exact .inl h0
 refine .inr ⟨g,e1,hb,hg,fun i hi=>⟨?_,?_,?_⟩⟩
 ·exact hc _ _ (by have:=lq xs i hi 0 (by omega); simpa [St.cells] using this)
 ·exact hc _ _ (by have:=lq xs i hi 1 (by omega); simpa [St.cells] using this)
 exact hc _ _ (by have:=lq xs i hi 2 (by omega); simpa [St.cells] using this)
theorem Qr:(prog.info? 162).map (fun i=>(i.zero,i.size,i.bytes))=some (some (.agg #[.string ⟨#[]⟩,.string ⟨#[]⟩,.int .i64 0]),3,40):=by kernel_rfl
def FQ (ks:List (ByteArray × ByteArray)):List St:=ks.map fun k=>⟨k.1,k.2,0⟩
theorem Ef (ks:List (ByteArray × ByteArray)):(FQ ks).length=ks.length:=by simp [FQ]
theorem Oa (ks:List (ByteArray × ByteArray)) (k:ByteArray × ByteArray):FQ (ks ++ [k])=FQ ks ++ [⟨k.1,k.2,0⟩]:=by simp [FQ]
def dA (rs:List TR) (k:Nat):List (ByteArray × ByteArray):=ak (ae (rs.take k))
def iV (t:TR) (j:Nat):List (ByteArray × ByteArray):=(t.rows.take j).map fun q=>(t.name,q.name)
theorem o6 (rs:List TR) (k:Nat) (h:k < rs.length):dA rs (k + 1)=dA rs k ++ iV rs[k] rs[k].rows.length:=by
 unfold dA iV;rw [TV h,Ug];unfold ae ak;rw [List.map_append,List.flatMap_append,List.map_singleton,List.flatMap_singleton];congr 1;simp [jF,TR.p,eD,RR.p]
theorem tC (t:TR) (j:Nat) (h:j < t.rows.length):iV t (j + 1)=iV t j ++ [(t.name,t.rows[j].name)]:=by
 unfold iV;rw [TV h,List.map_append]; rfl
theorem Cz (t:TR) (j:Nat):(iV t j).length≤t.rows.length:=by unfold iV; simp; omega
theorem wC (rs:List TR) (hr:∀ r ∈ rs,r.rows.length≤6) (k:Nat):(dA rs k).length≤k * 6:=by
 induction k with
 | zero=>simp [dA,ae,ak]
 | succ k ih =>
  by_cases h:k < rs.length
  ·rw [o6 _ _ h,T9];have h1:=Cz rs[k] rs[k].rows.length;have h2:=hr rs[k] (TQ h);omega
  have e:rs.take (k + 1)=rs.take k:=by rw [List.take_of_length_le (by omega),List.take_of_length_le (by omega)]
  unfold dA at ih ⊢;rw [e]; omega
open Go.Maps
def RR.sl (q:RR):Value:=.slice q.ad q.rows.length q.cap
def kN (t:ByteArray) (M:ByteArray × ByteArray→Option Value):List RR→ByteArray × ByteArray→Option Value
 | []=>M
 | q::qs=>kN t (kY M (t,q.name) (some q.sl)) qs
def eF (M:ByteArray × ByteArray→Option Value):List TR→ByteArray × ByteArray→Option Value
 | []=>M
 | t::ts=>eF (kN t.name M t.rows) ts
def nW (rs:List TR):ByteArray × ByteArray→Option Value:=eF (fun _=>none) rs
theorem Eg (t:bF) (M:ByteArray × ByteArray→Option Value) (xs ys:List RR):kN t M (xs ++ ys)=kN t (kN t M xs) ys:=by
 induction xs generalizing M with
 | nil=>rfl
 | cons q qs ih=>simp only [List.cons_append,kN]; exact ih _
theorem zF (M:ByteArray × ByteArray→Option Value) (xs ys:List TR):eF M (xs ++ ys)=eF (eF M xs) ys:=by
 induction xs generalizing M with
 | nil=>rfl
 | cons q qs ih=>simp only [List.cons_append,eF]; exact ih _
theorem Ip (t:bF) (M:ByteArray × ByteArray→Option Value) (qs:List RR) (j:Nat) (h:j < qs.length):kN t M (qs.take (j + 1))=kY (kN t M (qs.take j)) (t,qs[j].name) (some qs[j].sl):=by
 rw [TV h,Eg]; rfl
theorem Eh (M:ByteArray × ByteArray→Option Value) (rs:List TR) (k:Nat) (h:k < rs.length):eF M (rs.take (k + 1))=kN rs[k].name (eF M (rs.take k)) rs[k].rows:=by
 rw [TV h,zF]; rfl
set_option maxRecDepth 100000 in
theorem qF (ad:Option Addr) (cap:Nat) (rs:List TR) (w:af) (hlen:rs.length≤6) (hs:kW w ad rs) (hrl:∀ r ∈ rs,r.rows.length≤6) (hf:∀ r ∈ rs,r.fits) :
  Calls prog 53 #[.slice ad rs.length cap] w fun e w'=>e=.returned (.map (some w.heap.size))∧aM dQ prog 94 w' w.heap.size 36 (nW rs)∧ag w w':=by
 have HS:=az hs;have Yx:Hid (∀ r ∈ rs,r.rows.length≤6):=hrl;have UL:=az hf;have HM0:Hid (aM dQ prog 94 (w.alloc (.map #[] 0)) w.heap.size 0 (fun _=>none)):=nM _ _ _ w;have HB0:Hid (ag w (w.alloc (.map #[] 0))):=(TT _ _).alloc (TS _) _;clear hs hrl hf;have hmm:=@run_makeMap prog;go_enter func53,ntmps53;go_wp2_with fail;go_loopw [11] (fun i wr=>∃ k:Nat,k≤rs.length∧i=.int .i64 k∧Hid (aM dQ prog 94 wr w.heap.size (k * 6) (eF (fun _=>none) (rs.take k)))∧Hid (ag w wr)) (fun i _=>rs.length - (intOf i).toNat);case atStart=>exact ⟨0,TW _,rfl,HM0,HB0⟩
 clear HM0 HB0 hmm;obtain ⟨k,hk,rfl,HM,HB⟩:=hrel;by_cases hlt:k < rs.length
 ·rcases HS.out.below HB.out with rfl | ⟨b,off,rfl,hb,hr,hok⟩
  ·simp at hlt
  obtain ⟨t0,t1⟩:=hr k hlt;have hk1:=bB k;have hk2:(k:Int) < (rs.length:Int):=by omega
  have h6:rs[k].rows.length≤6:=Yx.out _ (TQ hlt);have z0:rs[k].name.size≤maxLen:=(UL.out _ (TQ hlt)).1;have WK:Hid (∀ q ∈ rs[k].rows,q.fits):=(UL.out _ (TQ hlt)).2.2;clear hr hok;obtain ⟨W1,hW1⟩:∃ W1,W1=wr.alloc (.cells #[.string rs[k].name,.slice rs[k].ad rs[k].rows.length rs[k].cap] 127):=⟨_,rfl⟩;have hal:ag wr W1:=by rw [hW1]; exact (TT _ _).alloc (TS _) _
  have Xq:Hid (aM dQ prog 94 W1 w.heap.size (k * 6) (eF (fun _=>none) (rs.take k))):=HM.out.below hal;have HB1:=jP HB hal;have VE:Hid (wr.heap.size < W1.heap.size∧W1.cell? ⟨wr.heap.size,0,none⟩=some (.string rs[k].name)):=⟨by rw [hW1]; simp,by rw [hW1]; simp⟩;have hgw:w.heap.size < wr.heap.size:=HM.out.lt;clear HM hal;go_wp2_with fail;rw [← hW1];clear hW1 t0 t1 HB;obtain ⟨wo,hwo⟩:∃ wo,wo=wr:=⟨_,rfl⟩;subst hwo;go_loopw [18] (fun i w2=>∃ j:Nat,j≤rs[k].rows.length∧i=.int .i64 j∧Hid (aM dQ prog 94 w2 w.heap.size (k * 6 + j) (kN rs[k].name (eF (fun _=>none) (rs.take k)) (rs[k].rows.take j)))∧Hid (ag w w2)∧Hid (wo.heap.size < w2.heap.size∧w2.cell? ⟨wo.heap.size,0,none⟩=some (.string rs[k].name))) (fun i _=>rs[k].rows.length - (intOf i).toNat);case atStart=>exact ⟨0,TW _,rfl,Xq,HB1,VE⟩
  clear Xq HB1 VE;obtain ⟨j,hj,rfl,HM,HB,HC⟩:=hrel;by_cases hjl:j < rs[k].rows.length
  ·rcases HS.out.below HB.out with hnil | ⟨b',off',he,hb2,hr,hok⟩
   ·rw [hnil] at hlt; simp at hlt
   injection he with he; injection he with he1 he2; subst he1; subst he2;have ok:=hok rs[k] (TQ hlt);rcases ok with hnil | ⟨b2,UZ,had,hbb,hr2,-⟩
   ·rw [hnil] at hjl; simp at hjl
   obtain ⟨q0,q1⟩:=hr2 j hjl;have z1:rs[k].rows[j].name.size≤maxLen:=(WK.out _ (TQ hjl)).1;have hj1:=bB j;have hj2:(j:Int) < (rs[k].rows.length:Int):=by omega
   obtain ⟨kl,hkl⟩:=jy (rs[k].name,rs[k].rows[j].name) z0 z1;have Vl:Hid (keyOf prog 94 (dQ (rs[k].name,rs[k].rows[j].name))=some kl):=hkl;obtain ⟨W2,hW2⟩:∃ W2,W2=wr.alloc (.cells #[.string rs[k].rows[j].name,.slice rs[k].rows[j].ad rs[k].rows[j].rows.length rs[k].rows[j].cap] 147):=⟨_,rfl⟩;have hal:ag wr W2:=by rw [hW2]; exact (TT _ _).alloc (TS _) _
   have Vd:Hid (aM dQ prog 94 W2 w.heap.size (k * 6 + j) (kN rs[k].name (eF (fun _=>none) (rs.take k)) (rs[k].rows.take j))):=HM.out.below hal;have HB2:=jP HB hal;have hc1:=aG hal HC.out.1 HC.out.2;have U9:Hid (wo.heap.size < W2.heap.size∧W2.cell? ⟨wo.heap.size,0,none⟩=some (.string rs[k].name)):=⟨TP HC.out.1 hal.size,hc1⟩;have g0:W2.cell? ⟨wr.heap.size,0,none⟩=some (.string rs[k].rows[j].name):=by rw [hW2]; simp
   have g1:W2.cell? ⟨wr.heap.size,1,none⟩=some (.slice rs[k].rows[j].ad rs[k].rows[j].rows.length rs[k].rows[j].cap):=by rw [hW2]; simp
   have hsz:wo.heap.size < wr.heap.size:=HC.out.1;have hc0:=HC.out.2;rw [had];clear hr hok hr2 hkl HM hal HC;go_wp2_with (first | (at_mapUpdate; rw [← hW2]; refine nC _ rfl _ _ _ 91 rfl 94 33 ib ut underlying91 w.heap.size (k * 6 + j) _ rfl Vd.out (by unfold maxLen; omega) (rs[k].name,rs[k].rows[j].name) kl rfl Vl.out _ rfl ?_; intro w3 hV3 hg3) | go_in);have HM4:Hid (aM dQ prog 94 w3 w.heap.size (k * 6 + (j + 1)) (kN rs[k].name (eF (fun _=>none) (rs.take k)) (rs[k].rows.take (j + 1)))):=by
    show aM _ _ _ _ _ _ _;rw [Ip _ _ _ _ hjl]; exact hV3
   have Vi:Hid (ag w w3):=HB2.out.grown hg3 HB2.out.size (fun i hi=>by injection hi with hi; omega);have HC4:Hid (wo.heap.size < w3.heap.size∧w3.cell? ⟨wo.heap.size,0,none⟩=some (.string rs[k].name)):=⟨TP U9.out.1 hg3.size,by rw [hg3.cell_far _ U9.out.1 (by simp; omega)]; exact U9.out.2⟩;clear hV3 hg3 hW2 Vd HB2 U9 g0 g1 q0 q1 hc0 hc1;go_wp2;go_roundw;case rel=>exact ⟨j + 1,by omega,by go_num,HM4,Vi,HC4⟩
   simp [intOf] <;> omega
  obtain rfl:j=rs[k].rows.length:=by omega
  have HM4:Hid (aM dQ prog 94 wr w.heap.size ((k + 1) * 6) (eF (fun _=>none) (rs.take (k + 1)))):=by
   show aM _ _ _ _ _ _ _;have:=HM.out;rw [Ug] at this;rw [Eh _ _ _ hlt]; exact this.mono (by omega)
  clear HM;go_wp2;go_roundw;case rel=>exact ⟨k + 1,by omega,by go_num,HM4,HB⟩
  simp [intOf] <;> omega
 obtain rfl:k=rs.length:=by omega
 have HM4:Hid (aM dQ prog 94 wr w.heap.size 36 (nW rs)):=by
  show aM _ _ _ _ _ _ _;have:=HM.out;rw [Ug] at this;exact this.mono (by omega)
 go_wp2;go_ret;exact ⟨rfl,HM4.out,HB.out⟩
end Go.Proofs.YtajkkeikihhejaaGreat
