/- Contract of the document's function on strata. -/
import Derived.Test.YtdaoiceeidoehaaGreatTell
open Go.Proofs.Tryz
set_option maxHeartbeats 80000000
namespace Go.Proofs.YtdaoiceeidoehaaGreat
open Go.ChangeShapes Go.WideShapes Go.ChangeAt Go.RowKit
open Pl
def St.cells (s:St):List Value:=[.string s.typ,.string s.rel,.int .i64 s.n]
def gV:List St→List Value
 | []=>[]
 | s::xs=>s.cells ++ gV xs
theorem Cw (xs ys:List St):gV (xs ++ ys)=gV xs ++ gV ys:=by
 induction xs with
 | nil=>rfl
 | cons d ds ih=>simp [gV,ih]
theorem yt (xs:List St) (d:St):gV (xs ++ [d])=gV xs ++ d.cells:=by rw [Cw]; simp [gV]
theorem gM (xs:List St) (i:Nat) (h:i < xs.length) (o:Nat) (ho:o < 3):(gV xs)[i * 3 + o]?=(xs[i].cells)[o]?:=by
 induction xs generalizing i with
 | nil=>simp at h
 | cons s xs ih =>
  cases i with
  | zero =>
   simp only [gV,Nat.zero_mul,Su,List.getElem_cons_zero];rw [List.getElem?_append_left (by simp [St.cells]; omega)]
  | succ i =>
   simp only [gV,List.getElem_cons_succ];rw [List.getElem?_append_right (by simp [St.cells]; omega)];have e:(i + 1) * 3 + o - s.cells.length=i * 3 + o:=by simp [St.cells]; omega
   rw [e];exact ih i (by simpa using h)
theorem tO (xs:List Dp) (i:Nat) (h:i < xs.length) (o:Nat) (ho:o < 3):(dP xs)[i * 3 + o]?=(xs[i].cells)[o]?:=by
 induction xs generalizing i with
 | nil=>simp at h
 | cons s xs ih =>
  cases i with
  | zero =>
   simp only [dP,Nat.zero_mul,Su,List.getElem_cons_zero];rw [List.getElem?_append_left (by simp [Dp.cells]; omega)]
  | succ i =>
   simp only [dP,List.getElem_cons_succ];rw [List.getElem?_append_right (by simp [Dp.cells]; omega)];have e:(i + 1) * 3 + o - s.cells.length=i * 3 + o:=by simp [Dp.cells]; omega
   rw [e];exact ih i (by simpa using h)
theorem ED (g j:Nat):(⟨g,0,none⟩:Addr).add j=⟨g,j,none⟩:=by
 unfold Addr.add;by_cases hj:j=0
 ·subst hj; simp
 ·simp [hj]
theorem MM {w:World} {base:Nat} {t:TypeId} {v:Value} {n:Nat} {xs:List Value} (h:w.ownsRow base t 3 v n xs):∃ ad cp,v=.slice ad n cp∧(n=0 ∨ ∃ g,ad=some ⟨g,0,none⟩∧base≤g∧g < w.heap.size∧∀ (j:Nat) (u:Value),xs[j]?=some u→w.cell? ⟨g,j,none⟩=some u):=by
 have h2:=h;rcases h.2 with ⟨rfl,h0⟩ | ⟨g,cp,cur,rfl,hbg,hg,hnc,-⟩
 ·exact ⟨none,0,by rw [h0],.inl h0⟩
 ·have hlt:=h2.lt g rfl;refine ⟨_,cp,rfl,.inr ⟨g,rfl,hlt.1,hlt.2,fun j u hu=>?_⟩⟩;have:=h2.cells (g:=g) rfl j u hu;rwa [ED] at this
def AtD (w:World) (b off:Nat) (d:Dp):Prop:=w.cell? ⟨b,off,none⟩=some (.string d.typ)∧w.cell? ⟨b,off + 1,none⟩=some (.string d.rel)∧w.cell? ⟨b,off + 2,none⟩=some (.bool d.neg)
def Qa (w:World) (lo:Nat) (ad:Option Addr) (xs:List Dp):Prop:=xs=[] ∨ ∃ b,ad=some ⟨b,0,none⟩∧lo≤b∧b < w.heap.size∧∀ (i:Nat) (h:i < xs.length),AtD w b (i * 3) xs[i]
theorem Ri {w:World} {base:Nat} {v:Value} {xs:List Dp} (h:w.ownsRow base 171 3 v xs.length (dP xs)):∃ ad cp,v=.slice ad xs.length cp∧Qa w base ad xs:=by
 obtain ⟨ad,cp,e,h0⟩:=MM h;refine ⟨ad,cp,e,?_⟩;rcases h0 with h0 | ⟨g,e1,hb,hg,hc⟩
 ·exact .inl (Si.1 h0)
 ·refine .inr ⟨g,e1,hb,hg,fun i hi=>⟨?_,?_,?_⟩⟩
  ·exact hc _ _ (by have:=tO xs i hi 0 (by omega); simpa [Dp.cells] using this)
  ·exact hc _ _ (by have:=tO xs i hi 1 (by omega); simpa [Dp.cells] using this)
  ·exact hc _ _ (by have:=tO xs i hi 2 (by omega); simpa [Dp.cells] using this)
def RO (w:World) (g:Nat) (xs:List St):Prop:=∀ (i:Nat) (h:i < xs.length),Q4 w g (i * 3) xs[i]
theorem Rj {w:World} {base:Nat} {v:Value} {xs:List St} (h:w.ownsRow base 114 3 v xs.length (gV xs)):∃ ad cp,v=.slice ad xs.length cp∧(xs.length=0 ∨ ∃ g,ad=some ⟨g,0,none⟩∧base≤g∧g < w.heap.size∧RO w g xs):=by
 obtain ⟨ad,cp,e,h0⟩:=MM h;refine ⟨ad,cp,e,?_⟩;rcases h0 with h0 | ⟨g,e1,hb,hg,hc⟩
 ·exact .inl h0
 ·refine .inr ⟨g,e1,hb,hg,fun i hi=>⟨?_,?_,?_⟩⟩
  ·exact hc _ _ (by have:=gM xs i hi 0 (by omega); simpa [St.cells] using this)
  ·exact hc _ _ (by have:=gM xs i hi 1 (by omega); simpa [St.cells] using this)
  ·exact hc _ _ (by have:=gM xs i hi 2 (by omega); simpa [St.cells] using this)
theorem OV:(prog.info? 114).map (fun i=>(i.zero,i.size,i.bytes))=some (some (.agg #[.string ⟨#[]⟩,.string ⟨#[]⟩,.int .i64 0]),3,40):=by kernel_rfl
def EE (ks:List (ByteArray × ByteArray)):List St:=ks.map fun k=>⟨k.1,k.2,0⟩
theorem Cx (ks:List (ByteArray × ByteArray)):(EE ks).length=ks.length:=by simp [EE]
theorem MN (ks:List (ByteArray × ByteArray)) (k:ByteArray × ByteArray):EE (ks ++ [k])=EE ks ++ [⟨k.1,k.2,0⟩]:=by simp [EE]
def di (rs:List TR) (k:Nat):List (ByteArray × ByteArray):=ai (ae (rs.take k))
def iq (t:TR) (j:Nat):List (ByteArray × ByteArray):=(t.rows.take j).map fun q=>(t.name,q.name)
theorem mI (rs:List TR) (k:Nat) (h:k < rs.length):di rs (k + 1)=di rs k ++ iq rs[k] rs[k].rows.length:=by
 unfold di iq;rw [R5 h,Sc];unfold ae ai;rw [List.map_append,List.flatMap_append,List.map_singleton,List.flatMap_singleton];congr 1;simp [iB,TR.p,dz,RR.p]
theorem qK (t:TR) (j:Nat) (h:j < t.rows.length):iq t (j + 1)=iq t j ++ [(t.name,t.rows[j].name)]:=by
 unfold iq;rw [R5 h,List.map_append]; rfl
theorem A8 (t:TR) (j:Nat):(iq t j).length≤t.rows.length:=by unfold iq; simp; omega
theorem tQ (rs:List TR) (hr:∀ r ∈ rs,r.rows.length≤6) (k:Nat):(di rs k).length≤k * 6:=by
 induction k with
 | zero=>simp [di,ae,ai]
 | succ k ih =>
  by_cases h:k < rs.length
  ·rw [mI _ _ h,R9];have h1:=A8 rs[k] rs[k].rows.length;have h2:=hr rs[k] (RY h);omega
  ·have e:rs.take (k + 1)=rs.take k:=by rw [List.take_of_length_le (by omega),List.take_of_length_le (by omega)]
   unfold di at ih ⊢;rw [e]; omega
open Go.Maps
def RR.sl (q:RR):Value:=.slice q.ad q.rows.length q.cap
def jR (t:ByteArray) (M:ByteArray × ByteArray→Option Value):List RR→ByteArray × ByteArray→Option Value
 | []=>M
 | q::qs=>jR t (fw M (t,q.name) (some q.sl)) qs
def dW (M:ByteArray × ByteArray→Option Value):List TR→ByteArray × ByteArray→Option Value
 | []=>M
 | t::ts=>dW (jR t.name M t.rows) ts
def mJ (rs:List TR):ByteArray × ByteArray→Option Value:=dW (fun _=>none) rs
theorem Cy (t:ByteArray) (M:ByteArray × ByteArray→Option Value) (xs ys:List RR):jR t M (xs ++ ys)=jR t (jR t M xs) ys:=by
 induction xs generalizing M with
 | nil=>rfl
 | cons q qs ih=>simp only [List.cons_append,jR]; exact ih _
theorem yu (M:ByteArray × ByteArray→Option Value) (xs ys:List TR):dW M (xs ++ ys)=dW (dW M xs) ys:=by
 induction xs generalizing M with
 | nil=>rfl
 | cons q qs ih=>simp only [List.cons_append,dW]; exact ih _
theorem GK (t:ByteArray) (M:ByteArray × ByteArray→Option Value) (qs:List RR) (j:Nat) (h:j < qs.length):jR t M (qs.take (j + 1))=fw (jR t M (qs.take j)) (t,qs[j].name) (some qs[j].sl):=by
 rw [R5 h,Cy]; rfl
theorem Cz (M:ByteArray × ByteArray→Option Value) (rs:List TR) (k:Nat) (h:k < rs.length):dW M (rs.take (k + 1))=jR rs[k].name (dW M (rs.take k)) rs[k].rows:=by
 rw [R5 h,yu]; rfl
set_option maxRecDepth 100000 in
theorem vz (ad:Option Addr) (cap:Nat) (rs:List TR) (w:World) (hlen:rs.length≤6) (hs:jd w ad rs) (hrl:∀ r ∈ rs,r.rows.length≤6) (hf:∀ r ∈ rs,r.fits) :
  Calls prog 89 #[.slice ad rs.length cap] w fun e w'=>e=.returned (.map (some w.heap.size))∧aD dJ prog 130 w' w.heap.size 36 (mJ rs)∧Below w.heap.size w w':=by
 have HS:=aC hs;have XG:Hid (∀ r ∈ rs,r.rows.length≤6):=hrl;have Tj:=aC hf;have HM0:Hid (aD dJ prog 130 (w.alloc (.map #[] 0)) w.heap.size 0 (fun _=>none)):=jl _ _ _ w;have HB0:Hid (Below w.heap.size w (w.alloc (.map #[] 0))):=(R3 _ _).alloc (R4 _) _;clear hs hrl hf;have hmm:=@run_makeMap prog;go_enter func89,ntmps89;go_wp2_with fail;go_loopw [11] (fun i wr=>∃ k:Nat,k≤rs.length∧i=.int .i64 k∧Hid (aD dJ prog 130 wr w.heap.size (k * 6) (dW (fun _=>none) (rs.take k)))∧Hid (Below w.heap.size w wr)) (fun i _=>rs.length - (intOf i).toNat);case atStart=>exact ⟨0,R6 _,rfl,HM0,HB0⟩
 case round =>
  clear HM0 HB0 hmm;obtain ⟨k,hk,rfl,HM,HB⟩:=hrel;by_cases hlt:k < rs.length
  ·rcases HS.out.below HB.out with rfl | ⟨b,off,rfl,hb,hr,hok⟩
   ·simp at hlt
   obtain ⟨t0,t1⟩:=hr k hlt;have hk1:=bn k;have hk2:(k:Int) < (rs.length:Int):=by omega
   have h6:rs[k].rows.length≤6:=XG.out _ (RY hlt);have z0:rs[k].name.size≤maxLen:=(Tj.out _ (RY hlt)).1;have TD:Hid (∀ q ∈ rs[k].rows,q.fits):=(Tj.out _ (RY hlt)).2.2;clear hr hok;obtain ⟨W1,hW1⟩:∃ W1,W1=wr.alloc (.cells #[.string rs[k].name,.slice rs[k].ad rs[k].rows.length rs[k].cap] 70):=⟨_,rfl⟩;have hal:Below wr.heap.size wr W1:=by rw [hW1]; exact (R3 _ _).alloc (R4 _) _
   have Vv:Hid (aD dJ prog 130 W1 w.heap.size (k * 6) (dW (fun _=>none) (rs.take k))):=HM.out.below hal;have HB1:=gY HB hal;have TY:Hid (wr.heap.size < W1.heap.size∧W1.cell? ⟨wr.heap.size,0,none⟩=some (.string rs[k].name)):=⟨by rw [hW1]; simp,by rw [hW1]; simp⟩;have hgw:w.heap.size < wr.heap.size:=HM.out.lt;clear HM hal;go_wp2_with fail;rw [← hW1];clear hW1 t0 t1 HB;obtain ⟨wo,hwo⟩:∃ wo,wo=wr:=⟨_,rfl⟩;subst hwo;go_loopw [18] (fun i w2=>∃ j:Nat,j≤rs[k].rows.length∧i=.int .i64 j∧Hid (aD dJ prog 130 w2 w.heap.size (k * 6 + j) (jR rs[k].name (dW (fun _=>none) (rs.take k)) (rs[k].rows.take j)))∧Hid (Below w.heap.size w w2)∧Hid (wo.heap.size < w2.heap.size∧w2.cell? ⟨wo.heap.size,0,none⟩=some (.string rs[k].name))) (fun i _=>rs[k].rows.length - (intOf i).toNat);case atStart=>exact ⟨0,R6 _,rfl,Vv,HB1,TY⟩
   case round =>
    clear Vv HB1 TY;obtain ⟨j,hj,rfl,HM,HB,HC⟩:=hrel;by_cases hjl:j < rs[k].rows.length
    ·rcases HS.out.below HB.out with hnil | ⟨b',off',he,hb2,hr,hok⟩
     ·rw [hnil] at hlt; simp at hlt
     injection he with he; injection he with he1 he2; subst he1; subst he2;have ok:=hok rs[k] (RY hlt);rcases ok with hnil | ⟨b2,TQ,had,hbb,hr2,-⟩
     ·rw [hnil] at hjl; simp at hjl
     obtain ⟨q0,q1⟩:=hr2 j hjl;have z1:rs[k].rows[j].name.size≤maxLen:=(TD.out _ (RY hjl)).1;have hj1:=bn j;have hj2:(j:Int) < (rs[k].rows.length:Int):=by omega
     obtain ⟨kl,hkl⟩:=ik (rs[k].name,rs[k].rows[j].name) z0 z1;have Ur:Hid (keyOf prog 130 (dJ (rs[k].name,rs[k].rows[j].name))=some kl):=hkl;obtain ⟨W2,hW2⟩:∃ W2,W2=wr.alloc (.cells #[.string rs[k].rows[j].name,.slice rs[k].rows[j].ad rs[k].rows[j].rows.length rs[k].rows[j].cap] 152):=⟨_,rfl⟩;have hal:Below wr.heap.size wr W2:=by rw [hW2]; exact (R3 _ _).alloc (R4 _) _
     have Uj:Hid (aD dJ prog 130 W2 w.heap.size (k * 6 + j) (jR rs[k].name (dW (fun _=>none) (rs.take k)) (rs[k].rows.take j))):=HM.out.below hal;have HB2:=gY HB hal;have hc1:=aH hal HC.out.1 HC.out.2;have Tn:Hid (wo.heap.size < W2.heap.size∧W2.cell? ⟨wo.heap.size,0,none⟩=some (.string rs[k].name)):=⟨RZ HC.out.1 hal.size,hc1⟩;have g0:W2.cell? ⟨wr.heap.size,0,none⟩=some (.string rs[k].rows[j].name):=by rw [hW2]; simp
     have g1:W2.cell? ⟨wr.heap.size,1,none⟩=some (.slice rs[k].rows[j].ad rs[k].rows[j].rows.length rs[k].rows[j].cap):=by rw [hW2]; simp
     have hsz:wo.heap.size < wr.heap.size:=HC.out.1;have hc0:=HC.out.2;rw [had];clear hr hok hr2 hkl HM hal HC;go_wp2_with (first | (at_mapUpdate; rw [← hW2]; refine jB _ rfl _ _ _ 124 rfl 130 105 ib oF underlying124 w.heap.size (k * 6 + j) _ rfl Uj.out (by unfold maxLen; omega) (rs[k].name,rs[k].rows[j].name) kl rfl Ur.out _ rfl ?_; intro w3 UG hg3) | go_in);have YC:Hid (aD dJ prog 130 w3 w.heap.size (k * 6 + (j + 1)) (jR rs[k].name (dW (fun _=>none) (rs.take k)) (rs[k].rows.take (j + 1)))):=by
      show aD _ _ _ _ _ _ _;rw [GK _ _ _ _ hjl]; exact UG
     have Uo:Hid (Below w.heap.size w w3):=HB2.out.grown hg3 HB2.out.size (fun i hi=>by injection hi with hi; omega);have HC4:Hid (wo.heap.size < w3.heap.size∧w3.cell? ⟨wo.heap.size,0,none⟩=some (.string rs[k].name)):=⟨RZ Tn.out.1 hg3.size,by rw [hg3.cell_far _ Tn.out.1 (by simp; omega)]; exact Tn.out.2⟩;clear UG hg3 hW2 Uj HB2 Tn g0 g1 q0 q1 hc0 hc1;go_wp2;go_roundw;case rel=>exact ⟨j + 1,by omega,by go_num,YC,Uo,HC4⟩
     case measure=>simp [intOf] <;> omega
    ·obtain rfl:j=rs[k].rows.length:=by omega
     have YC:Hid (aD dJ prog 130 wr w.heap.size ((k + 1) * 6) (dW (fun _=>none) (rs.take (k + 1)))):=by
      show aD _ _ _ _ _ _ _;have:=HM.out;rw [Sc] at this;rw [Cz _ _ _ hlt]; exact this.mono (by omega)
     clear HM;go_wp2;go_roundw;case rel=>exact ⟨k + 1,by omega,by go_num,YC,HB⟩
     case measure=>simp [intOf] <;> omega
  ·obtain rfl:k=rs.length:=by omega
   have YC:Hid (aD dJ prog 130 wr w.heap.size 36 (mJ rs)):=by
    show aD _ _ _ _ _ _ _;have:=HM.out;rw [Sc] at this;exact this.mono (by omega)
   go_wp2;go_ret;exact ⟨rfl,YC.out,HB.out⟩
set_option linter.unusedVariables false
def OW (r:RR):List Value:=[.string r.name,r.sl]
abbrev CE (w:World) (br nr:Nat) (Mr:KL→Option Value) (Er:List (KL × RR)):Prop:=G.Grp En prog 179 152 2 OW w br nr Mr Er
theorem EF {w:World} {br nr:Nat} {Mr:KL→Option Value} {Er:List (KL × RR)} (h:CE w br nr Mr Er) {k:KL} {v:Value} (hk:Mr k=some v):∃ n xs,w.ownsRow (br + 1) 152 2 v n xs:=by
 rcases h.row k with ⟨e,-⟩ | ⟨v',e,ho⟩
 ·rw [e] at hk; cases hk
 ·rw [e] at hk; injection hk with hk; subst hk; exact ⟨_,_,ho⟩
theorem pI {w:World} {br nr g:Nat} {Mr:KL→Option Value} {Er:List (KL × RR)} {e:TypeId} {cur:Array Value} (h:CE w br nr Mr Er) (hc:w.heap[g]?=some (.cells cur e (0,0))) (hne:(152:TypeId) ≠ e):G.FreeB Mr g:=fun k v hk hg=>by
 obtain ⟨n,xs,ho⟩:=EF h hk;exact hne (dC ho hg hc)
theorem EG {w:World} {br nr g:Nat} {Mr:KL→Option Value} {Er:List (KL × RR)} {es:Array MapEntry} {c:Nat} (h:CE w br nr Mr Er) (hc:w.heap[g]?=some (.map es c)):G.FreeB Mr g:=fun k v hk hg=>by
 obtain ⟨n,xs,ho⟩:=EF h hk;exact Cq ho hg hc
theorem dR {K:Type} {enc:K→Value} {P:Program} {kt:TypeId} {w:World} {b n:Nat} {M:K→Option Value} (h:aD enc P kt w b n M):∃ es c,w.heap[b]?=some (.map es c):=by
 obtain ⟨D,⟨es,c,hb,-⟩,-⟩:=h;exact ⟨es,c,hb⟩
structure DatA (w:World) (rs:List TR) (D br bp bt:Nat) (n1:Int) (nr:Nat) (Mr:KL→Option Value) (Er:List (KL × RR)) (E:List (K3 × Tp)) (xo xu:List Al) (np:Nat) (Mp:K3→Option Value) (vo vu:Value):Prop where
 dat:DatT w D br bp (.map (some bt)) n1 E xo xu np Mp vo vu
 tab:aD dJ prog 130 w bt 36 (mJ rs)
 rel:CE w br nr Mr Er
 ord:bt < br∧br < bp
section
variable {w w':World} {rs:List TR} {D br bp bt:Nat} {n1:Int} {nr:Nat} {Mr:KL→Option Value} {Er:List (KL × RR)} {E:List (K3 × Tp)} {xo xu:List Al} {np:Nat} {Mp:K3→Option Value} {vo vu:Value}
theorem DatA.below (h:DatA w rs D br bp bt n1 nr Mr Er E xo xu np Mp vo vu) (hb:Below w.heap.size w w'):DatA w' rs D br bp bt n1 nr Mr Er E xo xu np Mp vo vu:=⟨h.dat.below hb,h.tab.below hb,h.rel.below hb,h.ord⟩
theorem DatA.tell (h:DatA w rs D br bp bt n1 0 (fun _=>none) [] E xo xu np Mp vo vu) {E':List (K3 × Tp)} {xo' xu':List Al} {np':Nat} {Mp':K3→Option Value} {Wj Wm:Value} (hd:DatT w' D br bp (.map (some bt)) n1 E' xo' xu' np' Mp' Wj Wm) (hb:Below bp w w'):DatA w' rs D br bp bt n1 0 (fun _=>none) [] E' xo' xu' np' Mp' Wj Wm:=by
 obtain ⟨h1,h2⟩:=h.ord;exact ⟨hd,h.tab.of_block (hb.block bt (by omega)),⟨h.rel.map.of_block (hb.block br (by omega)),fun k=>.inl ⟨rfl,rfl⟩,fun k k' v v' _ e=>by cases e⟩,h.ord⟩
theorem DatA.list (h:DatA w rs D br bp bt n1 nr Mr Er E xo xu np Mp vo vu) {nr':Nat} {Mr':KL→Option Value} {Er':List (KL × RR)} (hg:CE w' br nr' Mr' Er') (hs:G.Stl w Mr w' Mr' br):DatA w' rs D br bp bt n1 nr' Mr' Er' E xo xu np Mp vo vu:=by
 obtain ⟨h1,h2⟩:=h.ord;have hgt:=h.dat.gt;have hlt:=h.dat.lt;obtain ⟨cur,hk⟩:=h.dat.kind;have hD:w'.heap[D]?=w.heap[D]?:=hs.block D hlt (by omega) (pI h.rel hk (by decide));have hc:∀ o,w'.cell? ⟨D,o,none⟩=w.cell? ⟨D,o,none⟩:=fun o=>SB (w:=w) (a:=⟨D,o,none⟩) hD;have hO:∀ {v:Value} {n:Nat} {xs:List Value},w.ownsRow (bp + 1) 40 2 v n xs→w'.ownsRow (bp + 1) 40 2 v n xs:=fun {v n xs} ho=>bz ho fun g hg=>by
  obtain ⟨cr,e⟩:=dV ho hg;have:=ho.lt g hg;exact hs.block g this.2 (by omega) (pI h.rel e (by decide))
 obtain ⟨es,c,eb⟩:=dR h.dat.told.map;obtain ⟨es2,c2,eb2⟩:=dR h.tab;refine ⟨⟨hgt,RZ hlt hs.size,⟨cur,hD.trans hk⟩,(hc _).trans h.dat.c0,(hc _).trans h.dat.c1,(hc _).trans h.dat.c2,(hc _).trans h.dat.c3,(hc _).trans h.dat.c4,(hc _).trans h.dat.c5,rC h.dat.told ?_ ?_,hO h.dat.objs,hO h.dat.users,h.dat.apart⟩,h.tab.of_block ?_,hg,h.ord⟩
 ·exact hs.block bp (by omega) (by omega) (EG h.rel eb)
 ·intro k v g hm hg2;obtain ⟨n,xs,ho⟩:=rA h.dat.told hm;obtain ⟨cr,e⟩:=dV ho hg2;have:=ho.lt g hg2;exact hs.block g this.2 (by omega) (pI h.rel e (by decide))
 ·exact hs.block bt (by omega) (by omega) (EG h.rel eb2)
theorem DatA.count (h:DatA w rs D br bp bt n1 nr Mr Er E xo xu np Mp vo vu) (n2:Int):DatA (w.setCell ⟨D,1,none⟩ (.int .i64 n2)) rs D br bp bt n2 nr Mr Er E xo xu np Mp vo vu:=by
 obtain ⟨h1,h2⟩:=h.ord;have hgt:=h.dat.gt;obtain ⟨cur,hk⟩:=h.dat.kind;have hne:∀ g,g ≠ D→(w.setCell ⟨D,1,none⟩ (.int .i64 n2)).heap[g]?=w.heap[g]?:=fun g e=>heap_setCell_other w ⟨D,1,none⟩ g _ e;have hc2:∀ o,o ≠ 1→(w.setCell ⟨D,1,none⟩ (.int .i64 n2)).cell? ⟨D,o,none⟩=w.cell? ⟨D,o,none⟩:=fun o ne=>jL (by omega);have hO:∀ {v:Value} {n:Nat} {xs:List Value},w.ownsRow (bp + 1) 40 2 v n xs→(w.setCell ⟨D,1,none⟩ (.int .i64 n2)).ownsRow (bp + 1) 40 2 v n xs:=fun {v n xs} ho=>bz ho fun g hg=>hne g fun e=>absurd (dC ho (e ▸ hg) hk) (by decide);refine ⟨⟨hgt,by simpa using h.dat.lt,⟨_,heap_setCell_same w D 1 cur _ _ hk⟩,(hc2 0 (by omega)).trans h.dat.c0,Me h.dat.c1,(hc2 2 (by omega)).trans h.dat.c2,(hc2 3 (by omega)).trans h.dat.c3,(hc2 4 (by omega)).trans h.dat.c4,(hc2 5 (by omega)).trans h.dat.c5,rC h.dat.told (hne bp (by omega)) ?_,hO h.dat.objs,hO h.dat.users,h.dat.apart⟩,h.tab.of_block (hne bt (by omega)),⟨h.rel.map.of_block (hne br (by omega)),fun k=>?_,h.rel.apart⟩,h.ord⟩
 ·intro k v g hm hg2;obtain ⟨n,xs,ho⟩:=rA h.dat.told hm;exact hne g fun e=>absurd (dC ho (e ▸ hg2) hk) (by decide)
 ·rcases h.rel.row k with e | ⟨v,e,ho⟩
  ·exact .inl e
  ·exact .inr ⟨v,e,bz ho fun g hg=>hne g fun e2=>absurd (dC ho (e2 ▸ hg) hk) (by decide)⟩
end
theorem lV (w:World):(zeroValue 105).run prog w=.ok (.slice none 0 0) w:=by kernel_rfl
theorem wU (b n:Nat) (M:ByteArray × ByteArray→Option Value) (t r:ByteArray) (w:World) (ht:t.size≤maxLen) (hr:r.size≤maxLen) (hV:aD dJ prog 130 w b n M) :
  Calls prog 143 #[.map (some b),.string t,.string r] w fun e w'=>e=.returned (.bool (M (t,r)).isSome)∧w'=w:=by
 obtain ⟨kl,hkl⟩:=ik (t,r) ht hr;have HV:Hid (aD dJ prog 130 w b n M):=hV;have Ur:Hid (keyOf prog 130 (dJ (t,r))=some kl):=hkl;clear hkl hV;go_enter func143,ntmps143;go_wp2_with (first | (at_lookup; refine bW _ rfl _ _ 124 rfl 130 105 ib underlying124 (lV _) b n M rfl HV.out (t,r) kl rfl Ur.out ?_) | go_in);go_ret;exact ⟨rfl,rfl⟩
theorem A9 (a:Al) (w:World) :
  Calls prog 175 #[.agg #[.string a.t,.string a.s]] w fun e w'=>e=.returned (.bool (!a.s.toList.isEmpty))∧Below w.heap.size w w':=by
 cases h:a.s.toList.isEmpty with
 | true =>
  go_enter func175,ntmps175;go_wp2;go_ret;exact ⟨rfl,(R3 _ _).alloc (R4 _) _⟩
 | false =>
  go_enter func175,ntmps175;go_wp2;go_ret;exact ⟨rfl,(R3 _ _).alloc (R4 _) _⟩
theorem vB (xs:List Al) (k:Nat) (h:k < xs.length):(xs.drop k).any (fun a=>!a.s.toList.isEmpty)=((!xs[k].s.toList.isEmpty) || (xs.drop (k + 1)).any (fun a=>!a.s.toList.isEmpty)):=by
 rw [Sr h]; rfl
theorem zL (ad:Option Addr) (cap:Nat) (xs:List Al) (w:World) (hlen:xs.length≤1048576) (hs:iy w ad xs) :
  Calls prog 180 #[.slice ad xs.length cap,.func (Fn.func 175) #[] #[]] w fun e w'=>(∃ r:Int,e=.returned (.int .i64 r)∧decide (0≤r)=xs.any (fun a=>!a.s.toList.isEmpty))∧Below w.heap.size w w':=by
 have HS:=aC hs;clear hs;go_enter func180,ntmps180;go_wp2_with fail;go_loopw [8] (fun i wr=>∃ k:Nat,k≤xs.length∧i=.int .i64 k∧Hid ((xs.drop k).any (fun a=>!a.s.toList.isEmpty)=xs.any (fun a=>!a.s.toList.isEmpty))∧Hid (Below w.heap.size w wr)) (fun i _=>xs.length - (intOf i).toNat);case atStart=>exact ⟨0,R6 _,rfl,rfl,R3 _ _⟩
 case round =>
  obtain ⟨k,hk,rfl,HP,HB⟩:=hrel;by_cases hlt:k < xs.length
  ·rcases HS.out.below HB.out with rfl | ⟨b,off,rfl,hb,hr⟩
   ·simp at hlt
   obtain ⟨t0,t1⟩:=hr k hlt;have hk1:=bn k;have hk2:(k:Int) < (xs.length:Int):=by omega
   clear hr;cases he:xs[k].s.toList.isEmpty with
   | false =>
    have HN:Hid (xs.any (fun a=>!a.s.toList.isEmpty)=true):=by show _=_; rw [← HP.out,vB _ _ hlt,he]; rfl
    go_wp2_with (go_at_call 175; refine (A9 xs[k] _).mono ?_; rintro e w' ⟨he2,hbx⟩; rw [he] at he2; subst he2);go_ret;exact ⟨⟨k,rfl,by rw [HN.out]; simp⟩,HB.out.trans (hbx.mono HB.out.size)⟩
   | true =>
    have Td:Hid ((xs.drop (k + 1)).any (fun a=>!a.s.toList.isEmpty)=xs.any (fun a=>!a.s.toList.isEmpty)):=by show _=_; rw [← HP.out,vB _ _ hlt,he]; rfl
    go_wp2_with (go_at_call 175; refine (A9 xs[k] _).mono ?_; rintro e w' ⟨he2,hbx⟩; rw [he] at he2; subst he2);go_roundw;case rel=>exact ⟨k + 1,by omega,by go_num,Td,HB.out.trans (hbx.mono HB.out.size)⟩
    case measure=>simp [intOf] <;> omega
  ·have HN:Hid (xs.any (fun a=>!a.s.toList.isEmpty)=false):=by show _=_; rw [← HP.out,List.drop_of_length_le (by omega)]; rfl
   go_wp2;go_ret;exact ⟨⟨-1,rfl,by rw [HN.out]; simp⟩,HB.out⟩
theorem tT (ad:Option Addr) (cap:Nat) (xs:List Al) (w:World) (hlen:xs.length≤1048576) (hs:iy w ad xs) :
  Calls prog 174 #[.slice ad xs.length cap,.func (Fn.func 175) #[] #[]] w fun e w'=>e=.returned (.bool (xs.any (fun a=>!a.s.toList.isEmpty)))∧Below w.heap.size w w':=by
 go_enter func174,ntmps174;go_wp2_with fail;refine (zL ad cap xs _ hlen hs).mono ?_;rintro e w' ⟨⟨r,rfl,hr⟩,hbx⟩;have HR:Hid (decide (0≤r)=xs.any (fun a=>!a.s.toList.isEmpty)):=hr;clear hr hs;go_wp2;go_ret;exact ⟨by rw [← HR.out]; rfl,hbx⟩
theorem MO (xs:List Al):(!xs.any fun a=>!a.s.toList.isEmpty)=xs.all fun a=>a.s.toList.isEmpty:=by
 induction xs with
 | nil=>rfl
 | cons a xs ih=>simp only [List.any_cons,List.all_cons,Bool.not_or,Bool.not_not,ih]
set_option maxRecDepth 100000 in
theorem rH (ad:Option Addr) (cap:Nat) (rs:List ER) (w:World) (hlen:rs.length≤1048576) (hs:eX w ad rs) (hl:∀ r ∈ rs,r.e.light) :
  Calls prog 163 #[.slice ad rs.length cap] w fun e w'=>e=.returned (.bool (bi (ah rs)))∧Below w.heap.size w w':=by
 by_cases h1:rs.length=1
 ·obtain ⟨r,rfl⟩:∃ r,rs=[r]:=List.length_eq_one_iff.1 h1;rcases hs with h | ⟨b,off,rfl,hb,hr,hok⟩
  ·cases h
  obtain ⟨t0,t1,t2,t3,t4⟩:=hr 0 (by simp);simp only [Nat.zero_mul,Nat.add_zero,List.getElem_cons_zero] at t0 t1 t2 t3 t4;have Ub:Hid (r.ok w):=hok r (by simp);obtain ⟨lg,-⟩:=hl r (by simp);clear hr hok h1;simp only [List.length_cons,List.length_nil,Su];by_cases hq:r.e.kind=1
  ·have HD:Hid (bi (ah [r])=!r.e.allow.any fun a=>!a.s.toList.isEmpty):=by show _=_; rw [MO]; simp [bi,ah,hq]
   have hqb:(r.e.kind == 1)=true:=by simpa using hq
   go_enter func163,ntmps163;go_wp2_with (go_at_call 174; refine (tT _ _ r.e.allow _ lg (Ub.out.1.below ((R3 _ _)))).mono ?_; rintro e w' ⟨rfl,hbx⟩);go_ret;exact ⟨by rw [HD.out]; rfl,hbx⟩
  ·have HD:Hid (bi (ah [r])=false):=by show _=_; simp [bi,ah,hq]
   have hqb:(r.e.kind == 1)=false:=by simpa using hq
   go_enter func163,ntmps163;go_wp2;go_ret;exact ⟨by rw [HD.out]; rfl,R3 _ _⟩
 ·have HD:Hid (bi (ah rs)=false):=by
   show _=_;rcases rs with _ | ⟨r,_ | ⟨r2,rs⟩⟩
   ·rfl
   ·simp at h1
   ·rfl
  have h2:((rs.length:Int) == 1)=false:=by
   have:¬ ((rs.length:Int)=1):=by omega
   simpa using this
  clear hs;go_enter func163,ntmps163;go_wp2;go_ret;exact ⟨by rw [HD.out]; rfl,R3 _ _⟩
theorem Qb:∀ x:List UInt8,Op.bytesLess x x=false
 | []=>rfl
 | a::x=>by simp [Op.bytesLess,Qb x]
theorem Qc:∀ x y z:List UInt8,Op.bytesLess x y=true→Op.bytesLess y z=true→Op.bytesLess x z=true
 | [],_,[],h,k=>by cases ‹List UInt8› <;> simp [Op.bytesLess] at h k
 | [],_,_::_,_,_=>rfl
 | _::_,[],_,h,_=>by simp [Op.bytesLess] at h
 | _::_,_::_,[],_,k=>by simp [Op.bytesLess] at k
 | a::x,b::y,c::z,h,k=>by
  simp only [Op.bytesLess,Bool.or_eq_true,R7,Sj,beq_iff_eq] at h k ⊢;rcases h with h | ⟨h,h'⟩
  ·rcases k with k | ⟨k,k'⟩
   ·exact .inl (UInt8.lt_trans h k)
   ·exact .inl (k ▸ h)
  ·rcases k with k | ⟨k,k'⟩
   ·exact .inl (h ▸ k)
   ·exact .inr ⟨h.trans k,Qc x y z h' k'⟩
theorem pJ {f:Nat→ByteArray} {n:Nat} (h:∀ i,i + 1 < n→iC (f i) (f (i + 1))=true):∀ i j,i < j→j < n→f i ≠ f j:=by
 have h2:∀ d i,i + d + 1 < n→iC (f i) (f (i + d + 1))=true:=by
  intro d
  induction d with
  | zero=>intro i hi; exact h i (by omega)
  | succ d ih =>
   intro i hi;have h3:=ih i (by omega);have h4:=h (i + d + 1) (by omega);exact Qc _ _ _ h3 h4
 intro i j hij hj e;have h5:=h2 (j - i - 1) i (by omega);have e2:i + (j - i - 1) + 1=j:=by omega
 rw [e2,e] at h5;unfold iC at h5;rw [Qb] at h5;cases h5
theorem j6 {rs:List TR} (h:aV (ae rs)=true) (k:Nat) (hk:k < rs.length):aR rs[k].name=true∧(∀ i (hi:i < rs.length),k=i + 1→iC rs[i].name rs[k].name=true)∧dB (dz rs[k].rows) rs[k].rows.length=true:=by
 simp only [aV,R7,Sj] at h;rw [fO] at h;have h1:=mE h.2 k hk;unfold jE at h1;have e:(ae rs)[k]?=some rs[k].p:=by simp [ae,hk]
 rw [e] at h1;simp only [R7,Sj] at h1;have e2:rs[k].p.rels.length=rs[k].rows.length:=by simp [TR.p,dz]
 rw [e2] at h1;refine ⟨h1.1.1.1,fun i hi hki=>?_,h1.2⟩;subst hki;have h2:=h1.1.1.2;have e3:(ae rs)[i]?=some rs[i].p:=by simp [ae,hi]
 simp only [e3,Option.map_some,Option.getD_some] at h2;exact h2
theorem tV {rs:List RR} {n:Nat} (h:dB (dz rs) n=true) (k:Nat) (hk:k < rs.length) (hn:k < n):aR rs[k].name=true∧(∀ i (hi:i < rs.length),k=i + 1→iC rs[i].name rs[k].name=true)∧aU (ah rs[k].rows)=true:=by
 have h1:=mD h k hn;unfold kD at h1;have e:(dz rs)[k]?=some rs[k].p:=by simp [dz,hk]
 rw [e] at h1;simp only [R7] at h1;refine ⟨h1.1.1,fun i hi hki=>?_,h1.2⟩;subst hki;have h2:=h1.1.2;have e3:(dz rs)[i]?=some rs[i].p:=by simp [dz,hi]
 simp only [e3,Option.map_some,Option.getD_some] at h2;exact h2
theorem EH {rs:List TR} (h:aV (ae rs)=true) {t t':TR} (ht:t ∈ rs) (ht':t' ∈ rs) (e:t.name=t'.name):t=t':=by
 obtain ⟨i,hi,rfl⟩:=List.mem_iff_getElem.1 ht;obtain ⟨j,hj,rfl⟩:=List.mem_iff_getElem.1 ht';have hne:=pJ (f:=fun k=>(rs[k]?.map TR.name).getD ByteArray.empty) (n:=rs.length) (fun k hk=>by
  have h0:k < rs.length:=by omega
  simp only [R8 hk,R8 h0,Option.map_some,Option.getD_some];exact (j6 h (k + 1) hk).2.1 k h0 rfl)
 by_cases hij:i=j
 ·subst hij; rfl
 ·exfalso;rcases Nat.lt_or_gt_of_ne hij with hl | hl
  ·have:=hne i j hl hj; simp [hi,hj] at this; exact this e
  ·have:=hne j i hl hi; simp [hi,hj] at this; exact this e.symm
theorem EJ {rs:List RR} (h:dB (dz rs) rs.length=true) {t t':RR} (ht:t ∈ rs) (ht':t' ∈ rs) (e:t.name=t'.name):t=t':=by
 obtain ⟨i,hi,rfl⟩:=List.mem_iff_getElem.1 ht;obtain ⟨j,hj,rfl⟩:=List.mem_iff_getElem.1 ht';have hne:=pJ (f:=fun k=>(rs[k]?.map RR.name).getD ByteArray.empty) (n:=rs.length) (fun k hk=>by
  have h0:k < rs.length:=by omega
  simp only [R8 hk,R8 h0,Option.map_some,Option.getD_some];exact (tV h (k + 1) hk hk).2.1 k h0 rfl)
 by_cases hij:i=j
 ·subst hij; rfl
 ·exfalso;rcases Nat.lt_or_gt_of_ne hij with hl | hl
  ·have:=hne i j hl hj; simp [hi,hj] at this; exact this e
  ·have:=hne j i hl hi; simp [hi,hj] at this; exact this e.symm
theorem GL {t:ByteArray} {M:ByteArray × ByteArray→Option Value} {qs:List RR} {k:ByteArray × ByteArray} {v:Value} (h:jR t M qs k=some v):M k=some v ∨ ∃ q ∈ qs,k=(t,q.name)∧v=q.sl:=by
 induction qs generalizing M with
 | nil=>exact .inl h
 | cons q qs ih =>
  simp only [jR] at h;rcases ih h with h | ⟨q',hq,e⟩
  ·by_cases e:k=(t,q.name)
   ·rw [e,cB] at h; injection h with h; exact .inr ⟨q,by simp,e,h.symm⟩
   ·rw [bf e] at h; exact .inl h
  ·exact .inr ⟨q',by simp [hq],e⟩
theorem vC {t:ByteArray} {M:ByteArray × ByteArray→Option Value} {qs:List RR} {k:ByteArray × ByteArray} (h:(M k).isSome=true ∨ ∃ q ∈ qs,k=(t,q.name)):(jR t M qs k).isSome=true:=by
 induction qs generalizing M with
 | nil=>rcases h with h | ⟨q,hq,-⟩; exact h; cases hq
 | cons q qs ih =>
  simp only [jR];refine ih ?_;by_cases e:k=(t,q.name)
  ·left; rw [e,cB]; rfl
  ·rcases h with h | ⟨q',hq,e'⟩
   ·left; rw [bf e]; exact h
   ·rcases List.mem_cons.1 hq with rfl | hq
    ·exact absurd e' e
    ·exact .inr ⟨q',hq,e'⟩
theorem CF {M:ByteArray × ByteArray→Option Value} {rs:List TR} {k:ByteArray × ByteArray} {v:Value} (h:dW M rs k=some v):M k=some v ∨ ∃ t ∈ rs,∃ q ∈ t.rows,k=(t.name,q.name)∧v=q.sl:=by
 induction rs generalizing M with
 | nil=>exact .inl h
 | cons t rs ih =>
  simp only [dW] at h;rcases ih h with h | ⟨t',ht,e⟩
  ·rcases GL h with h | ⟨q,hq,e⟩
   ·exact .inl h
   ·exact .inr ⟨t,by simp,q,hq,e⟩
  ·exact .inr ⟨t',by simp [ht],e⟩
theorem qg {M:ByteArray × ByteArray→Option Value} {rs:List TR} {k:ByteArray × ByteArray} (h:(M k).isSome=true ∨ ∃ t ∈ rs,∃ q ∈ t.rows,k=(t.name,q.name)):(dW M rs k).isSome=true:=by
 induction rs generalizing M with
 | nil=>rcases h with h | ⟨q,hq,-⟩; exact h; cases hq
 | cons t rs ih =>
  simp only [dW];refine ih ?_;rcases h with h | ⟨t',ht,q,hq,e⟩
  ·exact .inl (vC (.inl h))
  ·rcases List.mem_cons.1 ht with rfl | ht
   ·exact .inl (vC (.inr ⟨q,hq,e⟩))
   ·exact .inr ⟨t',ht,q,hq,e⟩
theorem GM {rs:List Rl} {n:ByteArray} (h:jf rs n=none):∀ r ∈ rs,r.name ≠ n:=by
 induction rs with
 | nil=>intro r hr; cases hr
 | cons r rs ih =>
  simp only [jf] at h;split at h
  ·cases h
  ·rename_i hn;intro q hq;rcases List.mem_cons.1 hq with rfl | hq
   ·exact fun e=>hn (eB.2 e)
   ·exact ih h q hq
theorem J8 {ts:List Ty} {ty n:ByteArray} (h:dX ts ty n=none):∀ t ∈ ts,t.name=ty→∀ r ∈ t.rels,r.name ≠ n:=by
 induction ts with
 | nil=>intro t ht; cases ht
 | cons t ts ih =>
  simp only [dX] at h;intro q hq e;split at h
  ·rw [Option.or_eq_none_iff] at h;rcases List.mem_cons.1 hq with rfl | hq
   ·exact GM h.1
   ·exact ih h.2 q hq e
  ·rename_i hn;rcases List.mem_cons.1 hq with rfl | hq
   ·exact absurd (eB.2 e) hn
   ·exact ih h q hq e
theorem oN {rs:List TR} {ty n:ByteArray} {es:List Ex} (h:dX (ae rs) ty n=some es):∃ t ∈ rs,∃ q ∈ t.rows,t.name=ty∧q.name=n∧ah q.rows=es:=by
 obtain ⟨t,ht,r,hr,e1,e2,e3⟩:=q8 h;obtain ⟨t',ht',rfl⟩:=Sa.1 ht;obtain ⟨q,hq,rfl⟩:=Sa.1 hr;exact ⟨t',ht',q,hq,e1,e2,e3⟩
structure Tab (rs:List TR) (M:ByteArray × ByteArray→Option Value):Prop where
 no:∀ k,M k=none→dX (ae rs) k.1 k.2=none
 yes:∀ k v,M k=some v→∃ t ∈ rs,∃ q ∈ t.rows,k=(t.name,q.name)∧v=q.sl∧dX (ae rs) k.1 k.2=some (ah q.rows)∧aU (ah q.rows)=true
theorem mM {rs:List TR} (h:aV (ae rs)=true):Tab rs (mJ rs) where
 no k hk:=by
  cases e:dX (ae rs) k.1 k.2 with
  | none=>rfl
  | some es =>
   obtain ⟨t,ht,q,hq,e1,e2,-⟩:=oN e;have:=qg (M:=fun _=>none) (rs:=rs) (k:=k) (.inr ⟨t,ht,q,hq,by rw [e1,e2]⟩);unfold mJ at hk;rw [hk] at this; cases this
 yes k v hk:=by
  rcases CF hk with h0 | ⟨t,ht,q,hq,e,ev⟩
  ·cases h0
  have hSF:=bH h;refine ⟨t,ht,q,hq,e,ev,?_,(hSF.2.2 t ht q hq).1⟩;cases e2:dX (ae rs) k.1 k.2 with
  | none=>exact (J8 e2 t.p (List.mem_map_of_mem ht) (by rw [e]; rfl) q.p (List.mem_map_of_mem hq) (by rw [e]; rfl)).elim
  | some es =>
   obtain ⟨t',ht',q',hq',e3,e4,e5⟩:=oN e2;have h1:t'=t:=EH h ht' ht (by rw [e3,e]);subst h1;obtain ⟨i,hi,rfl⟩:=List.mem_iff_getElem.1 ht;have h2:q'=q:=EJ (j6 h i hi).2.2 hq' hq (by rw [e4,e]);subst h2;rw [e5]
theorem Tab.some_iff {rs:List TR} {M:ByteArray × ByteArray→Option Value} (h:Tab rs M) (k:ByteArray × ByteArray):(M k).isSome=!(ax (ae rs) k.1 k.2).isEmpty:=by
 unfold ax;cases e:M k with
 | none=>rw [h.no k e]; rfl
 | some v =>
  obtain ⟨t,ht,q,hq,-,-,e1,e2⟩:=h.yes k v e;rw [e1];have:=AB e2;cases e3:ah q.rows with
  | nil=>rw [e3] at this; simp at this
  | cons x xs=>rfl
end Go.Proofs.YtdaoiceeidoehaaGreat
