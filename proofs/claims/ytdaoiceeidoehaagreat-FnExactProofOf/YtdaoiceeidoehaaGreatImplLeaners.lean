/- Contract of the program's function on what leans on what. -/
import Derived.Test.YtdaoiceeidoehaaGreatJ18
open Go.Proofs.Tryz
set_option maxHeartbeats 80000000
namespace Go.Proofs.YtdaoiceeidoehaaGreat
open Go.ChangeShapes Go.WideShapes Go.ChangeAt Go.RowKit Go.Maps
open Pl
def vI (b:Bool):Int:=if b then 1 else 0
def yF (ts:List Ty) (t r:ByteArray) (ng:Bool) (e:Ex):List (Ky × St):=(gW ts t e).map fun a=>((a.t,a.s),⟨t,r,vI ng⟩)
def relE (ts:List Ty) (t r:ByteArray) (es:List Ex):Nat→List (Ky × St)
 | 0=>[]
 | i + 1=>relE ts t r es i ++ (match es[i]? with | none=>[] | some e=>yF ts t r ((cu es).getD i false) e)
def iE (ts:List Ty) (t:ByteArray) (qs:List RR):List (Ky × St):=qs.flatMap fun q=>relE ts t q.name (ah q.rows) q.rows.length
def iG (ts:List Ty) (rs:List TR):List (Ky × St):=rs.flatMap fun t=>iE ts t.name t.rows
theorem G5 (ts:List Ty) (t:ByteArray) (qs:List RR) (j:Nat) (h:j < qs.length):iE ts t (qs.take (j + 1))=iE ts t (qs.take j) ++ relE ts t qs[j].name (ah qs[j].rows) qs[j].rows.length:=by
 unfold iE;rw [R5 h,List.flatMap_append,List.flatMap_singleton]
theorem G6 (ts:List Ty) (rs:List TR) (k:Nat) (h:k < rs.length):iG ts (rs.take (k + 1))=iG ts (rs.take k) ++ iE ts rs[k].name rs[k].rows:=by
 unfold iG;rw [R5 h,List.flatMap_append,List.flatMap_singleton]
theorem tX (ts:List Ty) (t r:ByteArray) (rows:List ER) (i:Nat) (h:i < rows.length) (ng:Bool) (hn:ng=(cu (ah rows)).getD i false):relE ts t r (ah rows) (i + 1)=relE ts t r (ah rows) i ++ yF ts t r ng rows[i].e:=by
 have e:(ah rows)[i]?=some rows[i].e:=by simp [ah,h]
 simp only [relE,e,hn]
theorem tY (rs:List TR) (hl:∀ r ∈ rs,∀ q ∈ r.rows,∀ e ∈ q.rows,e.e.allow.length≤6) (typ:ByteArray) (e:Ex) (he:e.allow.length≤6):(gW (ae rs) typ e).length≤6:=by
 unfold gW;split
 ·exact Sb (Be _) he
 split
 ·simp
 split
 ·rw [Sv];unfold fB;split
  ·refine Sb (yx _ _ _ _) ?_;unfold ax;cases h:dX (ae rs) typ e.over with
   | none=>simp [aQ]
   | some es =>
    obtain ⟨t,ht,q,hq,-,-,rfl⟩:=oN h;have h1:=hl t ht q hq;have:∀ (xs:List ER),(∀ q ∈ xs,q.e.allow.length≤6)→(aQ (ah xs)).length≤6:=by
     intro xs
     induction xs with
     | nil=>intro _; simp [ah,aQ]
     | cons x xs ih =>
      intro h;have e4:ah (x::xs)=x.e::ah xs:=rfl;rw [e4];simp only [aQ];split
      ·exact h x (by simp)
      ·exact ih (fun q hq=>h q (by simp [hq]))
    exact this q.rows h1
  ·simp
 ·simp
theorem yG (rs:List TR) (hf:∀ r ∈ rs,r.fits) (typ:ByteArray) (ht:typ.size≤maxLen) (e:Ex) (he:e.fits):∀ a ∈ gW (ae rs) typ e,a.t.size≤maxLen∧a.s.size≤maxLen:=by
 have hA:∀ (xs:List Al),(∀ a ∈ xs,a.fits)→∀ a ∈ dD xs,a.t.size≤maxLen∧a.s.size≤maxLen:=by
  intro xs
  induction xs with
  | nil=>intro _ a ha; cases ha
  | cons b xs ih =>
   intro h a ha;simp only [dD] at ha;split at ha
   ·exact ih (fun q hq=>h q (by simp [hq])) a ha
   ·rcases List.mem_cons.1 ha with rfl | ha
    ·exact h a (by simp)
    ·exact ih (fun q hq=>h q (by simp [hq])) a ha
 have hG:∀ (xs:List Al) (rel:ByteArray),(∀ a ∈ xs,a.fits)→∀ g ∈ gl (ae rs) rel xs,g.size≤maxLen:=by
  intro xs rel
  induction xs with
  | nil=>intro _ a ha; cases ha
  | cons b xs ih =>
   intro h a ha;simp only [gl] at ha;split at ha
   ·exact ih (fun q hq=>h q (by simp [hq])) a ha
   ·rcases List.mem_cons.1 ha with rfl | ha
    ·exact (h b (by simp)).1
    ·exact ih (fun q hq=>h q (by simp [hq])) a ha
 unfold gW;split
 ·exact hA _ he.1
 split
 ·intro a ha; simp at ha; subst ha; exact ⟨ht,he.2.2.1⟩
 split
 ·intro a ha;obtain ⟨g,hg,rfl⟩:=Sa.1 ha;refine ⟨?_,he.2.2.1⟩;unfold fB at hg;split at hg
  ·unfold fT at hg;refine hG _ _ ?_ g hg;unfold ax;cases e3:dX (ae rs) typ e.over with
   | none=>intro a ha; simp [aQ] at ha
   | some es =>
    obtain ⟨t,ht',q,hq,-,-,rfl⟩:=oN e3;have hq2:=((hf t ht').2.2 q hq).2.2;intro a ha;have:∀ (xs:List ER),(∀ q ∈ xs,q.e.fits)→∀ a ∈ aQ (ah xs),a.fits:=by
     intro xs
     induction xs with
     | nil=>intro _ a ha; simp [ah,aQ] at ha
     | cons x xs ih =>
      intro h a ha;have e4:ah (x::xs)=x.e::ah xs:=rfl;rw [e4] at ha;simp only [aQ] at ha;split at ha
      ·exact (h x (by simp)).1 a ha
      ·exact ih (fun q hq=>h q (by simp [hq])) a ha
    exact this q.rows hq2 a ha
  ·cases hg
 ·intro a ha; cases ha
theorem OZ:(prog.info? 241).map (fun i=>(i.zero,i.size,i.bytes))=some (some (.agg #[.string ⟨#[]⟩,.string ⟨#[]⟩,.int .i64 0]),3,40):=by kernel_rfl
theorem CL (u:World):(zeroValue 239).run prog u=.ok (.slice none 0 0) u:=by kernel_rfl
theorem kJ {w:World} {bL n:Nat} {M:Ky→Option Value} {E:List (Ky × St)} (h:Grp w bL n M E) (y:Ky):w.ownsRow (bL + 1) 241 3 ((M y).getD (.slice none 0 0)) (lookL E y).length (gV (lookL E y)):=by
 rcases h.row y with ⟨e,e2⟩ | ⟨v,e,ho⟩
 ·rw [e,e2]; exact World.ownsRow_nil _ _ _ _
 ·rw [e]; exact ho
theorem CO {w:World} {bL n:Nat} {M:Ky→Option Value} {E:List (Ky × St)} (h:Grp w bL n M E) (y:Ky):some bL ≠ ((M y).getD (.slice none 0 0)).ownBlock:=by
 cases e:M y with
 | none=>simp [Value.ownBlock]
 | some v=>intro e2; have:=(h.lt e (g:=bL) (by simpa using e2.symm)).1; omega
theorem tZ (E:List (Ky × St)) (y:Ky):(lookL E y).length≤E.length:=List.length_filterMap_le _ _
set_option maxRecDepth 100000 in
theorem zQ (ad:Option Addr) (cap:Nat) (rs:List TR) (bT nT:Nat) (T:Ky→Option Value) (w:World) (hlen:rs.length≤6) (hs:jd w ad rs) (hl:∀ r ∈ rs,r.light) (hf:∀ r ∈ rs,r.fits) (hrl:∀ r ∈ rs,r.rows.length≤6) (hel:∀ r ∈ rs,∀ q ∈ r.rows,q.rows.length≤15∧∀ e ∈ q.rows,dU q.rows.length e.e.kids) (hal6:∀ r ∈ rs,∀ q ∈ r.rows,∀ e ∈ q.rows,e.e.allow.length≤6) (hV:aD dJ prog 130 w bT nT T) (hT:Tab rs T) :
  Calls prog 120 #[.slice ad rs.length cap,.map (some bT)] w fun e w'=>e=.returned (.map (some w.heap.size))∧(∃ n M,Grp w' w.heap.size n M (iG (ae rs) rs))∧Below w.heap.size w w':=by
 have HS:=aC hs;have HL:=aC hl;have Tj:=aC hf;have XG:Hid (∀ r ∈ rs,r.rows.length≤6):=hrl;have UO:Hid (∀ r ∈ rs,∀ q ∈ r.rows,q.rows.length≤15∧∀ e ∈ q.rows,dU q.rows.length e.e.kids):=hel;have HV:Hid (aD dJ prog 130 w bT nT T):=hV;have HT:=aC hT;have WE:Hid (∀ r ∈ rs,∀ q ∈ r.rows,∀ e ∈ q.rows,e.e.allow.length≤6):=hal6;clear hs hl hf hrl hel hV hT hal6;obtain ⟨i0,hi,hz0,hz1,hz2⟩:=info_parts OZ;have HG0:Hid (Grp (w.alloc (.map #[] 0)) w.heap.size 0 (fun _=>none) []):=grp_made w;have HB0:Hid (Below w.heap.size w (w.alloc (.map #[] 0))):=(R3 _ _).alloc (R4 _) _;have hmm:=@run_makeMap prog;go_enter func120,ntmps120;go_wp2_with fail;go_loopw [19] (fun i wr=>∃ k:Nat,k≤rs.length∧i=.int .i64 k∧Hid (∃ n M,Grp wr w.heap.size n M (iG (ae rs) (rs.take k))∧n≤k * 540∧(iG (ae rs) (rs.take k)).length≤k * 540)∧Hid (Below w.heap.size w wr)) (fun i _=>rs.length - (intOf i).toNat);case atStart=>exact ⟨0,R6 _,rfl,⟨0,_,HG0.out,by omega,by simp [iG]⟩,HB0⟩
 case round =>
  clear HG0 HB0 hmm;obtain ⟨k,hk,rfl,HG,HB⟩:=hrel;by_cases hlt:k < rs.length
  ·rcases HS.out.below HB.out with rfl | ⟨b,off,rfl,hb,hr,-⟩
   ·simp at hlt
   obtain ⟨t0,t1⟩:=hr k hlt;have hk1:=bn k;have hk2:(k:Int) < (rs.length:Int):=by omega
   have h6:rs[k].rows.length≤6:=XG.out _ (RY hlt);have z0:rs[k].name.size≤maxLen:=(Tj.out _ (RY hlt)).1;have TD:Hid (∀ q ∈ rs[k].rows,q.fits):=(Tj.out _ (RY hlt)).2.2;have HLR:Hid (∀ q ∈ rs[k].rows,q.light):=(HL.out _ (RY hlt)).2;have HER:Hid (∀ q ∈ rs[k].rows,q.rows.length≤15∧∀ e ∈ q.rows,dU q.rows.length e.e.kids):=UO.out _ (RY hlt);obtain ⟨n1,M1,hG1,hn1,hE1⟩:=HG.out;obtain ⟨E1,hE1d⟩:∃ E1,E1=iG (ae rs) (rs.take k):=⟨_,rfl⟩;rw [← hE1d] at hG1 hE1;have HE1D:Hid (E1=iG (ae rs) (rs.take k)):=hE1d;obtain ⟨W1,hW1⟩:∃ W1,W1=wr.alloc (.cells #[.string rs[k].name,.slice rs[k].ad rs[k].rows.length rs[k].cap] 70):=⟨_,rfl⟩;have hal:Below wr.heap.size wr W1:=by rw [hW1]; exact (R3 _ _).alloc (R4 _) _
   have hbn:w.heap.size < wr.heap.size:=hG1.map.lt;have HC7:Hid (Cel W1 M1 w.heap.size wr.heap.size 0 (.string rs[k].name)):=⟨by rw [hW1]; simp,by rw [hW1]; simp,hG1.fresh (R4 _),by omega⟩;have HG1:=aC (hG1.below hal);have HB1:=gY HB hal;clear hr hal hG1 HG hE1d;go_wp2_with fail;rw [← hW1];clear hW1 t0 t1 HB;obtain ⟨g7,VZ⟩:∃ g7,g7=wr.heap.size:=⟨_,rfl⟩;rw [← VZ] at HC7 hbn ⊢;clear VZ;go_loopw [26] (fun i w2=>∃ j:Nat,j≤rs[k].rows.length∧i=.int .i64 j∧Hid (∃ n M,Grp w2 w.heap.size n M (E1 ++ iE (ae rs) rs[k].name (rs[k].rows.take j))∧n≤k * 540 + j * 90∧(E1 ++ iE (ae rs) rs[k].name (rs[k].rows.take j)).length≤k * 540 + j * 90∧Cel w2 M w.heap.size g7 0 (.string rs[k].name))∧Hid (Below w.heap.size w w2)) (fun i _=>rs[k].rows.length - (intOf i).toNat);case atStart=>exact ⟨0,R6 _,rfl,⟨n1,M1,by simpa [iE] using HG1.out,by omega,by have e:iE (ae rs) rs[k].name (rs[k].rows.take 0)=[]:=rfl; rw [e,List.append_nil]; omega,HC7.out⟩,HB1⟩
   case round =>
    clear HG1 HB1 HC7;obtain ⟨j,hj,rfl,HG,HB⟩:=hrel;by_cases hjl:j < rs[k].rows.length
    ·rcases HS.out.below HB.out with hnil | ⟨b',off',he,hb2,hr,hok⟩
     ·rw [hnil] at hlt; simp at hlt
     injection he with he; injection he with he1 he2; subst he1; subst he2;have ok:=hok rs[k] (RY hlt);rcases ok with hnil | ⟨b2,TQ,had,hbb,hr2,-⟩
     ·rw [hnil] at hjl; simp at hjl
     obtain ⟨q0,q1⟩:=hr2 j hjl;have z1:rs[k].rows[j].name.size≤maxLen:=(TD.out _ (RY hjl)).1;have UV:Hid (∀ q ∈ rs[k].rows[j].rows,q.e.fits):=(TD.out _ (RY hjl)).2.2;have TG:Hid (∀ q ∈ rs[k].rows[j].rows,q.e.light):=(HLR.out _ (RY hjl)).2;have h15:rs[k].rows[j].rows.length≤15:=(HER.out _ (RY hjl)).1;have HKR:Hid (∀ e ∈ rs[k].rows[j].rows,dU rs[k].rows[j].rows.length e.e.kids):=(HER.out _ (RY hjl)).2;have Vr:Hid (eX w rs[k].rows[j].ad rs[k].rows[j].rows):=zz.mem (HS.out.mem (RY hlt)) (RY hjl);have hj1:=bn j;have hj2:(j:Int) < (rs[k].rows.length:Int):=by omega
     obtain ⟨n2,M2,hG2,hn2,hE2,YD⟩:=HG.out;obtain ⟨E2,hE2d⟩:∃ E2,E2=E1 ++ iE (ae rs) rs[k].name (rs[k].rows.take j):=⟨_,rfl⟩;rw [← hE2d] at hG2 hE2;have HE2D:Hid (E2=E1 ++ iE (ae rs) rs[k].name (rs[k].rows.take j)):=hE2d;obtain ⟨W2,hW2⟩:∃ W2,W2=wr.alloc (.cells #[.string rs[k].rows[j].name,.slice rs[k].rows[j].ad rs[k].rows[j].rows.length rs[k].rows[j].cap] 152):=⟨_,rfl⟩;have hal:Below wr.heap.size wr W2:=by rw [hW2]; exact (R3 _ _).alloc (R4 _) _
     have hbn2:w.heap.size < wr.heap.size:=hG2.map.lt;have YE:Cel W2 M2 w.heap.size wr.heap.size 0 (.string rs[k].rows[j].name):=⟨by rw [hW2]; simp,by rw [hW2]; simp,hG2.fresh (R4 _),by omega⟩;have hC9b:Cel W2 M2 w.heap.size wr.heap.size 1 (.slice rs[k].rows[j].ad rs[k].rows[j].rows.length rs[k].rows[j].cap):=⟨by rw [hW2]; simp,by rw [hW2]; simp,hG2.fresh (R4 _),by omega⟩;have HC7:Hid (Cel W2 M2 w.heap.size g7 0 (.string rs[k].name)):=YD.stl (Stl.below hal);have HC9:Hid (Cel W2 M2 w.heap.size wr.heap.size 0 (.string rs[k].rows[j].name)):=YE;have HC9b:=aC hC9b;have HG2:=aC (hG2.below hal);have HB2:=gY HB hal;rw [had];clear hr hok hr2 hG2 YD YE hC9b hal HG HB hE2d;go_wp2_with fail;rw [← hW2];clear hW2 q0 q1;refine (zP rs[k].rows[j].ad rs[k].rows[j].cap rs[k].rows[j].rows _ (by omega) (Vr.out.below HB2.out) TG.out HKR.out).mono ?_;rintro e w3 ⟨rfl,Yd⟩;obtain ⟨g9,Ye⟩:∃ g9,g9=wr.heap.size:=⟨_,rfl⟩;rw [← Ye] at HC9 HC9b hbn2 ⊢;have HB3:Hid (Below w.heap.size w w3):=HB2.out.trans (Yd.below.mono HB2.out.size);have UZ:=aC (HG2.out.below Yd.below);have TJ:Hid (Cel w3 M2 w.heap.size g7 0 (.string rs[k].name)∧Cel w3 M2 w.heap.size g9 0 (.string rs[k].rows[j].name)∧∀ (i:Nat) (h:i < rs[k].rows[j].rows.length),Cel w3 M2 w.heap.size W2.heap.size i (.bool ((cu (ah rs[k].rows[j].rows)).getD i false))):=by
      refine ⟨HC7.out.stl (Stl.below Yd.below),HC9.out.stl (Stl.below Yd.below),fun i hi=>⟨?_,Yd.lt,HG2.out.fresh (R4 _),?_⟩⟩
      ·have hn:i < (cu (ah rs[k].rows[j].rows)).length:=by rw [Ei,aJ]; exact hi
       rw [Yd.done i (by simpa [bools] using hn)];simp [bools,hn]
      ·have:=HG2.out.map.lt; omega
     have c9:=(HC9b.out.stl (Stl.below (bL:=w.heap.size) (M:=M2) Yd.below)).cell;obtain ⟨gA,hgA⟩:∃ gA,gA=W2.heap.size:=⟨_,rfl⟩;rw [← hgA] at TJ ⊢;clear Yd HC7 HC9 HC9b HG2 HB2 Ye hgA;go_wp2_with fail;clear c9;go_loopw [36] (fun i w4=>∃ m:Nat,m≤rs[k].rows[j].rows.length∧i=.int .i64 m∧Hid (∃ n M,Grp w4 w.heap.size n M (E2 ++ relE (ae rs) rs[k].name rs[k].rows[j].name (ah rs[k].rows[j].rows) m)∧n≤k * 540 + j * 90 + m * 6∧(E2 ++ relE (ae rs) rs[k].name rs[k].rows[j].name (ah rs[k].rows[j].rows) m).length≤k * 540 + j * 90 + m * 6∧(Cel w4 M w.heap.size g7 0 (.string rs[k].name)∧Cel w4 M w.heap.size g9 0 (.string rs[k].rows[j].name)∧∀ (i:Nat) (h:i < rs[k].rows[j].rows.length),Cel w4 M w.heap.size gA i (.bool ((cu (ah rs[k].rows[j].rows)).getD i false))))∧Hid (Below w.heap.size w w4)) (fun i _=>rs[k].rows[j].rows.length - (intOf i).toNat);case atStart=>exact ⟨0,R6 _,rfl,⟨n2,M2,by simpa [relE] using UZ.out,by omega,by have e:relE (ae rs) rs[k].name rs[k].rows[j].name (ah rs[k].rows[j].rows) 0=[]:=rfl; rw [e,List.append_nil]; omega,TJ.out⟩,HB3⟩
     case round =>
      clear UZ HB3 TJ;obtain ⟨m,hm,rfl,HG,HB⟩:=hrel;by_cases Tv:m < rs[k].rows[j].rows.length
      ·rcases Vr.out.below HB.out with hnil | ⟨bE,offE,U7,hbE,ZV,hok⟩
       ·rw [hnil] at Tv; simp at Tv
       obtain ⟨t0,t1,t2,t3,t4⟩:=ZV m Tv;have hm1:=bn m;have hm2:(m:Int) < (rs[k].rows[j].rows.length:Int):=by omega
       have Vm:Hid (rs[k].rows[j].rows[m].e.fits):=UV.out _ (RY Tv);have HXL:Hid (rs[k].rows[j].rows[m].e.light):=TG.out _ (RY Tv);obtain ⟨n3,M3,hG3,Vi,hE3,YD,YE,hCA⟩:=HG.out;obtain ⟨E3,hE3d⟩:∃ E3,E3=E2 ++ relE (ae rs) rs[k].name rs[k].rows[j].name (ah rs[k].rows[j].rows) m:=⟨_,rfl⟩;rw [← hE3d] at hG3 hE3;have HE3D:Hid (E3=E2 ++ relE (ae rs) rs[k].name rs[k].rows[j].name (ah rs[k].rows[j].rows) m):=hE3d;have hbn3:w.heap.size < wr.heap.size:=hG3.map.lt;obtain ⟨ng,hng⟩:∃ ng,ng=(cu (ah rs[k].rows[j].rows)).getD m false:=⟨_,rfl⟩;have HNG:Hid (ng=(cu (ah rs[k].rows[j].rows)).getD m false):=hng;rw [U7];clear hng hE3d ZV;cases ng with
       | true =>
        obtain ⟨W3,hW3⟩:∃ W3,W3=((wr.alloc (.cells #[.int .i64 rs[k].rows[j].rows[m].e.kind,.slice rs[k].rows[j].rows[m].adA rs[k].rows[j].rows[m].e.allow.length rs[k].rows[j].rows[m].capA,.string rs[k].rows[j].rows[m].e.over,.string rs[k].rows[j].rows[m].e.name,.slice rs[k].rows[j].rows[m].adK rs[k].rows[j].rows[m].e.kids.length rs[k].rows[j].rows[m].capK] 166)).alloc (.cells #[.string rs[k].name,.string rs[k].rows[j].name,.int .i64 1] 241)):=⟨_,rfl⟩;have hal:Below wr.heap.size wr W3:=by
         rw [hW3]
         repeat (first | exact R3 _ _ | refine Below.setCell ?_ (by first | (simp; done) | (simp; omega)) _ | refine Below.alloc ?_ (by first | (simp; done) | (simp; omega)) _)
        have hsz3:W3.heap.size=wr.heap.size + 2:=by rw [hW3]; simp
        have HB3:=gY HB hal;have UZ:=aC (hG3.below hal);have VG:Hid (Cel W3 M3 w.heap.size (wr.heap.size + 1) 0 (.string rs[k].name)∧Cel W3 M3 w.heap.size (wr.heap.size + 1) 1 (.string rs[k].rows[j].name)∧Cel W3 M3 w.heap.size (wr.heap.size + 1) 2 (.int .i64 1)):=by
         have hfr:FreeB M3 (wr.heap.size + 1):=hG3.fresh (by omega);refine ⟨⟨?_,by omega,hfr,by omega⟩,⟨?_,by omega,hfr,by omega⟩,⟨?_,by omega,hfr,by omega⟩⟩
         all_goals (rw [hW3]; simp)
        have TJ:Hid (Cel W3 M3 w.heap.size g7 0 (.string rs[k].name)∧Cel W3 M3 w.heap.size g9 0 (.string rs[k].rows[j].name)∧∀ (i:Nat) (h:i < rs[k].rows[j].rows.length),Cel W3 M3 w.heap.size gA i (.bool ((cu (ah rs[k].rows[j].rows)).getD i false))):=⟨YD.stl (Stl.below hal),YE.stl (Stl.below hal),fun i h=>(hCA i h).stl (Stl.below hal)⟩;have Yc:Hid (rs[k].rows[j].rows[m].ok W3):=(hok rs[k].rows[j].rows[m] (RY Tv)).below hal;have hc7:=YD.cell;have hc9:=YE.cell;have hl7:=YD.lt;have hl9:=YE.lt;have hcA:=(hCA m Tv).cell;have hlA:=(hCA m Tv).lt;rw [← HNG.out] at hcA;clear hG3 hal YD YE hCA hok HG;go_wp2_with fail;rw [← hW3];clear hW3 t0 t1 t2 t3 t4 hc7 hc9 hl7 hl9 hcA hlA;refine (vH bT nT rs (some ⟨b,off,none⟩) T rs[k].name rs[k].rows[j].rows[m] _ (HV.out.below HB3.out) HT.out (HS.out.below HB3.out) HL.out Tj.out z0 Vm.out HXL.out Yc.out).mono ?_;rintro e w5 ⟨⟨Ua,cpO,rfl,hSO,hNO⟩,hb5⟩;obtain ⟨ks,hks⟩:∃ ks,ks=gW (ae rs) rs[k].name rs[k].rows[j].rows[m].e:=⟨_,rfl⟩;rw [← hks] at hSO ⊢;have HKS:Hid (ks=gW (ae rs) rs[k].name rs[k].rows[j].rows[m].e):=hks;have hkl6:ks.length≤6:=by rw [hks]; exact tY rs WE.out _ _ (WE.out _ (RY hlt) _ (RY hjl) _ (RY Tv))
        have HKF:Hid (∀ a ∈ ks,a.t.size≤maxLen∧a.s.size≤maxLen):=by show ∀ _,_; rw [hks]; exact yG rs Tj.out _ z0 _ Vm.out
        obtain ⟨g13,WL⟩:∃ g13,g13=wr.heap.size + 1:=⟨_,rfl⟩;have TK:=gY HB3 hb5;have HG5:=aC (UZ.out.below hb5);have hS5:Stl W3 M3 w5 M3 w.heap.size:=Stl.below hb5;have VH:Hid (Cel w5 M3 w.heap.size g7 0 (.string rs[k].name)∧Cel w5 M3 w.heap.size g9 0 (.string rs[k].rows[j].name)∧∀ (i:Nat) (h:i < rs[k].rows[j].rows.length),Cel w5 M3 w.heap.size gA i (.bool ((cu (ah rs[k].rows[j].rows)).getD i false))):=⟨TJ.out.1.stl hS5,TJ.out.2.1.stl hS5,fun i h=>(TJ.out.2.2 i h).stl hS5⟩;have HD5:Hid (Cel w5 M3 w.heap.size g13 0 (.string rs[k].name)∧Cel w5 M3 w.heap.size g13 1 (.string rs[k].rows[j].name)∧Cel w5 M3 w.heap.size g13 2 (.int .i64 1)):=by rw [WL]; exact ⟨VG.out.1.stl hS5,VG.out.2.1.stl hS5,VG.out.2.2.stl hS5⟩
        have TA:Hid (ks=[] ∨ ∃ gO Tc,Ua=some ⟨gO,Tc,none⟩∧∀ (i:Nat) (h:i < ks.length),Cel w5 M3 w.heap.size gO (Tc + i * 2) (.string ks[i].t)∧Cel w5 M3 w.heap.size gO (Tc + i * 2 + 1) (.string ks[i].s)):=by
         rcases hSO with e | ⟨gO,Tc,e,hgO,WM⟩
         ·exact .inl e
         ·have hN:=hNO _ e;have WN:=UZ.out.map.lt;have hfr:FreeB M3 gO:=UZ.out.fresh hN;refine .inr ⟨gO,Tc,e,fun i hi=>⟨⟨(WM i hi).1,hgO,hfr,?_⟩,⟨(WM i hi).2,hgO,hfr,?_⟩⟩⟩
          all_goals (simp only at hN; omega)
        rw [← WL];clear hb5 hSO hNO hks hS5 VG TJ UZ HB3 Yc WL;go_wp2_with fail;go_loopw [58] (fun i w6=>∃ q:Nat,q≤ks.length∧i=.int .i64 q∧Hid (∃ n M,Grp w6 w.heap.size n M (E3 ++ (ks.take q).map (fun a:Al=>(((a.t,a.s),⟨rs[k].name,rs[k].rows[j].name,1⟩):Ky × St)))∧n≤k * 540 + j * 90 + m * 6 + q∧(E3 ++ (ks.take q).map (fun a:Al=>(((a.t,a.s),⟨rs[k].name,rs[k].rows[j].name,1⟩):Ky × St))).length≤k * 540 + j * 90 + m * 6 + q∧(Cel w6 M w.heap.size g7 0 (.string rs[k].name)∧Cel w6 M w.heap.size g9 0 (.string rs[k].rows[j].name)∧∀ (i:Nat) (h:i < rs[k].rows[j].rows.length),Cel w6 M w.heap.size gA i (.bool ((cu (ah rs[k].rows[j].rows)).getD i false)))∧(Cel w6 M w.heap.size g13 0 (.string rs[k].name)∧Cel w6 M w.heap.size g13 1 (.string rs[k].rows[j].name)∧Cel w6 M w.heap.size g13 2 (.int .i64 1))∧(ks=[] ∨ ∃ gO Tc,Ua=some ⟨gO,Tc,none⟩∧∀ (i:Nat) (h:i < ks.length),Cel w6 M w.heap.size gO (Tc + i * 2) (.string ks[i].t)∧Cel w6 M w.heap.size gO (Tc + i * 2 + 1) (.string ks[i].s)))∧Hid (Below w.heap.size w w6)) (fun i _=>ks.length - (intOf i).toNat);case atStart=>exact ⟨0,R6 _,rfl,⟨n3,M3,by simpa using HG5.out,by omega,by simpa using hE3,VH.out,HD5.out,TA.out⟩,TK⟩
        case round =>
         clear HG5 TK VH HD5 TA HB;obtain ⟨q,hq,rfl,HG,HB⟩:=hrel;by_cases VI:q < ks.length
         ·obtain ⟨n6,M6,hG6,hn6,hE6,hC6,hD6,hO6⟩:=HG.out;rcases hO6 with hnil | ⟨gO,Tc,Uv,WM⟩
          ·rw [hnil] at VI; simp at VI
          have x0:=(WM q VI).1.cell;have x1:=(WM q VI).2.cell;have y0:=hD6.1.cell;have y1:=hD6.2.1.cell;have y2:=hD6.2.2.cell;have yl:=hD6.1.lt;have hq1:=bn q;have hq2:(q:Int) < (ks.length:Int):=by omega
          obtain ⟨E6,WO⟩:∃ E6,E6=E3 ++ (ks.take q).map (fun a:Al=>(((a.t,a.s),⟨rs[k].name,rs[k].rows[j].name,1⟩):Ky × St)):=⟨_,rfl⟩;rw [← WO] at hG6 hE6;have HE6D:Hid (E6=E3 ++ (ks.take q).map (fun a:Al=>(((a.t,a.s),⟨rs[k].name,rs[k].rows[j].name,1⟩):Ky × St))):=WO;obtain ⟨W6,V6⟩:∃ W6,W6=((wr.alloc (.cells #[.string ks[q].t,.string ks[q].s] 130)).alloc (.cells #[.string rs[k].name,.string rs[k].rows[j].name,.int .i64 1] 241)):=⟨_,rfl⟩;have hal:Below wr.heap.size wr W6:=by
           rw [V6]
           repeat (first | exact R3 _ _ | refine Below.alloc ?_ (by first | (simp; done) | (simp; omega)) _)
          have YF:W6.heap.size=wr.heap.size + 2:=by rw [V6]; simp
          have UW:=gY HB hal;have XJ:=aC (hG6.below hal);have Wo:Hid (W6.heap[wr.heap.size + 1]?=some (.cells #[.string rs[k].name,.string rs[k].rows[j].name,.int .i64 1] 241)):=by show _=_; rw [V6]; exact pK wr _ _
          have hbn6:w.heap.size < wr.heap.size:=hG6.map.lt;have HS6:Hid (Stl wr M6 W6 M6 w.heap.size):=Stl.below hal;have HCK:Hid ((Cel wr M6 w.heap.size g7 0 (.string rs[k].name)∧Cel wr M6 w.heap.size g9 0 (.string rs[k].rows[j].name)∧∀ (i:Nat) (h:i < rs[k].rows[j].rows.length),Cel wr M6 w.heap.size gA i (.bool ((cu (ah rs[k].rows[j].rows)).getD i false)))∧(Cel wr M6 w.heap.size g13 0 (.string rs[k].name)∧Cel wr M6 w.heap.size g13 1 (.string rs[k].rows[j].name)∧Cel wr M6 w.heap.size g13 2 (.int .i64 1))∧(ks=[] ∨ ∃ gO Tc,Ua=some ⟨gO,Tc,none⟩∧∀ (i:Nat) (h:i < ks.length),Cel wr M6 w.heap.size gO (Tc + i * 2) (.string ks[i].t)∧Cel wr M6 w.heap.size gO (Tc + i * 2 + 1) (.string ks[i].s))):=⟨hC6,hD6,.inr ⟨gO,Tc,Uv,WM⟩⟩;have hzz:=HKF.out _ (RY VI);obtain ⟨kl,hkl⟩:=ik (ks[q].t,ks[q].s) hzz.1 hzz.2;have Ur:Hid (keyOf prog 130 (dJ (ks[q].t,ks[q].s))=some kl):=hkl;have hLL:=tZ E6 (ks[q].t,ks[q].s);have hn6b:n6 < 100000:=by omega
          have hLb:(lookL E6 (ks[q].t,ks[q].s)).length < 100000:=by omega
          have Xl:Hid (W6.heap.size=wr.heap.size + 2):=YF;rw [Uv];clear hal hG6 hC6 hD6 WM hkl HG WO hzz hLL YF
          go_wp2_with (first
           | (at_builtin; refine wpList_append_own_at _ rfl _ _ 239 rfl (w.heap.size + 1) 241 i0 _ 3 40 underlying239 hi hz0 hz1 hz2 rfl (by decide) _ _ _ rfl ((kJ XJ.out (ks[q].t,ks[q].s)).kept VZ (.inr (Ne.symm (CO XJ.out (ks[q].t,ks[q].s))))) ⟨wr.heap.size + 1,0,none⟩ 1 1 [.string rs[k].name,.string rs[k].rows[j].name,.int .i64 1] rfl rfl (World.news_of_block (cs:=#[.string rs[k].name,.string rs[k].rows[j].name,.int .i64 1]) (t:=241) (fr:=(0,0)) ((VZ.block (wr.heap.size + 1) (by rw [Xl.out]; omega) (by simp; omega)).trans Wo.out)) (by simp [Value.oneCell']) (by unfold maxLen; omega) (by omega) (by have h1:=VZ.size; rw [Xl.out] at h1; omega) ?_; intro v' w8 TP TM YG Wp)
           | (rw [← V6]; refine qc _ rfl _ _ 212 rfl 130 239 Ck oF underlying212 CL w.heap.size n6 M6 rfl XJ.out.map (by unfold maxLen; omega) (ks[q].t,ks[q].s) kl rfl Ur.out ?_; intro st7 w7 VZ hback; clear V6 x0 x1 y0 y1 y2)
           | (refine kH _ rfl _ _ _ 212 rfl w.heap.size st7 rfl rfl v' rfl 130 (n6 + 1) (fw M6 (ks[q].t,ks[q].s) (some v')) (hback w8 v' (TM.block w.heap.size (by have h1:=VZ.size; rw [Xl.out] at h1; omega) (CO XJ.out (ks[q].t,ks[q].s)))) ?_; intro w9 hM9 Ye))
          have hst:=XJ.out.step (s:=(⟨rs[k].name,rs[k].rows[j].name,1⟩:St)) VZ TP TM Wp Ye hM9;have ZW:Hid (Below w.heap.size w w9):=by
           have hs1:=UW.out.size;have b7:Below w.heap.size w w7:=UW.out.grown VZ hs1 (fun i hi=>by injection hi with hi; omega);have b8:Below w.heap.size w w8:=b7.grown TM b7.size (fun i hi=>by have:=((kJ XJ.out (ks[q].t,ks[q].s)).lt i hi).1; omega);exact b8.grown Ye b8.size (fun i hi=>by injection hi with hi; omega)
          have WP:Hid (∃ n M,Grp w9 w.heap.size n M (E3 ++ (ks.take (q + 1)).map (fun a:Al=>(((a.t,a.s),⟨rs[k].name,rs[k].rows[j].name,1⟩):Ky × St)))∧n≤k * 540 + j * 90 + m * 6 + (q + 1)∧(E3 ++ (ks.take (q + 1)).map (fun a:Al=>(((a.t,a.s),⟨rs[k].name,rs[k].rows[j].name,1⟩):Ky × St))).length≤k * 540 + j * 90 + m * 6 + (q + 1)∧(Cel w9 M w.heap.size g7 0 (.string rs[k].name)∧Cel w9 M w.heap.size g9 0 (.string rs[k].rows[j].name)∧∀ (i:Nat) (h:i < rs[k].rows[j].rows.length),Cel w9 M w.heap.size gA i (.bool ((cu (ah rs[k].rows[j].rows)).getD i false)))∧(Cel w9 M w.heap.size g13 0 (.string rs[k].name)∧Cel w9 M w.heap.size g13 1 (.string rs[k].rows[j].name)∧Cel w9 M w.heap.size g13 2 (.int .i64 1))∧(ks=[] ∨ ∃ gO Tc,Ua=some ⟨gO,Tc,none⟩∧∀ (i:Nat) (h:i < ks.length),Cel w9 M w.heap.size gO (Tc + i * 2) (.string ks[i].t)∧Cel w9 M w.heap.size gO (Tc + i * 2 + 1) (.string ks[i].s))):=by
           have Wq:=HS6.out.trans hst.2;have e:E3 ++ (ks.take (q + 1)).map (fun a:Al=>(((a.t,a.s),⟨rs[k].name,rs[k].rows[j].name,1⟩):Ky × St))=E6 ++ [((ks[q].t,ks[q].s),(⟨rs[k].name,rs[k].rows[j].name,1⟩:St))]:=by
            rw [R5 VI,List.map_append,← List.append_assoc,← HE6D.out]; rfl
           obtain ⟨k1,k2,k3⟩:=HCK.out;refine ⟨n6 + 1,_,by rw [e]; exact hst.1,by omega,by rw [e,R9]; simp; omega,⟨k1.1.stl Wq,k1.2.1.stl Wq,fun i h=>(k1.2.2 i h).stl Wq⟩,⟨k2.1.stl Wq,k2.2.1.stl Wq,k2.2.2.stl Wq⟩,?_⟩;rcases k3 with hnil | ⟨gO',Xm,e1,hc⟩
           ·exact .inl hnil
           ·exact .inr ⟨gO',Xm,e1,fun i h=>⟨(hc i h).1.stl Wq,(hc i h).2.stl Wq⟩⟩
          clear hst VZ hback TP TM YG Wp Ye hM9;go_wp2;go_roundw;case rel=>exact ⟨q + 1,by omega,by go_num,(by rw [Uv] at WP; exact WP),ZW⟩
          case measure=>simp [intOf] <;> omega
         ·obtain rfl:q=ks.length:=by omega
          have WP:Hid (∃ n M,Grp wr w.heap.size n M (E2 ++ relE (ae rs) rs[k].name rs[k].rows[j].name (ah rs[k].rows[j].rows) (m + 1))∧n≤k * 540 + j * 90 + (m + 1) * 6∧(E2 ++ relE (ae rs) rs[k].name rs[k].rows[j].name (ah rs[k].rows[j].rows) (m + 1)).length≤k * 540 + j * 90 + (m + 1) * 6∧(Cel wr M w.heap.size g7 0 (.string rs[k].name)∧Cel wr M w.heap.size g9 0 (.string rs[k].rows[j].name)∧∀ (i:Nat) (h:i < rs[k].rows[j].rows.length),Cel wr M w.heap.size gA i (.bool ((cu (ah rs[k].rows[j].rows)).getD i false)))):=by
           obtain ⟨n,M,h1,hn,h2,h3,-,-⟩:=HG.out;rw [Sc] at h1 h2;have e:E2 ++ relE (ae rs) rs[k].name rs[k].rows[j].name (ah rs[k].rows[j].rows) (m + 1)=E3 ++ ks.map (fun a:Al=>(((a.t,a.s),⟨rs[k].name,rs[k].rows[j].name,1⟩):Ky × St)):=by
            rw [tX _ _ _ _ _ Tv _ HNG.out,← List.append_assoc,← HE3D.out,HKS.out]; rfl
           refine ⟨n,M,by rw [e]; exact h1,by omega,by rw [e]; omega,h3⟩
          clear HG;go_wp2;go_roundw;case rel=>exact ⟨m + 1,by omega,by go_num,WP,HB⟩
          case measure=>simp [intOf] <;> omega
       | false =>
        obtain ⟨W3,hW3⟩:∃ W3,W3=((wr.alloc (.cells #[.int .i64 rs[k].rows[j].rows[m].e.kind,.slice rs[k].rows[j].rows[m].adA rs[k].rows[j].rows[m].e.allow.length rs[k].rows[j].rows[m].capA,.string rs[k].rows[j].rows[m].e.over,.string rs[k].rows[j].rows[m].e.name,.slice rs[k].rows[j].rows[m].adK rs[k].rows[j].rows[m].e.kids.length rs[k].rows[j].rows[m].capK] 166)).alloc (.cells #[.string rs[k].name,.string rs[k].rows[j].name,.int .i64 0] 241)):=⟨_,rfl⟩;have hal:Below wr.heap.size wr W3:=by
         rw [hW3]
         repeat (first | exact R3 _ _ | refine Below.setCell ?_ (by first | (simp; done) | (simp; omega)) _ | refine Below.alloc ?_ (by first | (simp; done) | (simp; omega)) _)
        have hsz3:W3.heap.size=wr.heap.size + 2:=by rw [hW3]; simp
        have HB3:=gY HB hal;have UZ:=aC (hG3.below hal);have VG:Hid (Cel W3 M3 w.heap.size (wr.heap.size + 1) 0 (.string rs[k].name)∧Cel W3 M3 w.heap.size (wr.heap.size + 1) 1 (.string rs[k].rows[j].name)∧Cel W3 M3 w.heap.size (wr.heap.size + 1) 2 (.int .i64 0)):=by
         have hfr:FreeB M3 (wr.heap.size + 1):=hG3.fresh (by omega);refine ⟨⟨?_,by omega,hfr,by omega⟩,⟨?_,by omega,hfr,by omega⟩,⟨?_,by omega,hfr,by omega⟩⟩
         all_goals (rw [hW3]; simp)
        have TJ:Hid (Cel W3 M3 w.heap.size g7 0 (.string rs[k].name)∧Cel W3 M3 w.heap.size g9 0 (.string rs[k].rows[j].name)∧∀ (i:Nat) (h:i < rs[k].rows[j].rows.length),Cel W3 M3 w.heap.size gA i (.bool ((cu (ah rs[k].rows[j].rows)).getD i false))):=⟨YD.stl (Stl.below hal),YE.stl (Stl.below hal),fun i h=>(hCA i h).stl (Stl.below hal)⟩;have Yc:Hid (rs[k].rows[j].rows[m].ok W3):=(hok rs[k].rows[j].rows[m] (RY Tv)).below hal;have hc7:=YD.cell;have hc9:=YE.cell;have hl7:=YD.lt;have hl9:=YE.lt;have hcA:=(hCA m Tv).cell;have hlA:=(hCA m Tv).lt;rw [← HNG.out] at hcA;clear hG3 hal YD YE hCA hok HG;go_wp2_with fail;rw [← hW3];clear hW3 t0 t1 t2 t3 t4 hc7 hc9 hl7 hl9 hcA hlA;refine (vH bT nT rs (some ⟨b,off,none⟩) T rs[k].name rs[k].rows[j].rows[m] _ (HV.out.below HB3.out) HT.out (HS.out.below HB3.out) HL.out Tj.out z0 Vm.out HXL.out Yc.out).mono ?_;rintro e w5 ⟨⟨Ua,cpO,rfl,hSO,hNO⟩,hb5⟩;obtain ⟨ks,hks⟩:∃ ks,ks=gW (ae rs) rs[k].name rs[k].rows[j].rows[m].e:=⟨_,rfl⟩;rw [← hks] at hSO ⊢;have HKS:Hid (ks=gW (ae rs) rs[k].name rs[k].rows[j].rows[m].e):=hks;have hkl6:ks.length≤6:=by rw [hks]; exact tY rs WE.out _ _ (WE.out _ (RY hlt) _ (RY hjl) _ (RY Tv))
        have HKF:Hid (∀ a ∈ ks,a.t.size≤maxLen∧a.s.size≤maxLen):=by show ∀ _,_; rw [hks]; exact yG rs Tj.out _ z0 _ Vm.out
        obtain ⟨g13,WL⟩:∃ g13,g13=wr.heap.size + 1:=⟨_,rfl⟩;have TK:=gY HB3 hb5;have HG5:=aC (UZ.out.below hb5);have hS5:Stl W3 M3 w5 M3 w.heap.size:=Stl.below hb5;have VH:Hid (Cel w5 M3 w.heap.size g7 0 (.string rs[k].name)∧Cel w5 M3 w.heap.size g9 0 (.string rs[k].rows[j].name)∧∀ (i:Nat) (h:i < rs[k].rows[j].rows.length),Cel w5 M3 w.heap.size gA i (.bool ((cu (ah rs[k].rows[j].rows)).getD i false))):=⟨TJ.out.1.stl hS5,TJ.out.2.1.stl hS5,fun i h=>(TJ.out.2.2 i h).stl hS5⟩;have HD5:Hid (Cel w5 M3 w.heap.size g13 0 (.string rs[k].name)∧Cel w5 M3 w.heap.size g13 1 (.string rs[k].rows[j].name)∧Cel w5 M3 w.heap.size g13 2 (.int .i64 0)):=by rw [WL]; exact ⟨VG.out.1.stl hS5,VG.out.2.1.stl hS5,VG.out.2.2.stl hS5⟩
        have TA:Hid (ks=[] ∨ ∃ gO Tc,Ua=some ⟨gO,Tc,none⟩∧∀ (i:Nat) (h:i < ks.length),Cel w5 M3 w.heap.size gO (Tc + i * 2) (.string ks[i].t)∧Cel w5 M3 w.heap.size gO (Tc + i * 2 + 1) (.string ks[i].s)):=by
         rcases hSO with e | ⟨gO,Tc,e,hgO,WM⟩
         ·exact .inl e
         ·have hN:=hNO _ e;have WN:=UZ.out.map.lt;have hfr:FreeB M3 gO:=UZ.out.fresh hN;refine .inr ⟨gO,Tc,e,fun i hi=>⟨⟨(WM i hi).1,hgO,hfr,?_⟩,⟨(WM i hi).2,hgO,hfr,?_⟩⟩⟩
          all_goals (simp only at hN; omega)
        rw [← WL];clear hb5 hSO hNO hks hS5 VG TJ UZ HB3 Yc WL;go_wp2_with fail;go_loopw [58] (fun i w6=>∃ q:Nat,q≤ks.length∧i=.int .i64 q∧Hid (∃ n M,Grp w6 w.heap.size n M (E3 ++ (ks.take q).map (fun a:Al=>(((a.t,a.s),⟨rs[k].name,rs[k].rows[j].name,0⟩):Ky × St)))∧n≤k * 540 + j * 90 + m * 6 + q∧(E3 ++ (ks.take q).map (fun a:Al=>(((a.t,a.s),⟨rs[k].name,rs[k].rows[j].name,0⟩):Ky × St))).length≤k * 540 + j * 90 + m * 6 + q∧(Cel w6 M w.heap.size g7 0 (.string rs[k].name)∧Cel w6 M w.heap.size g9 0 (.string rs[k].rows[j].name)∧∀ (i:Nat) (h:i < rs[k].rows[j].rows.length),Cel w6 M w.heap.size gA i (.bool ((cu (ah rs[k].rows[j].rows)).getD i false)))∧(Cel w6 M w.heap.size g13 0 (.string rs[k].name)∧Cel w6 M w.heap.size g13 1 (.string rs[k].rows[j].name)∧Cel w6 M w.heap.size g13 2 (.int .i64 0))∧(ks=[] ∨ ∃ gO Tc,Ua=some ⟨gO,Tc,none⟩∧∀ (i:Nat) (h:i < ks.length),Cel w6 M w.heap.size gO (Tc + i * 2) (.string ks[i].t)∧Cel w6 M w.heap.size gO (Tc + i * 2 + 1) (.string ks[i].s)))∧Hid (Below w.heap.size w w6)) (fun i _=>ks.length - (intOf i).toNat);case atStart=>exact ⟨0,R6 _,rfl,⟨n3,M3,by simpa using HG5.out,by omega,by simpa using hE3,VH.out,HD5.out,TA.out⟩,TK⟩
        case round =>
         clear HG5 TK VH HD5 TA HB;obtain ⟨q,hq,rfl,HG,HB⟩:=hrel;by_cases VI:q < ks.length
         ·obtain ⟨n6,M6,hG6,hn6,hE6,hC6,hD6,hO6⟩:=HG.out;rcases hO6 with hnil | ⟨gO,Tc,Uv,WM⟩
          ·rw [hnil] at VI; simp at VI
          have x0:=(WM q VI).1.cell;have x1:=(WM q VI).2.cell;have y0:=hD6.1.cell;have y1:=hD6.2.1.cell;have y2:=hD6.2.2.cell;have yl:=hD6.1.lt;have hq1:=bn q;have hq2:(q:Int) < (ks.length:Int):=by omega
          obtain ⟨E6,WO⟩:∃ E6,E6=E3 ++ (ks.take q).map (fun a:Al=>(((a.t,a.s),⟨rs[k].name,rs[k].rows[j].name,0⟩):Ky × St)):=⟨_,rfl⟩;rw [← WO] at hG6 hE6;have HE6D:Hid (E6=E3 ++ (ks.take q).map (fun a:Al=>(((a.t,a.s),⟨rs[k].name,rs[k].rows[j].name,0⟩):Ky × St))):=WO;obtain ⟨W6,V6⟩:∃ W6,W6=((wr.alloc (.cells #[.string ks[q].t,.string ks[q].s] 130)).alloc (.cells #[.string rs[k].name,.string rs[k].rows[j].name,.int .i64 0] 241)):=⟨_,rfl⟩;have hal:Below wr.heap.size wr W6:=by
           rw [V6]
           repeat (first | exact R3 _ _ | refine Below.alloc ?_ (by first | (simp; done) | (simp; omega)) _)
          have YF:W6.heap.size=wr.heap.size + 2:=by rw [V6]; simp
          have UW:=gY HB hal;have XJ:=aC (hG6.below hal);have Wo:Hid (W6.heap[wr.heap.size + 1]?=some (.cells #[.string rs[k].name,.string rs[k].rows[j].name,.int .i64 0] 241)):=by show _=_; rw [V6]; exact pK wr _ _
          have hbn6:w.heap.size < wr.heap.size:=hG6.map.lt;have HS6:Hid (Stl wr M6 W6 M6 w.heap.size):=Stl.below hal;have HCK:Hid ((Cel wr M6 w.heap.size g7 0 (.string rs[k].name)∧Cel wr M6 w.heap.size g9 0 (.string rs[k].rows[j].name)∧∀ (i:Nat) (h:i < rs[k].rows[j].rows.length),Cel wr M6 w.heap.size gA i (.bool ((cu (ah rs[k].rows[j].rows)).getD i false)))∧(Cel wr M6 w.heap.size g13 0 (.string rs[k].name)∧Cel wr M6 w.heap.size g13 1 (.string rs[k].rows[j].name)∧Cel wr M6 w.heap.size g13 2 (.int .i64 0))∧(ks=[] ∨ ∃ gO Tc,Ua=some ⟨gO,Tc,none⟩∧∀ (i:Nat) (h:i < ks.length),Cel wr M6 w.heap.size gO (Tc + i * 2) (.string ks[i].t)∧Cel wr M6 w.heap.size gO (Tc + i * 2 + 1) (.string ks[i].s))):=⟨hC6,hD6,.inr ⟨gO,Tc,Uv,WM⟩⟩;have hzz:=HKF.out _ (RY VI);obtain ⟨kl,hkl⟩:=ik (ks[q].t,ks[q].s) hzz.1 hzz.2;have Ur:Hid (keyOf prog 130 (dJ (ks[q].t,ks[q].s))=some kl):=hkl;have hLL:=tZ E6 (ks[q].t,ks[q].s);have hn6b:n6 < 100000:=by omega
          have hLb:(lookL E6 (ks[q].t,ks[q].s)).length < 100000:=by omega
          have Xl:Hid (W6.heap.size=wr.heap.size + 2):=YF;rw [Uv];clear hal hG6 hC6 hD6 WM hkl HG WO hzz hLL YF
          go_wp2_with (first
           | (at_builtin; refine wpList_append_own_at _ rfl _ _ 239 rfl (w.heap.size + 1) 241 i0 _ 3 40 underlying239 hi hz0 hz1 hz2 rfl (by decide) _ _ _ rfl ((kJ XJ.out (ks[q].t,ks[q].s)).kept VZ (.inr (Ne.symm (CO XJ.out (ks[q].t,ks[q].s))))) ⟨wr.heap.size + 1,0,none⟩ 1 1 [.string rs[k].name,.string rs[k].rows[j].name,.int .i64 0] rfl rfl (World.news_of_block (cs:=#[.string rs[k].name,.string rs[k].rows[j].name,.int .i64 0]) (t:=241) (fr:=(0,0)) ((VZ.block (wr.heap.size + 1) (by rw [Xl.out]; omega) (by simp; omega)).trans Wo.out)) (by simp [Value.oneCell']) (by unfold maxLen; omega) (by omega) (by have h1:=VZ.size; rw [Xl.out] at h1; omega) ?_; intro v' w8 TP TM YG Wp)
           | (rw [← V6]; refine qc _ rfl _ _ 212 rfl 130 239 Ck oF underlying212 CL w.heap.size n6 M6 rfl XJ.out.map (by unfold maxLen; omega) (ks[q].t,ks[q].s) kl rfl Ur.out ?_; intro st7 w7 VZ hback; clear V6 x0 x1 y0 y1 y2)
           | (refine kH _ rfl _ _ _ 212 rfl w.heap.size st7 rfl rfl v' rfl 130 (n6 + 1) (fw M6 (ks[q].t,ks[q].s) (some v')) (hback w8 v' (TM.block w.heap.size (by have h1:=VZ.size; rw [Xl.out] at h1; omega) (CO XJ.out (ks[q].t,ks[q].s)))) ?_; intro w9 hM9 Ye))
          have hst:=XJ.out.step (s:=(⟨rs[k].name,rs[k].rows[j].name,0⟩:St)) VZ TP TM Wp Ye hM9;have ZW:Hid (Below w.heap.size w w9):=by
           have hs1:=UW.out.size;have b7:Below w.heap.size w w7:=UW.out.grown VZ hs1 (fun i hi=>by injection hi with hi; omega);have b8:Below w.heap.size w w8:=b7.grown TM b7.size (fun i hi=>by have:=((kJ XJ.out (ks[q].t,ks[q].s)).lt i hi).1; omega);exact b8.grown Ye b8.size (fun i hi=>by injection hi with hi; omega)
          have WP:Hid (∃ n M,Grp w9 w.heap.size n M (E3 ++ (ks.take (q + 1)).map (fun a:Al=>(((a.t,a.s),⟨rs[k].name,rs[k].rows[j].name,0⟩):Ky × St)))∧n≤k * 540 + j * 90 + m * 6 + (q + 1)∧(E3 ++ (ks.take (q + 1)).map (fun a:Al=>(((a.t,a.s),⟨rs[k].name,rs[k].rows[j].name,0⟩):Ky × St))).length≤k * 540 + j * 90 + m * 6 + (q + 1)∧(Cel w9 M w.heap.size g7 0 (.string rs[k].name)∧Cel w9 M w.heap.size g9 0 (.string rs[k].rows[j].name)∧∀ (i:Nat) (h:i < rs[k].rows[j].rows.length),Cel w9 M w.heap.size gA i (.bool ((cu (ah rs[k].rows[j].rows)).getD i false)))∧(Cel w9 M w.heap.size g13 0 (.string rs[k].name)∧Cel w9 M w.heap.size g13 1 (.string rs[k].rows[j].name)∧Cel w9 M w.heap.size g13 2 (.int .i64 0))∧(ks=[] ∨ ∃ gO Tc,Ua=some ⟨gO,Tc,none⟩∧∀ (i:Nat) (h:i < ks.length),Cel w9 M w.heap.size gO (Tc + i * 2) (.string ks[i].t)∧Cel w9 M w.heap.size gO (Tc + i * 2 + 1) (.string ks[i].s))):=by
           have Wq:=HS6.out.trans hst.2;have e:E3 ++ (ks.take (q + 1)).map (fun a:Al=>(((a.t,a.s),⟨rs[k].name,rs[k].rows[j].name,0⟩):Ky × St))=E6 ++ [((ks[q].t,ks[q].s),(⟨rs[k].name,rs[k].rows[j].name,0⟩:St))]:=by
            rw [R5 VI,List.map_append,← List.append_assoc,← HE6D.out]; rfl
           obtain ⟨k1,k2,k3⟩:=HCK.out;refine ⟨n6 + 1,_,by rw [e]; exact hst.1,by omega,by rw [e,R9]; simp; omega,⟨k1.1.stl Wq,k1.2.1.stl Wq,fun i h=>(k1.2.2 i h).stl Wq⟩,⟨k2.1.stl Wq,k2.2.1.stl Wq,k2.2.2.stl Wq⟩,?_⟩;rcases k3 with hnil | ⟨gO',Xm,e1,hc⟩
           ·exact .inl hnil
           ·exact .inr ⟨gO',Xm,e1,fun i h=>⟨(hc i h).1.stl Wq,(hc i h).2.stl Wq⟩⟩
          clear hst VZ hback TP TM YG Wp Ye hM9;go_wp2;go_roundw;case rel=>exact ⟨q + 1,by omega,by go_num,(by rw [Uv] at WP; exact WP),ZW⟩
          case measure=>simp [intOf] <;> omega
         ·obtain rfl:q=ks.length:=by omega
          have WP:Hid (∃ n M,Grp wr w.heap.size n M (E2 ++ relE (ae rs) rs[k].name rs[k].rows[j].name (ah rs[k].rows[j].rows) (m + 1))∧n≤k * 540 + j * 90 + (m + 1) * 6∧(E2 ++ relE (ae rs) rs[k].name rs[k].rows[j].name (ah rs[k].rows[j].rows) (m + 1)).length≤k * 540 + j * 90 + (m + 1) * 6∧(Cel wr M w.heap.size g7 0 (.string rs[k].name)∧Cel wr M w.heap.size g9 0 (.string rs[k].rows[j].name)∧∀ (i:Nat) (h:i < rs[k].rows[j].rows.length),Cel wr M w.heap.size gA i (.bool ((cu (ah rs[k].rows[j].rows)).getD i false)))):=by
           obtain ⟨n,M,h1,hn,h2,h3,-,-⟩:=HG.out;rw [Sc] at h1 h2;have e:E2 ++ relE (ae rs) rs[k].name rs[k].rows[j].name (ah rs[k].rows[j].rows) (m + 1)=E3 ++ ks.map (fun a:Al=>(((a.t,a.s),⟨rs[k].name,rs[k].rows[j].name,0⟩):Ky × St)):=by
            rw [tX _ _ _ _ _ Tv _ HNG.out,← List.append_assoc,← HE3D.out,HKS.out]; rfl
           refine ⟨n,M,by rw [e]; exact h1,by omega,by rw [e]; omega,h3⟩
          clear HG;go_wp2;go_roundw;case rel=>exact ⟨m + 1,by omega,by go_num,WP,HB⟩
          case measure=>simp [intOf] <;> omega
      ·obtain rfl:m=rs[k].rows[j].rows.length:=by omega
       have WP:Hid (∃ n M,Grp wr w.heap.size n M (E1 ++ iE (ae rs) rs[k].name (rs[k].rows.take (j + 1)))∧n≤k * 540 + (j + 1) * 90∧(E1 ++ iE (ae rs) rs[k].name (rs[k].rows.take (j + 1))).length≤k * 540 + (j + 1) * 90∧Cel wr M w.heap.size g7 0 (.string rs[k].name)):=by
        obtain ⟨n,M,h1,hn,h2,h3⟩:=HG.out;have e:E1 ++ iE (ae rs) rs[k].name (rs[k].rows.take (j + 1))=E2 ++ relE (ae rs) rs[k].name rs[k].rows[j].name (ah rs[k].rows[j].rows) rs[k].rows[j].rows.length:=by
         rw [G5 _ _ _ _ hjl,← List.append_assoc,← HE2D.out]
        refine ⟨n,M,?_,by omega,?_,h3.1⟩
        ·rw [e]; exact h1
        ·rw [e]; omega
       go_wp2;go_roundw;case rel=>exact ⟨j + 1,by omega,by go_num,WP,HB⟩
       case measure=>simp [intOf] <;> omega
    ·obtain rfl:j=rs[k].rows.length:=by omega
     have WP:Hid (∃ n M,Grp wr w.heap.size n M (iG (ae rs) (rs.take (k + 1)))∧n≤(k + 1) * 540∧(iG (ae rs) (rs.take (k + 1))).length≤(k + 1) * 540):=by
      obtain ⟨n,M,h1,hn,h2,h3⟩:=HG.out;rw [Sc] at h1 h2;have e:iG (ae rs) (rs.take (k + 1))=E1 ++ iE (ae rs) rs[k].name rs[k].rows:=by rw [G6 _ _ _ hlt,← HE1D.out]
      refine ⟨n,M,?_,by omega,?_⟩
      ·rw [e]; exact h1
      ·rw [e]; omega
     go_wp2;go_roundw;case rel=>exact ⟨k + 1,by omega,by go_num,WP,HB⟩
     case measure=>simp [intOf] <;> omega
  ·obtain rfl:k=rs.length:=by omega
   have WP:Hid (∃ n M,Grp wr w.heap.size n M (iG (ae rs) rs)):=by
    obtain ⟨n,M,h1,-⟩:=HG.out;rw [Sc] at h1;exact ⟨n,M,h1⟩
   go_wp2;go_ret;exact ⟨rfl,WP.out,HB.out⟩
end Go.Proofs.YtdaoiceeidoehaaGreat
