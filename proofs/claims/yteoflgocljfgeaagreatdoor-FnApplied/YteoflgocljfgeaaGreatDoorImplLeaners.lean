/- Contract of the program's function on what leans on what. -/
import Derived.Test.YteoflgocljfgeaaGreatDoorJ26
open Go.Proofs.Tryz
set_option maxHeartbeats 80000000
namespace Go.Proofs.YteoflgocljfgeaaGreatDoor
open Go.ChangeShapes Go.WideShapes Go.ChangeAt Go.RowKit Go.Maps
open Pl
def jI (b:Bool):Int:=if b then 1 else 0
def xP (ts:List Ty) (t r:ByteArray) (ng:Bool) (e:Ex):List (Ky × St):=(fU ts t e).map fun a=>((a.t,a.s),⟨t,r,jI ng⟩)
def relE (ts:List Ty) (t r:ByteArray) (es:List Ex):Nat→List (Ky × St)
 | 0=>[]
 | i + 1=>relE ts t r es i ++ (match es[i]? with | none=>[] | some e=>xP ts t r ((dD es).getD i false) e)
def gQ (ts:List Ty) (t:ByteArray) (qs:List RR):List (Ky × St):=qs.flatMap fun q=>relE ts t q.name (au q.rows) q.rows.length
def gU (ts:List Ty) (rs:List TR):List (Ky × St):=rs.flatMap fun t=>gQ ts t.name t.rows
theorem Eh (ts:List Ty) (t:ByteArray) (qs:List RR) (j:Nat) (h:j < qs.length):gQ ts t (qs.take (j + 1))=gQ ts t (qs.take j) ++ relE ts t qs[j].name (au qs[j].rows) qs[j].rows.length:=by
 unfold gQ;rw [List.take_succ_eq_append_getElem h,List.flatMap_append,List.flatMap_singleton]
theorem Ei (ts:List Ty) (rs:List TR) (k:Nat) (h:k < rs.length):gU ts (rs.take (k + 1))=gU ts (rs.take k) ++ gQ ts rs[k].name rs[k].rows:=by
 unfold gU;rw [List.take_succ_eq_append_getElem h,List.flatMap_append,List.flatMap_singleton]
theorem tq (ts:List Ty) (t r:ByteArray) (rows:List ER) (i:Nat) (h:i < rows.length) (ng:Bool) (hn:ng=(dD (au rows)).getD i false):relE ts t r (au rows) (i + 1)=relE ts t r (au rows) i ++ xP ts t r ng rows[i].e:=by
 have e:(au rows)[i]?=some rows[i].e:=by simp [au,h]
 simp only [relE,e,hn]
theorem tC (rs:List TR) (hl:∀ r ∈ rs,∀ q ∈ r.rows,∀ e ∈ q.rows,e.e.allow.length≤6) (typ:ByteArray) (e:Ex) (he:e.allow.length≤6):(fU (ah rs) typ e).length≤6:=by
 unfold fU;split
 ·exact Nat.le_trans (zH _) he
 split
 ·simp
 split
 ·rw [List.length_map];unfold eG;split
  ·refine Nat.le_trans (wY _ _ _ _) ?_;unfold aN;cases h:fE (ah rs) typ e.over with
   | none=>simp [aT]
   | some es =>
    obtain ⟨t,ht,q,hq,-,-,rfl⟩:=nV h;have h1:=hl t ht q hq;have:∀ (xs:List ER),(∀ q ∈ xs,q.e.allow.length≤6)→(aT (au xs)).length≤6:=by
     intro xs
     induction xs with
     | nil=>intro _; simp [au,aT]
     | cons x xs ih =>
      intro h;have e4:au (x::xs)=x.e::au xs:=rfl;rw [e4];simp only [aT];split
      ·exact h x (by simp)
      ·exact ih (fun q hq=>h q (by simp [hq]))
    exact this q.rows h1
  ·simp
 ·simp
theorem xQ (rs:List TR) (hf:∀ r ∈ rs,r.fits) (typ:ByteArray) (ht:typ.size≤maxLen) (e:Ex) (he:e.fits):∀ a ∈ fU (ah rs) typ e,a.t.size≤maxLen∧a.s.size≤maxLen:=by
 have hA:∀ (xs:List Al),(∀ a ∈ xs,a.fits)→∀ a ∈ bW xs,a.t.size≤maxLen∧a.s.size≤maxLen:=by
  intro xs
  induction xs with
  | nil=>intro _ a ha; cases ha
  | cons b xs ih =>
   intro h a ha;simp only [bW] at ha;split at ha
   ·exact ih (fun q hq=>h q (by simp [hq])) a ha
   ·rcases List.mem_cons.1 ha with rfl | ha
    ·exact h a (by simp)
    ·exact ih (fun q hq=>h q (by simp [hq])) a ha
 have hG:∀ (xs:List Al) (rel:ByteArray),(∀ a ∈ xs,a.fits)→∀ g ∈ gl (ah rs) rel xs,g.size≤maxLen:=by
  intro xs rel
  induction xs with
  | nil=>intro _ a ha; cases ha
  | cons b xs ih =>
   intro h a ha;simp only [gl] at ha;split at ha
   ·exact ih (fun q hq=>h q (by simp [hq])) a ha
   ·rcases List.mem_cons.1 ha with rfl | ha
    ·exact (h b (by simp)).1
    ·exact ih (fun q hq=>h q (by simp [hq])) a ha
 unfold fU;split
 ·exact hA _ he.1
 split
 ·intro a ha; simp at ha; subst ha; exact ⟨ht,he.2.2.1⟩
 split
 ·intro a ha;obtain ⟨g,hg,rfl⟩:=List.mem_map.1 ha;refine ⟨?_,he.2.2.1⟩;unfold eG at hg;split at hg
  ·unfold fH at hg;refine hG _ _ ?_ g hg;unfold aN;cases e3:fE (ah rs) typ e.over with
   | none=>intro a ha; simp [aT] at ha
   | some es =>
    obtain ⟨t,ht',q,hq,-,-,rfl⟩:=nV e3;have hq2:=((hf t ht').2.2 q hq).2.2;intro a ha;have:∀ (xs:List ER),(∀ q ∈ xs,q.e.fits)→∀ a ∈ aT (au xs),a.fits:=by
     intro xs
     induction xs with
     | nil=>intro _ a ha; simp [au,aT] at ha
     | cons x xs ih =>
      intro h a ha;have e4:au (x::xs)=x.e::au xs:=rfl;rw [e4] at ha;simp only [aT] at ha;split at ha
      ·exact (h x (by simp)).1 a ha
      ·exact ih (fun q hq=>h q (by simp [hq])) a ha
    exact this q.rows hq2 a ha
  ·cases hg
 ·intro a ha; cases ha
theorem KY:(prog.info? 239).map (fun i=>(i.zero,i.size,i.bytes))=some (some (.agg #[.string ⟨#[]⟩,.string ⟨#[]⟩,.int .i64 0]),3,40):=by kernel_rfl
theorem AU (u:World):(zeroValue 237).run prog u=.ok (.slice none 0 0) u:=by kernel_rfl
theorem ku {w:World} {bL n:Nat} {M:Ky→Option Value} {E:List (Ky × St)} (h:Grp w bL n M E) (y:Ky):w.ownsRow (bL + 1) 239 3 ((M y).getD (.slice none 0 0)) (lookL E y).length (fT (lookL E y)):=by
 rcases h.row y with ⟨e,e2⟩ | ⟨v,e,ho⟩
 ·rw [e,e2]; exact World.ownsRow_nil _ _ _ _
 ·rw [e]; exact ho
theorem AV {w:World} {bL n:Nat} {M:Ky→Option Value} {E:List (Ky × St)} (h:Grp w bL n M E) (y:Ky):some bL ≠ ((M y).getD (.slice none 0 0)).ownBlock:=by
 cases e:M y with
 | none=>simp [Value.ownBlock]
 | some v=>intro e2; have:=(h.lt e (g:=bL) (by simpa using e2.symm)).1; omega
theorem tF (E:List (Ky × St)) (y:Ky):(lookL E y).length≤E.length:=List.length_filterMap_le _ _
set_option maxRecDepth 100000 in
theorem yF (ad:Option Addr) (cap:Nat) (rs:List TR) (bT nT:Nat) (T:Ky→Option Value) (w:World) (hlen:rs.length≤6) (hs:gp w ad rs) (hl:∀ r ∈ rs,r.light) (hf:∀ r ∈ rs,r.fits) (hrl:∀ r ∈ rs,r.rows.length≤6) (hel:∀ r ∈ rs,∀ q ∈ r.rows,q.rows.length≤15∧∀ e ∈ q.rows,bY q.rows.length e.e.kids) (hal6:∀ r ∈ rs,∀ q ∈ r.rows,∀ e ∈ q.rows,e.e.allow.length≤6) (hV:aJ bI prog 147 w bT nT T) (hT:Tab rs T) :
  Calls prog 107 #[.slice ad rs.length cap,.map (some bT)] w fun e w'=>e=.returned (.map (some w.heap.size))∧(∃ n M,Grp w' w.heap.size n M (gU (ah rs) rs))∧Below w.heap.size w w':=by
 have HS:Hid (gp w ad rs):=hs;have HL:Hid (∀ r ∈ rs,r.light):=hl;have HFT:Hid (∀ r ∈ rs,r.fits):=hf;have HRL:Hid (∀ r ∈ rs,r.rows.length≤6):=hrl;have HEL:Hid (∀ r ∈ rs,∀ q ∈ r.rows,q.rows.length≤15∧∀ e ∈ q.rows,bY q.rows.length e.e.kids):=hel;have HV:Hid (aJ bI prog 147 w bT nT T):=hV;have HT:Hid (Tab rs T):=hT;have HA6:Hid (∀ r ∈ rs,∀ q ∈ r.rows,∀ e ∈ q.rows,e.e.allow.length≤6):=hal6;clear hs hl hf hrl hel hV hT hal6;obtain ⟨i0,hi,hz0,hz1,hz2⟩:=info_parts KY;have HG0:Hid (Grp (w.alloc (.map #[] 0)) w.heap.size 0 (fun _=>none) []):=grp_made w;have HB0:Hid (Below w.heap.size w (w.alloc (.map #[] 0))):=(Below.refl _ _).alloc (Nat.le_refl _) _;have hmm:=@run_makeMap prog;go_enter func107,ntmps107;go_wp2_with fail;go_loopw [19] (fun i wr=>∃ k:Nat,k≤rs.length∧i=.int .i64 k∧Hid (∃ n M,Grp wr w.heap.size n M (gU (ah rs) (rs.take k))∧n≤k * 540∧(gU (ah rs) (rs.take k)).length≤k * 540)∧Hid (Below w.heap.size w wr)) (fun i _=>rs.length - (intOf i).toNat);case atStart=>exact ⟨0,Nat.zero_le _,rfl,⟨0,_,HG0.out,by omega,by simp [gU]⟩,HB0⟩
 case round =>
  clear HG0 HB0 hmm;obtain ⟨k,hk,rfl,HG,HB⟩:=hrel;by_cases hlt:k < rs.length
  ·rcases HS.out.below HB.out with rfl | ⟨b,off,rfl,hb,hr,-⟩
   ·simp at hlt
   obtain ⟨t0,t1⟩:=hr k hlt;have hk1:=bR k;have hk2:(k:Int) < (rs.length:Int):=by omega
   have h6:rs[k].rows.length≤6:=HRL.out _ (List.getElem_mem hlt);have z0:rs[k].name.size≤maxLen:=(HFT.out _ (List.getElem_mem hlt)).1;have HFR:Hid (∀ q ∈ rs[k].rows,q.fits):=(HFT.out _ (List.getElem_mem hlt)).2.2;have HLR:Hid (∀ q ∈ rs[k].rows,q.light):=(HL.out _ (List.getElem_mem hlt)).2;have HER:Hid (∀ q ∈ rs[k].rows,q.rows.length≤15∧∀ e ∈ q.rows,bY q.rows.length e.e.kids):=HEL.out _ (List.getElem_mem hlt);obtain ⟨n1,M1,hG1,hn1,hE1⟩:=HG.out;obtain ⟨E1,hE1d⟩:∃ E1,E1=gU (ah rs) (rs.take k):=⟨_,rfl⟩;rw [← hE1d] at hG1 hE1;have HE1D:Hid (E1=gU (ah rs) (rs.take k)):=hE1d;obtain ⟨W1,hW1⟩:∃ W1,W1=wr.alloc (.cells #[.string rs[k].name,.slice rs[k].ad rs[k].rows.length rs[k].cap] 63):=⟨_,rfl⟩;have hal:Below wr.heap.size wr W1:=by rw [hW1]; exact (Below.refl _ _).alloc (Nat.le_refl _) _
   have hbn:w.heap.size < wr.heap.size:=hG1.map.lt;have HC7:Hid (Cel W1 M1 w.heap.size wr.heap.size 0 (.string rs[k].name)):=⟨by rw [hW1]; simp,by rw [hW1]; simp,hG1.fresh (Nat.le_refl _),by omega⟩;have HG1:Hid (Grp W1 w.heap.size n1 M1 E1):=hG1.below hal;have HB1:=gW HB hal;clear hr hal hG1 HG hE1d;go_wp2_with fail;rw [← hW1];clear hW1 t0 t1 HB;obtain ⟨g7,hg7⟩:∃ g7,g7=wr.heap.size:=⟨_,rfl⟩;rw [← hg7] at HC7 hbn ⊢;clear hg7;go_loopw [26] (fun i w2=>∃ j:Nat,j≤rs[k].rows.length∧i=.int .i64 j∧Hid (∃ n M,Grp w2 w.heap.size n M (E1 ++ gQ (ah rs) rs[k].name (rs[k].rows.take j))∧n≤k * 540 + j * 90∧(E1 ++ gQ (ah rs) rs[k].name (rs[k].rows.take j)).length≤k * 540 + j * 90∧Cel w2 M w.heap.size g7 0 (.string rs[k].name))∧Hid (Below w.heap.size w w2)) (fun i _=>rs[k].rows.length - (intOf i).toNat);case atStart=>exact ⟨0,Nat.zero_le _,rfl,⟨n1,M1,by simpa [gQ] using HG1.out,by omega,by have e:gQ (ah rs) rs[k].name (rs[k].rows.take 0)=[]:=rfl; rw [e,List.append_nil]; omega,HC7.out⟩,HB1⟩
   case round =>
    clear HG1 HB1 HC7;obtain ⟨j,hj,rfl,HG,HB⟩:=hrel;by_cases hjl:j < rs[k].rows.length
    ·rcases HS.out.below HB.out with hnil | ⟨b',off',he,hb2,hr,hok⟩
     ·rw [hnil] at hlt; simp at hlt
     injection he with he; injection he with he1 he2; subst he1; subst he2;have ok:=hok rs[k] (List.getElem_mem hlt);rcases ok with hnil | ⟨b2,off2,had,hbb,hr2,-⟩
     ·rw [hnil] at hjl; simp at hjl
     obtain ⟨q0,q1⟩:=hr2 j hjl;have z1:rs[k].rows[j].name.size≤maxLen:=(HFR.out _ (List.getElem_mem hjl)).1;have HFE:Hid (∀ q ∈ rs[k].rows[j].rows,q.e.fits):=(HFR.out _ (List.getElem_mem hjl)).2.2;have HLE:Hid (∀ q ∈ rs[k].rows[j].rows,q.e.light):=(HLR.out _ (List.getElem_mem hjl)).2;have h15:rs[k].rows[j].rows.length≤15:=(HER.out _ (List.getElem_mem hjl)).1;have HKR:Hid (∀ e ∈ rs[k].rows[j].rows,bY rs[k].rows[j].rows.length e.e.kids):=(HER.out _ (List.getElem_mem hjl)).2;have HOE:Hid (kX w rs[k].rows[j].ad rs[k].rows[j].rows):=Hl.mem (HS.out.mem (List.getElem_mem hlt)) (List.getElem_mem hjl);have hj1:=bR j;have hj2:(j:Int) < (rs[k].rows.length:Int):=by omega
     obtain ⟨n2,M2,hG2,hn2,hE2,hC7⟩:=HG.out;obtain ⟨E2,hE2d⟩:∃ E2,E2=E1 ++ gQ (ah rs) rs[k].name (rs[k].rows.take j):=⟨_,rfl⟩;rw [← hE2d] at hG2 hE2;have HE2D:Hid (E2=E1 ++ gQ (ah rs) rs[k].name (rs[k].rows.take j)):=hE2d;obtain ⟨W2,hW2⟩:∃ W2,W2=wr.alloc (.cells #[.string rs[k].rows[j].name,.slice rs[k].rows[j].ad rs[k].rows[j].rows.length rs[k].rows[j].cap] 126):=⟨_,rfl⟩;have hal:Below wr.heap.size wr W2:=by rw [hW2]; exact (Below.refl _ _).alloc (Nat.le_refl _) _
     have hbn2:w.heap.size < wr.heap.size:=hG2.map.lt;have hC9:Cel W2 M2 w.heap.size wr.heap.size 0 (.string rs[k].rows[j].name):=⟨by rw [hW2]; simp,by rw [hW2]; simp,hG2.fresh (Nat.le_refl _),by omega⟩;have hC9b:Cel W2 M2 w.heap.size wr.heap.size 1 (.slice rs[k].rows[j].ad rs[k].rows[j].rows.length rs[k].rows[j].cap):=⟨by rw [hW2]; simp,by rw [hW2]; simp,hG2.fresh (Nat.le_refl _),by omega⟩;have HC7:Hid (Cel W2 M2 w.heap.size g7 0 (.string rs[k].name)):=hC7.stl (Stl.below hal);have HC9:Hid (Cel W2 M2 w.heap.size wr.heap.size 0 (.string rs[k].rows[j].name)):=hC9;have HC9b:Hid (Cel W2 M2 w.heap.size wr.heap.size 1 (.slice rs[k].rows[j].ad rs[k].rows[j].rows.length rs[k].rows[j].cap)):=hC9b;have HG2:Hid (Grp W2 w.heap.size n2 M2 E2):=hG2.below hal;have HB2:=gW HB hal;rw [had];clear hr hok hr2 hG2 hC7 hC9 hC9b hal HG HB hE2d;go_wp2_with fail;rw [← hW2];clear hW2 q0 q1;refine (yE rs[k].rows[j].ad rs[k].rows[j].cap rs[k].rows[j].rows _ (by omega) (HOE.out.below HB2.out) HLE.out HKR.out).mono ?_;rintro e w3 ⟨rfl,hF3⟩;obtain ⟨g9,hg9⟩:∃ g9,g9=wr.heap.size:=⟨_,rfl⟩;rw [← hg9] at HC9 HC9b hbn2 ⊢;have HB3:Hid (Below w.heap.size w w3):=HB2.out.trans (hF3.below.mono HB2.out.size);have HG3:Hid (Grp w3 w.heap.size n2 M2 E2):=HG2.out.below hF3.below;have HCC:Hid (Cel w3 M2 w.heap.size g7 0 (.string rs[k].name)∧Cel w3 M2 w.heap.size g9 0 (.string rs[k].rows[j].name)∧∀ (i:Nat) (h:i < rs[k].rows[j].rows.length),Cel w3 M2 w.heap.size W2.heap.size i (.bool ((dD (au rs[k].rows[j].rows)).getD i false))):=by
      refine ⟨HC7.out.stl (Stl.below hF3.below),HC9.out.stl (Stl.below hF3.below),fun i hi=>⟨?_,hF3.lt,HG2.out.fresh (Nat.le_refl _),?_⟩⟩
      ·have hn:i < (dD (au rs[k].rows[j].rows)).length:=by rw [BF,bq]; exact hi
       rw [hF3.done i (by simpa [bools] using hn)];simp [bools,hn]
      ·have:=HG2.out.map.lt; omega
     have c9:=(HC9b.out.stl (Stl.below (bL:=w.heap.size) (M:=M2) hF3.below)).cell;obtain ⟨gA,hgA⟩:∃ gA,gA=W2.heap.size:=⟨_,rfl⟩;rw [← hgA] at HCC ⊢;clear hF3 HC7 HC9 HC9b HG2 HB2 hg9 hgA;go_wp2_with fail;clear c9;go_loopw [36] (fun i w4=>∃ m:Nat,m≤rs[k].rows[j].rows.length∧i=.int .i64 m∧Hid (∃ n M,Grp w4 w.heap.size n M (E2 ++ relE (ah rs) rs[k].name rs[k].rows[j].name (au rs[k].rows[j].rows) m)∧n≤k * 540 + j * 90 + m * 6∧(E2 ++ relE (ah rs) rs[k].name rs[k].rows[j].name (au rs[k].rows[j].rows) m).length≤k * 540 + j * 90 + m * 6∧(Cel w4 M w.heap.size g7 0 (.string rs[k].name)∧Cel w4 M w.heap.size g9 0 (.string rs[k].rows[j].name)∧∀ (i:Nat) (h:i < rs[k].rows[j].rows.length),Cel w4 M w.heap.size gA i (.bool ((dD (au rs[k].rows[j].rows)).getD i false))))∧Hid (Below w.heap.size w w4)) (fun i _=>rs[k].rows[j].rows.length - (intOf i).toNat);case atStart=>exact ⟨0,Nat.zero_le _,rfl,⟨n2,M2,by simpa [relE] using HG3.out,by omega,by have e:relE (ah rs) rs[k].name rs[k].rows[j].name (au rs[k].rows[j].rows) 0=[]:=rfl; rw [e,List.append_nil]; omega,HCC.out⟩,HB3⟩
     case round =>
      clear HG3 HB3 HCC;obtain ⟨m,hm,rfl,HG,HB⟩:=hrel;by_cases hml:m < rs[k].rows[j].rows.length
      ·rcases HOE.out.below HB.out with hnil | ⟨bE,offE,hadE,hbE,hrE,hok⟩
       ·rw [hnil] at hml; simp at hml
       obtain ⟨t0,t1,t2,t3,t4⟩:=hrE m hml;have hm1:=bR m;have hm2:(m:Int) < (rs[k].rows[j].rows.length:Int):=by omega
       have HXF:Hid (rs[k].rows[j].rows[m].e.fits):=HFE.out _ (List.getElem_mem hml);have HXL:Hid (rs[k].rows[j].rows[m].e.light):=HLE.out _ (List.getElem_mem hml);obtain ⟨n3,M3,hG3,hn3,hE3,hC7,hC9,hCA⟩:=HG.out;obtain ⟨E3,hE3d⟩:∃ E3,E3=E2 ++ relE (ah rs) rs[k].name rs[k].rows[j].name (au rs[k].rows[j].rows) m:=⟨_,rfl⟩;rw [← hE3d] at hG3 hE3;have HE3D:Hid (E3=E2 ++ relE (ah rs) rs[k].name rs[k].rows[j].name (au rs[k].rows[j].rows) m):=hE3d;have hbn3:w.heap.size < wr.heap.size:=hG3.map.lt;obtain ⟨ng,hng⟩:∃ ng,ng=(dD (au rs[k].rows[j].rows)).getD m false:=⟨_,rfl⟩;have HNG:Hid (ng=(dD (au rs[k].rows[j].rows)).getD m false):=hng;rw [hadE];clear hng hE3d hrE;cases ng with
       | true =>
        obtain ⟨W3,hW3⟩:∃ W3,W3=((wr.alloc (.cells #[.int .i64 rs[k].rows[j].rows[m].e.kind,.slice rs[k].rows[j].rows[m].adA rs[k].rows[j].rows[m].e.allow.length rs[k].rows[j].rows[m].capA,.string rs[k].rows[j].rows[m].e.over,.string rs[k].rows[j].rows[m].e.name,.slice rs[k].rows[j].rows[m].adK rs[k].rows[j].rows[m].e.kids.length rs[k].rows[j].rows[m].capK] 139)).alloc (.cells #[.string rs[k].name,.string rs[k].rows[j].name,.int .i64 1] 239)):=⟨_,rfl⟩;have hal:Below wr.heap.size wr W3:=by
         rw [hW3]
         repeat (first | exact Below.refl _ _ | refine Below.setCell ?_ (by first | (simp; done) | (simp; omega)) _ | refine Below.alloc ?_ (by first | (simp; done) | (simp; omega)) _)
        have hsz3:W3.heap.size=wr.heap.size + 2:=by rw [hW3]; simp
        have HB3:=gW HB hal;have HG3:Hid (Grp W3 w.heap.size n3 M3 E3):=hG3.below hal;have HC13:Hid (Cel W3 M3 w.heap.size (wr.heap.size + 1) 0 (.string rs[k].name)∧Cel W3 M3 w.heap.size (wr.heap.size + 1) 1 (.string rs[k].rows[j].name)∧Cel W3 M3 w.heap.size (wr.heap.size + 1) 2 (.int .i64 1)):=by
         have hfr:FreeB M3 (wr.heap.size + 1):=hG3.fresh (by omega);refine ⟨⟨?_,by omega,hfr,by omega⟩,⟨?_,by omega,hfr,by omega⟩,⟨?_,by omega,hfr,by omega⟩⟩
         all_goals (rw [hW3]; simp)
        have HCC:Hid (Cel W3 M3 w.heap.size g7 0 (.string rs[k].name)∧Cel W3 M3 w.heap.size g9 0 (.string rs[k].rows[j].name)∧∀ (i:Nat) (h:i < rs[k].rows[j].rows.length),Cel W3 M3 w.heap.size gA i (.bool ((dD (au rs[k].rows[j].rows)).getD i false))):=⟨hC7.stl (Stl.below hal),hC9.stl (Stl.below hal),fun i h=>(hCA i h).stl (Stl.below hal)⟩;have HXO:Hid (rs[k].rows[j].rows[m].ok W3):=(hok rs[k].rows[j].rows[m] (List.getElem_mem hml)).below hal;have hc7:=hC7.cell;have hc9:=hC9.cell;have hl7:=hC7.lt;have hl9:=hC9.lt;have hcA:=(hCA m hml).cell;have hlA:=(hCA m hml).lt;rw [← HNG.out] at hcA;clear hG3 hal hC7 hC9 hCA hok HG;go_wp2_with fail;rw [← hW3];clear hW3 t0 t1 t2 t3 t4 hc7 hc9 hl7 hl9 hcA hlA;refine (uH bT nT rs (some ⟨b,off,none⟩) T rs[k].name rs[k].rows[j].rows[m] _ (HV.out.below HB3.out) HT.out (HS.out.below HB3.out) HL.out HFT.out z0 HXF.out HXL.out HXO.out).mono ?_;rintro e w5 ⟨⟨adO,cpO,rfl,hSO,hNO⟩,hb5⟩;obtain ⟨ks,hks⟩:∃ ks,ks=fU (ah rs) rs[k].name rs[k].rows[j].rows[m].e:=⟨_,rfl⟩;rw [← hks] at hSO ⊢;have HKS:Hid (ks=fU (ah rs) rs[k].name rs[k].rows[j].rows[m].e):=hks;have hkl6:ks.length≤6:=by rw [hks]; exact tC rs HA6.out _ _ (HA6.out _ (List.getElem_mem hlt) _ (List.getElem_mem hjl) _ (List.getElem_mem hml))
        have HKF:Hid (∀ a ∈ ks,a.t.size≤maxLen∧a.s.size≤maxLen):=by show ∀ _,_; rw [hks]; exact xQ rs HFT.out _ z0 _ HXF.out
        obtain ⟨g13,hg13⟩:∃ g13,g13=wr.heap.size + 1:=⟨_,rfl⟩;have HB5:=gW HB3 hb5;have HG5:Hid (Grp w5 w.heap.size n3 M3 E3):=HG3.out.below hb5;have hS5:Stl W3 M3 w5 M3 w.heap.size:=Stl.below hb5;have HC5:Hid (Cel w5 M3 w.heap.size g7 0 (.string rs[k].name)∧Cel w5 M3 w.heap.size g9 0 (.string rs[k].rows[j].name)∧∀ (i:Nat) (h:i < rs[k].rows[j].rows.length),Cel w5 M3 w.heap.size gA i (.bool ((dD (au rs[k].rows[j].rows)).getD i false))):=⟨HCC.out.1.stl hS5,HCC.out.2.1.stl hS5,fun i h=>(HCC.out.2.2 i h).stl hS5⟩;have HD5:Hid (Cel w5 M3 w.heap.size g13 0 (.string rs[k].name)∧Cel w5 M3 w.heap.size g13 1 (.string rs[k].rows[j].name)∧Cel w5 M3 w.heap.size g13 2 (.int .i64 1)):=by rw [hg13]; exact ⟨HC13.out.1.stl hS5,HC13.out.2.1.stl hS5,HC13.out.2.2.stl hS5⟩
        have HO5:Hid (ks=[] ∨ ∃ gO offO,adO=some ⟨gO,offO,none⟩∧∀ (i:Nat) (h:i < ks.length),Cel w5 M3 w.heap.size gO (offO + i * 2) (.string ks[i].t)∧Cel w5 M3 w.heap.size gO (offO + i * 2 + 1) (.string ks[i].s)):=by
         rcases hSO with e | ⟨gO,offO,e,hgO,hcO⟩
         ·exact .inl e
         ·have hN:=hNO _ e;have hbl3:=HG3.out.map.lt;have hfr:FreeB M3 gO:=HG3.out.fresh hN;refine .inr ⟨gO,offO,e,fun i hi=>⟨⟨(hcO i hi).1,hgO,hfr,?_⟩,⟨(hcO i hi).2,hgO,hfr,?_⟩⟩⟩
          all_goals (simp only at hN; omega)
        rw [← hg13];clear hb5 hSO hNO hks hS5 HC13 HCC HG3 HB3 HXO hg13;go_wp2_with fail;go_loopw [58] (fun i w6=>∃ q:Nat,q≤ks.length∧i=.int .i64 q∧Hid (∃ n M,Grp w6 w.heap.size n M (E3 ++ (ks.take q).map (fun a:Al=>(((a.t,a.s),⟨rs[k].name,rs[k].rows[j].name,1⟩):Ky × St)))∧n≤k * 540 + j * 90 + m * 6 + q∧(E3 ++ (ks.take q).map (fun a:Al=>(((a.t,a.s),⟨rs[k].name,rs[k].rows[j].name,1⟩):Ky × St))).length≤k * 540 + j * 90 + m * 6 + q∧(Cel w6 M w.heap.size g7 0 (.string rs[k].name)∧Cel w6 M w.heap.size g9 0 (.string rs[k].rows[j].name)∧∀ (i:Nat) (h:i < rs[k].rows[j].rows.length),Cel w6 M w.heap.size gA i (.bool ((dD (au rs[k].rows[j].rows)).getD i false)))∧(Cel w6 M w.heap.size g13 0 (.string rs[k].name)∧Cel w6 M w.heap.size g13 1 (.string rs[k].rows[j].name)∧Cel w6 M w.heap.size g13 2 (.int .i64 1))∧(ks=[] ∨ ∃ gO offO,adO=some ⟨gO,offO,none⟩∧∀ (i:Nat) (h:i < ks.length),Cel w6 M w.heap.size gO (offO + i * 2) (.string ks[i].t)∧Cel w6 M w.heap.size gO (offO + i * 2 + 1) (.string ks[i].s)))∧Hid (Below w.heap.size w w6)) (fun i _=>ks.length - (intOf i).toNat);case atStart=>exact ⟨0,Nat.zero_le _,rfl,⟨n3,M3,by simpa using HG5.out,by omega,by simpa using hE3,HC5.out,HD5.out,HO5.out⟩,HB5⟩
        case round =>
         clear HG5 HB5 HC5 HD5 HO5 HB;obtain ⟨q,hq,rfl,HG,HB⟩:=hrel;by_cases hql:q < ks.length
         ·obtain ⟨n6,M6,hG6,hn6,hE6,hC6,hD6,hO6⟩:=HG.out;rcases hO6 with hnil | ⟨gO,offO,hadO,hcO⟩
          ·rw [hnil] at hql; simp at hql
          have x0:=(hcO q hql).1.cell;have x1:=(hcO q hql).2.cell;have y0:=hD6.1.cell;have y1:=hD6.2.1.cell;have y2:=hD6.2.2.cell;have yl:=hD6.1.lt;have hq1:=bR q;have hq2:(q:Int) < (ks.length:Int):=by omega
          obtain ⟨E6,hE6d⟩:∃ E6,E6=E3 ++ (ks.take q).map (fun a:Al=>(((a.t,a.s),⟨rs[k].name,rs[k].rows[j].name,1⟩):Ky × St)):=⟨_,rfl⟩;rw [← hE6d] at hG6 hE6;have HE6D:Hid (E6=E3 ++ (ks.take q).map (fun a:Al=>(((a.t,a.s),⟨rs[k].name,rs[k].rows[j].name,1⟩):Ky × St))):=hE6d;obtain ⟨W6,hW6⟩:∃ W6,W6=((wr.alloc (.cells #[.string ks[q].t,.string ks[q].s] 147)).alloc (.cells #[.string rs[k].name,.string rs[k].rows[j].name,.int .i64 1] 239)):=⟨_,rfl⟩;have hal:Below wr.heap.size wr W6:=by
           rw [hW6]
           repeat (first | exact Below.refl _ _ | refine Below.alloc ?_ (by first | (simp; done) | (simp; omega)) _)
          have hsz6:W6.heap.size=wr.heap.size + 2:=by rw [hW6]; simp
          have HB6:=gW HB hal;have HG6:Hid (Grp W6 w.heap.size n6 M6 E6):=hG6.below hal;have HNB:Hid (W6.heap[wr.heap.size + 1]?=some (.cells #[.string rs[k].name,.string rs[k].rows[j].name,.int .i64 1] 239)):=by show _=_; rw [hW6]; exact pz wr _ _
          have hbn6:w.heap.size < wr.heap.size:=hG6.map.lt;have HS6:Hid (Stl wr M6 W6 M6 w.heap.size):=Stl.below hal;have HCK:Hid ((Cel wr M6 w.heap.size g7 0 (.string rs[k].name)∧Cel wr M6 w.heap.size g9 0 (.string rs[k].rows[j].name)∧∀ (i:Nat) (h:i < rs[k].rows[j].rows.length),Cel wr M6 w.heap.size gA i (.bool ((dD (au rs[k].rows[j].rows)).getD i false)))∧(Cel wr M6 w.heap.size g13 0 (.string rs[k].name)∧Cel wr M6 w.heap.size g13 1 (.string rs[k].rows[j].name)∧Cel wr M6 w.heap.size g13 2 (.int .i64 1))∧(ks=[] ∨ ∃ gO offO,adO=some ⟨gO,offO,none⟩∧∀ (i:Nat) (h:i < ks.length),Cel wr M6 w.heap.size gO (offO + i * 2) (.string ks[i].t)∧Cel wr M6 w.heap.size gO (offO + i * 2 + 1) (.string ks[i].s))):=⟨hC6,hD6,.inr ⟨gO,offO,hadO,hcO⟩⟩;have hzz:=HKF.out _ (List.getElem_mem hql);obtain ⟨kl,hkl⟩:=jo (ks[q].t,ks[q].s) hzz.1 hzz.2;have HKL:Hid (keyOf prog 147 (bI (ks[q].t,ks[q].s))=some kl):=hkl;have hLL:=tF E6 (ks[q].t,ks[q].s);have hn6b:n6 < 100000:=by omega
          have hLb:(lookL E6 (ks[q].t,ks[q].s)).length < 100000:=by omega
          have HSZ:Hid (W6.heap.size=wr.heap.size + 2):=hsz6;rw [hadO];clear hal hG6 hC6 hD6 hcO hkl HG hE6d hzz hLL hsz6
          go_wp2_with (first
           | (at_builtin; refine wpList_append_own_at _ rfl _ _ 237 rfl (w.heap.size + 1) 239 i0 _ 3 40 underlying237 hi hz0 hz1 hz2 rfl (by decide) _ _ _ rfl ((ku HG6.out (ks[q].t,ks[q].s)).kept hg7 (.inr (Ne.symm (AV HG6.out (ks[q].t,ks[q].s))))) ⟨wr.heap.size + 1,0,none⟩ 1 1 [.string rs[k].name,.string rs[k].rows[j].name,.int .i64 1] rfl rfl (World.news_of_block (cs:=#[.string rs[k].name,.string rs[k].rows[j].name,.int .i64 1]) (t:=239) (fr:=(0,0)) ((hg7.block (wr.heap.size + 1) (by rw [HSZ.out]; omega) (by simp; omega)).trans HNB.out)) (by simp [Value.oneCell']) (by unfold maxLen; omega) (by omega) (by have h1:=hg7.size; rw [HSZ.out] at h1; omega) ?_; intro v' w8 hown8 hgrow8 hnil8 hloc8)
           | (rw [← hW6]; refine qj _ rfl _ _ 196 rfl 147 237 Ag nI underlying196 AU w.heap.size n6 M6 rfl HG6.out.map (by unfold maxLen; omega) (ks[q].t,ks[q].s) kl rfl HKL.out ?_; intro st7 w7 hg7 hback; clear hW6 x0 x1 y0 y1 y2)
           | (refine kr _ rfl _ _ _ 196 rfl w.heap.size st7 rfl rfl v' rfl 147 (n6 + 1) (kD M6 (ks[q].t,ks[q].s) (some v')) (hback w8 v' (hgrow8.block w.heap.size (by have h1:=hg7.size; rw [HSZ.out] at h1; omega) (AV HG6.out (ks[q].t,ks[q].s)))) ?_; intro w9 hM9 hg9))
          have hst:=HG6.out.step (s:=(⟨rs[k].name,rs[k].rows[j].name,1⟩:St)) hg7 hown8 hgrow8 hloc8 hg9 hM9;have HBN:Hid (Below w.heap.size w w9):=by
           have hs1:=HB6.out.size;have b7:Below w.heap.size w w7:=HB6.out.grown hg7 hs1 (fun i hi=>by injection hi with hi; omega);have b8:Below w.heap.size w w8:=b7.grown hgrow8 b7.size (fun i hi=>by have:=((ku HG6.out (ks[q].t,ks[q].s)).lt i hi).1; omega);exact b8.grown hg9 b8.size (fun i hi=>by injection hi with hi; omega)
          have HGN:Hid (∃ n M,Grp w9 w.heap.size n M (E3 ++ (ks.take (q + 1)).map (fun a:Al=>(((a.t,a.s),⟨rs[k].name,rs[k].rows[j].name,1⟩):Ky × St)))∧n≤k * 540 + j * 90 + m * 6 + (q + 1)∧(E3 ++ (ks.take (q + 1)).map (fun a:Al=>(((a.t,a.s),⟨rs[k].name,rs[k].rows[j].name,1⟩):Ky × St))).length≤k * 540 + j * 90 + m * 6 + (q + 1)∧(Cel w9 M w.heap.size g7 0 (.string rs[k].name)∧Cel w9 M w.heap.size g9 0 (.string rs[k].rows[j].name)∧∀ (i:Nat) (h:i < rs[k].rows[j].rows.length),Cel w9 M w.heap.size gA i (.bool ((dD (au rs[k].rows[j].rows)).getD i false)))∧(Cel w9 M w.heap.size g13 0 (.string rs[k].name)∧Cel w9 M w.heap.size g13 1 (.string rs[k].rows[j].name)∧Cel w9 M w.heap.size g13 2 (.int .i64 1))∧(ks=[] ∨ ∃ gO offO,adO=some ⟨gO,offO,none⟩∧∀ (i:Nat) (h:i < ks.length),Cel w9 M w.heap.size gO (offO + i * 2) (.string ks[i].t)∧Cel w9 M w.heap.size gO (offO + i * 2 + 1) (.string ks[i].s))):=by
           have hS9:=HS6.out.trans hst.2;have e:E3 ++ (ks.take (q + 1)).map (fun a:Al=>(((a.t,a.s),⟨rs[k].name,rs[k].rows[j].name,1⟩):Ky × St))=E6 ++ [((ks[q].t,ks[q].s),(⟨rs[k].name,rs[k].rows[j].name,1⟩:St))]:=by
            rw [List.take_succ_eq_append_getElem hql,List.map_append,← List.append_assoc,← HE6D.out]; rfl
           obtain ⟨k1,k2,k3⟩:=HCK.out;refine ⟨n6 + 1,_,by rw [e]; exact hst.1,by omega,by rw [e,List.length_append]; simp; omega,⟨k1.1.stl hS9,k1.2.1.stl hS9,fun i h=>(k1.2.2 i h).stl hS9⟩,⟨k2.1.stl hS9,k2.2.1.stl hS9,k2.2.2.stl hS9⟩,?_⟩;rcases k3 with hnil | ⟨gO',offO',e1,hc⟩
           ·exact .inl hnil
           ·exact .inr ⟨gO',offO',e1,fun i h=>⟨(hc i h).1.stl hS9,(hc i h).2.stl hS9⟩⟩
          clear hst hg7 hback hown8 hgrow8 hnil8 hloc8 hg9 hM9;go_wp2;go_roundw;case rel=>exact ⟨q + 1,by omega,by go_num,(by rw [hadO] at HGN; exact HGN),HBN⟩
          case measure=>simp [intOf] <;> omega
         ·obtain rfl:q=ks.length:=by omega
          have HGN:Hid (∃ n M,Grp wr w.heap.size n M (E2 ++ relE (ah rs) rs[k].name rs[k].rows[j].name (au rs[k].rows[j].rows) (m + 1))∧n≤k * 540 + j * 90 + (m + 1) * 6∧(E2 ++ relE (ah rs) rs[k].name rs[k].rows[j].name (au rs[k].rows[j].rows) (m + 1)).length≤k * 540 + j * 90 + (m + 1) * 6∧(Cel wr M w.heap.size g7 0 (.string rs[k].name)∧Cel wr M w.heap.size g9 0 (.string rs[k].rows[j].name)∧∀ (i:Nat) (h:i < rs[k].rows[j].rows.length),Cel wr M w.heap.size gA i (.bool ((dD (au rs[k].rows[j].rows)).getD i false)))):=by
           obtain ⟨n,M,h1,hn,h2,h3,-,-⟩:=HG.out;rw [List.take_length] at h1 h2;have e:E2 ++ relE (ah rs) rs[k].name rs[k].rows[j].name (au rs[k].rows[j].rows) (m + 1)=E3 ++ ks.map (fun a:Al=>(((a.t,a.s),⟨rs[k].name,rs[k].rows[j].name,1⟩):Ky × St)):=by
            rw [tq _ _ _ _ _ hml _ HNG.out,← List.append_assoc,← HE3D.out,HKS.out]; rfl
           refine ⟨n,M,by rw [e]; exact h1,by omega,by rw [e]; omega,h3⟩
          clear HG;go_wp2;go_roundw;case rel=>exact ⟨m + 1,by omega,by go_num,HGN,HB⟩
          case measure=>simp [intOf] <;> omega
       | false =>
        obtain ⟨W3,hW3⟩:∃ W3,W3=((wr.alloc (.cells #[.int .i64 rs[k].rows[j].rows[m].e.kind,.slice rs[k].rows[j].rows[m].adA rs[k].rows[j].rows[m].e.allow.length rs[k].rows[j].rows[m].capA,.string rs[k].rows[j].rows[m].e.over,.string rs[k].rows[j].rows[m].e.name,.slice rs[k].rows[j].rows[m].adK rs[k].rows[j].rows[m].e.kids.length rs[k].rows[j].rows[m].capK] 139)).alloc (.cells #[.string rs[k].name,.string rs[k].rows[j].name,.int .i64 0] 239)):=⟨_,rfl⟩;have hal:Below wr.heap.size wr W3:=by
         rw [hW3]
         repeat (first | exact Below.refl _ _ | refine Below.setCell ?_ (by first | (simp; done) | (simp; omega)) _ | refine Below.alloc ?_ (by first | (simp; done) | (simp; omega)) _)
        have hsz3:W3.heap.size=wr.heap.size + 2:=by rw [hW3]; simp
        have HB3:=gW HB hal;have HG3:Hid (Grp W3 w.heap.size n3 M3 E3):=hG3.below hal;have HC13:Hid (Cel W3 M3 w.heap.size (wr.heap.size + 1) 0 (.string rs[k].name)∧Cel W3 M3 w.heap.size (wr.heap.size + 1) 1 (.string rs[k].rows[j].name)∧Cel W3 M3 w.heap.size (wr.heap.size + 1) 2 (.int .i64 0)):=by
         have hfr:FreeB M3 (wr.heap.size + 1):=hG3.fresh (by omega);refine ⟨⟨?_,by omega,hfr,by omega⟩,⟨?_,by omega,hfr,by omega⟩,⟨?_,by omega,hfr,by omega⟩⟩
         all_goals (rw [hW3]; simp)
        have HCC:Hid (Cel W3 M3 w.heap.size g7 0 (.string rs[k].name)∧Cel W3 M3 w.heap.size g9 0 (.string rs[k].rows[j].name)∧∀ (i:Nat) (h:i < rs[k].rows[j].rows.length),Cel W3 M3 w.heap.size gA i (.bool ((dD (au rs[k].rows[j].rows)).getD i false))):=⟨hC7.stl (Stl.below hal),hC9.stl (Stl.below hal),fun i h=>(hCA i h).stl (Stl.below hal)⟩;have HXO:Hid (rs[k].rows[j].rows[m].ok W3):=(hok rs[k].rows[j].rows[m] (List.getElem_mem hml)).below hal;have hc7:=hC7.cell;have hc9:=hC9.cell;have hl7:=hC7.lt;have hl9:=hC9.lt;have hcA:=(hCA m hml).cell;have hlA:=(hCA m hml).lt;rw [← HNG.out] at hcA;clear hG3 hal hC7 hC9 hCA hok HG;go_wp2_with fail;rw [← hW3];clear hW3 t0 t1 t2 t3 t4 hc7 hc9 hl7 hl9 hcA hlA;refine (uH bT nT rs (some ⟨b,off,none⟩) T rs[k].name rs[k].rows[j].rows[m] _ (HV.out.below HB3.out) HT.out (HS.out.below HB3.out) HL.out HFT.out z0 HXF.out HXL.out HXO.out).mono ?_;rintro e w5 ⟨⟨adO,cpO,rfl,hSO,hNO⟩,hb5⟩;obtain ⟨ks,hks⟩:∃ ks,ks=fU (ah rs) rs[k].name rs[k].rows[j].rows[m].e:=⟨_,rfl⟩;rw [← hks] at hSO ⊢;have HKS:Hid (ks=fU (ah rs) rs[k].name rs[k].rows[j].rows[m].e):=hks;have hkl6:ks.length≤6:=by rw [hks]; exact tC rs HA6.out _ _ (HA6.out _ (List.getElem_mem hlt) _ (List.getElem_mem hjl) _ (List.getElem_mem hml))
        have HKF:Hid (∀ a ∈ ks,a.t.size≤maxLen∧a.s.size≤maxLen):=by show ∀ _,_; rw [hks]; exact xQ rs HFT.out _ z0 _ HXF.out
        obtain ⟨g13,hg13⟩:∃ g13,g13=wr.heap.size + 1:=⟨_,rfl⟩;have HB5:=gW HB3 hb5;have HG5:Hid (Grp w5 w.heap.size n3 M3 E3):=HG3.out.below hb5;have hS5:Stl W3 M3 w5 M3 w.heap.size:=Stl.below hb5;have HC5:Hid (Cel w5 M3 w.heap.size g7 0 (.string rs[k].name)∧Cel w5 M3 w.heap.size g9 0 (.string rs[k].rows[j].name)∧∀ (i:Nat) (h:i < rs[k].rows[j].rows.length),Cel w5 M3 w.heap.size gA i (.bool ((dD (au rs[k].rows[j].rows)).getD i false))):=⟨HCC.out.1.stl hS5,HCC.out.2.1.stl hS5,fun i h=>(HCC.out.2.2 i h).stl hS5⟩;have HD5:Hid (Cel w5 M3 w.heap.size g13 0 (.string rs[k].name)∧Cel w5 M3 w.heap.size g13 1 (.string rs[k].rows[j].name)∧Cel w5 M3 w.heap.size g13 2 (.int .i64 0)):=by rw [hg13]; exact ⟨HC13.out.1.stl hS5,HC13.out.2.1.stl hS5,HC13.out.2.2.stl hS5⟩
        have HO5:Hid (ks=[] ∨ ∃ gO offO,adO=some ⟨gO,offO,none⟩∧∀ (i:Nat) (h:i < ks.length),Cel w5 M3 w.heap.size gO (offO + i * 2) (.string ks[i].t)∧Cel w5 M3 w.heap.size gO (offO + i * 2 + 1) (.string ks[i].s)):=by
         rcases hSO with e | ⟨gO,offO,e,hgO,hcO⟩
         ·exact .inl e
         ·have hN:=hNO _ e;have hbl3:=HG3.out.map.lt;have hfr:FreeB M3 gO:=HG3.out.fresh hN;refine .inr ⟨gO,offO,e,fun i hi=>⟨⟨(hcO i hi).1,hgO,hfr,?_⟩,⟨(hcO i hi).2,hgO,hfr,?_⟩⟩⟩
          all_goals (simp only at hN; omega)
        rw [← hg13];clear hb5 hSO hNO hks hS5 HC13 HCC HG3 HB3 HXO hg13;go_wp2_with fail;go_loopw [58] (fun i w6=>∃ q:Nat,q≤ks.length∧i=.int .i64 q∧Hid (∃ n M,Grp w6 w.heap.size n M (E3 ++ (ks.take q).map (fun a:Al=>(((a.t,a.s),⟨rs[k].name,rs[k].rows[j].name,0⟩):Ky × St)))∧n≤k * 540 + j * 90 + m * 6 + q∧(E3 ++ (ks.take q).map (fun a:Al=>(((a.t,a.s),⟨rs[k].name,rs[k].rows[j].name,0⟩):Ky × St))).length≤k * 540 + j * 90 + m * 6 + q∧(Cel w6 M w.heap.size g7 0 (.string rs[k].name)∧Cel w6 M w.heap.size g9 0 (.string rs[k].rows[j].name)∧∀ (i:Nat) (h:i < rs[k].rows[j].rows.length),Cel w6 M w.heap.size gA i (.bool ((dD (au rs[k].rows[j].rows)).getD i false)))∧(Cel w6 M w.heap.size g13 0 (.string rs[k].name)∧Cel w6 M w.heap.size g13 1 (.string rs[k].rows[j].name)∧Cel w6 M w.heap.size g13 2 (.int .i64 0))∧(ks=[] ∨ ∃ gO offO,adO=some ⟨gO,offO,none⟩∧∀ (i:Nat) (h:i < ks.length),Cel w6 M w.heap.size gO (offO + i * 2) (.string ks[i].t)∧Cel w6 M w.heap.size gO (offO + i * 2 + 1) (.string ks[i].s)))∧Hid (Below w.heap.size w w6)) (fun i _=>ks.length - (intOf i).toNat);case atStart=>exact ⟨0,Nat.zero_le _,rfl,⟨n3,M3,by simpa using HG5.out,by omega,by simpa using hE3,HC5.out,HD5.out,HO5.out⟩,HB5⟩
        case round =>
         clear HG5 HB5 HC5 HD5 HO5 HB;obtain ⟨q,hq,rfl,HG,HB⟩:=hrel;by_cases hql:q < ks.length
         ·obtain ⟨n6,M6,hG6,hn6,hE6,hC6,hD6,hO6⟩:=HG.out;rcases hO6 with hnil | ⟨gO,offO,hadO,hcO⟩
          ·rw [hnil] at hql; simp at hql
          have x0:=(hcO q hql).1.cell;have x1:=(hcO q hql).2.cell;have y0:=hD6.1.cell;have y1:=hD6.2.1.cell;have y2:=hD6.2.2.cell;have yl:=hD6.1.lt;have hq1:=bR q;have hq2:(q:Int) < (ks.length:Int):=by omega
          obtain ⟨E6,hE6d⟩:∃ E6,E6=E3 ++ (ks.take q).map (fun a:Al=>(((a.t,a.s),⟨rs[k].name,rs[k].rows[j].name,0⟩):Ky × St)):=⟨_,rfl⟩;rw [← hE6d] at hG6 hE6;have HE6D:Hid (E6=E3 ++ (ks.take q).map (fun a:Al=>(((a.t,a.s),⟨rs[k].name,rs[k].rows[j].name,0⟩):Ky × St))):=hE6d;obtain ⟨W6,hW6⟩:∃ W6,W6=((wr.alloc (.cells #[.string ks[q].t,.string ks[q].s] 147)).alloc (.cells #[.string rs[k].name,.string rs[k].rows[j].name,.int .i64 0] 239)):=⟨_,rfl⟩;have hal:Below wr.heap.size wr W6:=by
           rw [hW6]
           repeat (first | exact Below.refl _ _ | refine Below.alloc ?_ (by first | (simp; done) | (simp; omega)) _)
          have hsz6:W6.heap.size=wr.heap.size + 2:=by rw [hW6]; simp
          have HB6:=gW HB hal;have HG6:Hid (Grp W6 w.heap.size n6 M6 E6):=hG6.below hal;have HNB:Hid (W6.heap[wr.heap.size + 1]?=some (.cells #[.string rs[k].name,.string rs[k].rows[j].name,.int .i64 0] 239)):=by show _=_; rw [hW6]; exact pz wr _ _
          have hbn6:w.heap.size < wr.heap.size:=hG6.map.lt;have HS6:Hid (Stl wr M6 W6 M6 w.heap.size):=Stl.below hal;have HCK:Hid ((Cel wr M6 w.heap.size g7 0 (.string rs[k].name)∧Cel wr M6 w.heap.size g9 0 (.string rs[k].rows[j].name)∧∀ (i:Nat) (h:i < rs[k].rows[j].rows.length),Cel wr M6 w.heap.size gA i (.bool ((dD (au rs[k].rows[j].rows)).getD i false)))∧(Cel wr M6 w.heap.size g13 0 (.string rs[k].name)∧Cel wr M6 w.heap.size g13 1 (.string rs[k].rows[j].name)∧Cel wr M6 w.heap.size g13 2 (.int .i64 0))∧(ks=[] ∨ ∃ gO offO,adO=some ⟨gO,offO,none⟩∧∀ (i:Nat) (h:i < ks.length),Cel wr M6 w.heap.size gO (offO + i * 2) (.string ks[i].t)∧Cel wr M6 w.heap.size gO (offO + i * 2 + 1) (.string ks[i].s))):=⟨hC6,hD6,.inr ⟨gO,offO,hadO,hcO⟩⟩;have hzz:=HKF.out _ (List.getElem_mem hql);obtain ⟨kl,hkl⟩:=jo (ks[q].t,ks[q].s) hzz.1 hzz.2;have HKL:Hid (keyOf prog 147 (bI (ks[q].t,ks[q].s))=some kl):=hkl;have hLL:=tF E6 (ks[q].t,ks[q].s);have hn6b:n6 < 100000:=by omega
          have hLb:(lookL E6 (ks[q].t,ks[q].s)).length < 100000:=by omega
          have HSZ:Hid (W6.heap.size=wr.heap.size + 2):=hsz6;rw [hadO];clear hal hG6 hC6 hD6 hcO hkl HG hE6d hzz hLL hsz6
          go_wp2_with (first
           | (at_builtin; refine wpList_append_own_at _ rfl _ _ 237 rfl (w.heap.size + 1) 239 i0 _ 3 40 underlying237 hi hz0 hz1 hz2 rfl (by decide) _ _ _ rfl ((ku HG6.out (ks[q].t,ks[q].s)).kept hg7 (.inr (Ne.symm (AV HG6.out (ks[q].t,ks[q].s))))) ⟨wr.heap.size + 1,0,none⟩ 1 1 [.string rs[k].name,.string rs[k].rows[j].name,.int .i64 0] rfl rfl (World.news_of_block (cs:=#[.string rs[k].name,.string rs[k].rows[j].name,.int .i64 0]) (t:=239) (fr:=(0,0)) ((hg7.block (wr.heap.size + 1) (by rw [HSZ.out]; omega) (by simp; omega)).trans HNB.out)) (by simp [Value.oneCell']) (by unfold maxLen; omega) (by omega) (by have h1:=hg7.size; rw [HSZ.out] at h1; omega) ?_; intro v' w8 hown8 hgrow8 hnil8 hloc8)
           | (rw [← hW6]; refine qj _ rfl _ _ 196 rfl 147 237 Ag nI underlying196 AU w.heap.size n6 M6 rfl HG6.out.map (by unfold maxLen; omega) (ks[q].t,ks[q].s) kl rfl HKL.out ?_; intro st7 w7 hg7 hback; clear hW6 x0 x1 y0 y1 y2)
           | (refine kr _ rfl _ _ _ 196 rfl w.heap.size st7 rfl rfl v' rfl 147 (n6 + 1) (kD M6 (ks[q].t,ks[q].s) (some v')) (hback w8 v' (hgrow8.block w.heap.size (by have h1:=hg7.size; rw [HSZ.out] at h1; omega) (AV HG6.out (ks[q].t,ks[q].s)))) ?_; intro w9 hM9 hg9))
          have hst:=HG6.out.step (s:=(⟨rs[k].name,rs[k].rows[j].name,0⟩:St)) hg7 hown8 hgrow8 hloc8 hg9 hM9;have HBN:Hid (Below w.heap.size w w9):=by
           have hs1:=HB6.out.size;have b7:Below w.heap.size w w7:=HB6.out.grown hg7 hs1 (fun i hi=>by injection hi with hi; omega);have b8:Below w.heap.size w w8:=b7.grown hgrow8 b7.size (fun i hi=>by have:=((ku HG6.out (ks[q].t,ks[q].s)).lt i hi).1; omega);exact b8.grown hg9 b8.size (fun i hi=>by injection hi with hi; omega)
          have HGN:Hid (∃ n M,Grp w9 w.heap.size n M (E3 ++ (ks.take (q + 1)).map (fun a:Al=>(((a.t,a.s),⟨rs[k].name,rs[k].rows[j].name,0⟩):Ky × St)))∧n≤k * 540 + j * 90 + m * 6 + (q + 1)∧(E3 ++ (ks.take (q + 1)).map (fun a:Al=>(((a.t,a.s),⟨rs[k].name,rs[k].rows[j].name,0⟩):Ky × St))).length≤k * 540 + j * 90 + m * 6 + (q + 1)∧(Cel w9 M w.heap.size g7 0 (.string rs[k].name)∧Cel w9 M w.heap.size g9 0 (.string rs[k].rows[j].name)∧∀ (i:Nat) (h:i < rs[k].rows[j].rows.length),Cel w9 M w.heap.size gA i (.bool ((dD (au rs[k].rows[j].rows)).getD i false)))∧(Cel w9 M w.heap.size g13 0 (.string rs[k].name)∧Cel w9 M w.heap.size g13 1 (.string rs[k].rows[j].name)∧Cel w9 M w.heap.size g13 2 (.int .i64 0))∧(ks=[] ∨ ∃ gO offO,adO=some ⟨gO,offO,none⟩∧∀ (i:Nat) (h:i < ks.length),Cel w9 M w.heap.size gO (offO + i * 2) (.string ks[i].t)∧Cel w9 M w.heap.size gO (offO + i * 2 + 1) (.string ks[i].s))):=by
           have hS9:=HS6.out.trans hst.2;have e:E3 ++ (ks.take (q + 1)).map (fun a:Al=>(((a.t,a.s),⟨rs[k].name,rs[k].rows[j].name,0⟩):Ky × St))=E6 ++ [((ks[q].t,ks[q].s),(⟨rs[k].name,rs[k].rows[j].name,0⟩:St))]:=by
            rw [List.take_succ_eq_append_getElem hql,List.map_append,← List.append_assoc,← HE6D.out]; rfl
           obtain ⟨k1,k2,k3⟩:=HCK.out;refine ⟨n6 + 1,_,by rw [e]; exact hst.1,by omega,by rw [e,List.length_append]; simp; omega,⟨k1.1.stl hS9,k1.2.1.stl hS9,fun i h=>(k1.2.2 i h).stl hS9⟩,⟨k2.1.stl hS9,k2.2.1.stl hS9,k2.2.2.stl hS9⟩,?_⟩;rcases k3 with hnil | ⟨gO',offO',e1,hc⟩
           ·exact .inl hnil
           ·exact .inr ⟨gO',offO',e1,fun i h=>⟨(hc i h).1.stl hS9,(hc i h).2.stl hS9⟩⟩
          clear hst hg7 hback hown8 hgrow8 hnil8 hloc8 hg9 hM9;go_wp2;go_roundw;case rel=>exact ⟨q + 1,by omega,by go_num,(by rw [hadO] at HGN; exact HGN),HBN⟩
          case measure=>simp [intOf] <;> omega
         ·obtain rfl:q=ks.length:=by omega
          have HGN:Hid (∃ n M,Grp wr w.heap.size n M (E2 ++ relE (ah rs) rs[k].name rs[k].rows[j].name (au rs[k].rows[j].rows) (m + 1))∧n≤k * 540 + j * 90 + (m + 1) * 6∧(E2 ++ relE (ah rs) rs[k].name rs[k].rows[j].name (au rs[k].rows[j].rows) (m + 1)).length≤k * 540 + j * 90 + (m + 1) * 6∧(Cel wr M w.heap.size g7 0 (.string rs[k].name)∧Cel wr M w.heap.size g9 0 (.string rs[k].rows[j].name)∧∀ (i:Nat) (h:i < rs[k].rows[j].rows.length),Cel wr M w.heap.size gA i (.bool ((dD (au rs[k].rows[j].rows)).getD i false)))):=by
           obtain ⟨n,M,h1,hn,h2,h3,-,-⟩:=HG.out;rw [List.take_length] at h1 h2;have e:E2 ++ relE (ah rs) rs[k].name rs[k].rows[j].name (au rs[k].rows[j].rows) (m + 1)=E3 ++ ks.map (fun a:Al=>(((a.t,a.s),⟨rs[k].name,rs[k].rows[j].name,0⟩):Ky × St)):=by
            rw [tq _ _ _ _ _ hml _ HNG.out,← List.append_assoc,← HE3D.out,HKS.out]; rfl
           refine ⟨n,M,by rw [e]; exact h1,by omega,by rw [e]; omega,h3⟩
          clear HG;go_wp2;go_roundw;case rel=>exact ⟨m + 1,by omega,by go_num,HGN,HB⟩
          case measure=>simp [intOf] <;> omega
      ·obtain rfl:m=rs[k].rows[j].rows.length:=by omega
       have HGN:Hid (∃ n M,Grp wr w.heap.size n M (E1 ++ gQ (ah rs) rs[k].name (rs[k].rows.take (j + 1)))∧n≤k * 540 + (j + 1) * 90∧(E1 ++ gQ (ah rs) rs[k].name (rs[k].rows.take (j + 1))).length≤k * 540 + (j + 1) * 90∧Cel wr M w.heap.size g7 0 (.string rs[k].name)):=by
        obtain ⟨n,M,h1,hn,h2,h3⟩:=HG.out;have e:E1 ++ gQ (ah rs) rs[k].name (rs[k].rows.take (j + 1))=E2 ++ relE (ah rs) rs[k].name rs[k].rows[j].name (au rs[k].rows[j].rows) rs[k].rows[j].rows.length:=by
         rw [Eh _ _ _ _ hjl,← List.append_assoc,← HE2D.out]
        refine ⟨n,M,?_,by omega,?_,h3.1⟩
        ·rw [e]; exact h1
        ·rw [e]; omega
       go_wp2;go_roundw;case rel=>exact ⟨j + 1,by omega,by go_num,HGN,HB⟩
       case measure=>simp [intOf] <;> omega
    ·obtain rfl:j=rs[k].rows.length:=by omega
     have HGN:Hid (∃ n M,Grp wr w.heap.size n M (gU (ah rs) (rs.take (k + 1)))∧n≤(k + 1) * 540∧(gU (ah rs) (rs.take (k + 1))).length≤(k + 1) * 540):=by
      obtain ⟨n,M,h1,hn,h2,h3⟩:=HG.out;rw [List.take_length] at h1 h2;have e:gU (ah rs) (rs.take (k + 1))=E1 ++ gQ (ah rs) rs[k].name rs[k].rows:=by rw [Ei _ _ _ hlt,← HE1D.out]
      refine ⟨n,M,?_,by omega,?_⟩
      ·rw [e]; exact h1
      ·rw [e]; omega
     go_wp2;go_roundw;case rel=>exact ⟨k + 1,by omega,by go_num,HGN,HB⟩
     case measure=>simp [intOf] <;> omega
  ·obtain rfl:k=rs.length:=by omega
   have HGN:Hid (∃ n M,Grp wr w.heap.size n M (gU (ah rs) rs)):=by
    obtain ⟨n,M,h1,-⟩:=HG.out;rw [List.take_length] at h1;exact ⟨n,M,h1⟩
   go_wp2;go_ret;exact ⟨rfl,HGN.out,HB.out⟩
end Go.Proofs.YteoflgocljfgeaaGreatDoor
