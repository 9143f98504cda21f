/- Contracts of the program's functions that look at a node and at a whole expression. -/
import Derived.Test.YtajkkeikihhejaaGreatSq
import Derived.Test.YtajkkeikihhejaaGreatJ27
import Derived.Test.YtajkkeikihhejaaGreatSpecSchema11
open Go.Proofs.Tryz
set_option maxHeartbeats 80000000
namespace Go.Proofs.YtajkkeikihhejaaGreat
open Go.ChangeShapes Go.WideShapes Go.ChangeAt Go.RowKit
open Pl
set_option maxRecDepth 8000 in
theorem FJ (r:ER) (w:ae) (hf:r.e.fits) (hl:r.e.light) (hok:r.ok w) (hcap:r.e.allow.length≤r.capA) (h1:r.e.kind=1) :
  Calls prog 239 #[r.val] w fun e w'=>e=.returned (.bool (ay r.e))∧af w w':=by
 obtain ⟨⟨kind,allow,over,name,kids⟩,adA,capA,adK,capK⟩:=r;obtain ⟨f1,f2,f3,f4,f5⟩:=hf;obtain ⟨hA,hK⟩:=hok;obtain ⟨l1,l2⟩:=hl;simp only at f1 f2 f3 f4 f5 h1 hA hK hcap l1 l2;subst h1;simp only [ER.val];unfold maxLen at f4 f5;have HB0:Hid (∀ n,af w ((w.alloc (.cells #[.int .i64 1,.slice adA allow.length capA,.string over,.string name,.slice adK kids.length capK] 39)).drewN n)):=fun n=>below_drewN ((Sz w.heap.size w).alloc (Sy _) _) n;have HA:=az hA;have UL:=az f1;have HCAP:Hid (allow.length≤capA):=hcap;clear hA hK f1 hcap;go_enter func239,ntmps239;go_wp2_with fail;go_quiet (fail);go_wp2_with fail;refine (FI adA capA allow _ l1 HCAP.out UL.out (HA.out.below (HB0.out _))).mono ?_;rintro e w1 ⟨rfl,hb1⟩;have c2:w1.cell? ⟨w.heap.size,2,none⟩=some (.string over):=by rw [hb1.cell (p:=⟨w.heap.size,2,none⟩) (by show _ < (w.alloc _).heap.size; simp)]; show (w.alloc _).cell? _=_; simp
 have c3:w1.cell? ⟨w.heap.size,3,none⟩=some (.string name):=by rw [hb1.cell (p:=⟨w.heap.size,3,none⟩) (by show _ < (w.alloc _).heap.size; simp)]; show (w.alloc _).cell? _=_; simp
 have HB1:Hid (af w w1):=(HB0.out _).trans (hb1.mono (HB0.out _).size);clear hb1 HB0;go_wp2
 all_goals go_ret
 all_goals exact ⟨ag (by first | (simp [ay, *]; done) | (simp [ay, *]; omega) | (simp [ay, *]; rw [Bool.eq_iff_iff]; simp; done) | (simp [ay, *]; rw [Bool.eq_iff_iff]; simp; omega)),HB1.out⟩
theorem Il (r:ER) (w:ae) (hf:r.e.fits) (hl:r.e.light) (hok:r.ok w) (hcap:r.e.allow.length≤r.capA) :
  Calls prog 239 #[r.val] w fun e w'=>e=.returned (.bool (ay r.e))∧af w w':=by
 by_cases h:r.e.kind=1
 ·exact FJ r w hf hl hok hcap h
 exact DX r w hf h
structure Arr (es:List Ex) (w:World) (g k:Nat):Prop where
 lt:g < w.heap.size
 told:∀ j,j < k→w.cell? ⟨g,j,none⟩=some (.int .i64 (aH es j))
 rest:∀ j,k≤j→j < 15→w.cell? ⟨g,j,none⟩=some (.int .i64 0)
 free:∀ o,w.frozen? ⟨g,o,none⟩=false
theorem Arr.later {es:List Ex} {w w':ae} {g k:Nat} (h:Arr es w g k) (hb:af w w'):Arr es w' g k where
 lt:=Sv h.lt hb.size
 told j hj:=kept hb h.lt (h.told j hj)
 rest j h1 h2:=kept hb h.lt (h.rest j h1 h2)
 free o:=RI hb h.lt (h.free o)
theorem Arr.put {es:List Ex} {w:ae} {g k:Nat} (h:Arr es w g k) (hk:k < 15):Arr es (w.setCell ⟨g,k,none⟩ (.int .i64 (aH es k))) g (k + 1) where
 lt:=by simpa using h.lt
 told j hj:=by
  by_cases e:j=k
  ·subst e; exact yG (h.rest j (Sy _) hk)
  rw [pQ (Ne.symm e)]; exact h.told j (by omega)
 rest j h1 h2:=by rw [pQ (by omega)]; exact h.rest j (by omega) h2
 free o:=by simpa using h.free o
def uW (es:List Ex):Bool:=jr es && decide (aH es (es.length - 1)=0)
theorem CJ {es:List Ex} (k:Nat) (h:k < es.length) (hb:aH es k < 0):uW es=false:=by
 have:jr es=false:=by
  rw [Bool.eq_false_iff]; intro h2; unfold jr at h2; rw [SQ] at h2; have:=h2 k (by simpa using h); simp at this; omega
 simp [uW,this]
theorem xZ (b off cap:Nat) (rs:List ER) (w:ae) (hn1:1≤rs.length) (hn2:rs.length≤15) (hl:∀ r ∈ rs,r.e.light) (hb:b < w.heap.size) (hr:∀ (i:Nat) (h:i < rs.length),xQ w b (off + i * 5) rs[i]) (hok:∀ r ∈ rs,r.ok w) :
  Calls prog 240 #[.slice (some ⟨b,off,none⟩) rs.length cap] w fun e w'=>e=.returned (.bool (uW (ak rs)))∧af w w':=by
 have Vo:Hid ((ak rs).length=rs.length):=bi rs;have HL:=az hl;have HR:Hid (∀ (i:Nat) (h:i < rs.length),xQ w b (off + i * 5) rs[i]):=hr;have HO:=az hok;clear hl hr hok;go_enter func240,ntmps240;go_wp2_with fail;go_loopw [10] (fun i wr=>∃ k:Nat,k≤rs.length∧i=.int .i64 k∧Hid (Mx (ak rs) k)∧Hid (Arr (ak rs) wr w.heap.size k)∧af w wr) (fun i _=>rs.length - (intOf i).toNat);case atStart =>
  refine ⟨0,SC _,rfl,(fun j hj=>absurd hj (Tn _)),⟨by simp,(fun j hj=>absurd hj (Tn _)),fun j _ hj=>?_,fun o=>by simp⟩,(Sz _ _).alloc (Sy _) _⟩;have h15:j=0 ∨ j=1 ∨ j=2 ∨ j=3 ∨ j=4 ∨ j=5 ∨ j=6 ∨ j=7 ∨ j=8 ∨ j=9 ∨ j=10 ∨ j=11 ∨ j=12 ∨ j=13 ∨ j=14:=by omega
  rcases h15 with rfl | rfl | rfl | rfl | rfl | rfl | rfl | rfl | rfl | rfl | rfl | rfl | rfl | rfl | rfl <;> simp
 obtain ⟨k,hk,rfl,HGU,Y9,hB⟩:=hrel;by_cases hlt:k < rs.length
 ·have Vz:k < (ak rs).length:=by rw [Vo.out]; exact hlt
  obtain ⟨t0,t1,t2,t3,t4⟩:=(HR.out k hlt).later hb hB;have hk1:=bq k;have hk2:(k:Int) < (rs.length:Int):=by omega
  have hk3:(k:Int) < 15:=by omega
  obtain ⟨-,lk⟩:=HL.out rs[k] (Sw hlt);obtain ⟨W1,hW1⟩:∃ W1,W1=wr.alloc (.cells #[.int .i64 rs[k].e.kind,.slice rs[k].adA rs[k].e.allow.length rs[k].capA,.string rs[k].e.over,.string rs[k].e.name,.slice rs[k].adK rs[k].e.kids.length rs[k].capK] 39):=⟨_,rfl⟩;have hal:af wr W1:=by rw [hW1]; exact (Sz _ _).alloc (Sy _) _
  have hB1:af w W1:=hB.trans (hal.mono hB.size);have ZT:Hid (Arr (ak rs) W1 w.heap.size k):=Y9.out.later hal;have s4:W1.cell? ⟨wr.heap.size,4,none⟩=some (.slice rs[k].adK rs[k].e.kids.length rs[k].capK):=by rw [hW1]; simp
  have HT:Hid (dE (dQ (ak rs) k) (rs[k].e.kids.take rs[k].e.kids.length).reverse ((k:Int) - 1)=aH (ak rs) k):=by
   show _=_;rw [SS,jO (ak rs) k,oJ rs k hlt]
  clear Y9;go_wp2_with fail;rw [← hW1];clear hW1 t0 t1 t2 t3 t4 hal;go_loopw [6,7] (fun x i w2=>∃ (j:Nat) (y:Int),j≤rs[k].e.kids.length∧i=.int .i64 ((j:Int) - 1)∧x=.int .i64 y∧0≤y∧y≤k∧Hid (dE (dQ (ak rs) k) (rs[k].e.kids.take j).reverse (y - 1)=aH (ak rs) k)∧w2=W1) (fun _ i _=>(intOf i + 1).toNat);case atStart=>exact ⟨rs[k].e.kids.length,(k:Int),Sy _,rfl,rfl,by omega,by omega,HT,rfl⟩
  obtain ⟨j,y,hj,rfl,rfl,hy0,hy1,HG,rfl⟩:=hrel;by_cases hj0:0 < j
  ·obtain ⟨j,rfl⟩:∃ i,j=i + 1:=⟨j - 1,by omega⟩;have hjl:j < rs[k].e.kids.length:=by omega
   rcases (HO.out rs[k] (Sw hlt)).2.below hB1 with hnil | ⟨bk,offk,WH,hbk,Yx⟩
   ·rw [hnil] at hjl; simp at hjl
   have s4':=s4;rw [WH] at s4';have k0:=Yx j hjl;have hji:((j + 1:Nat):Int) - 1=(j:Int):=by omega
   have hj1:=bq j;have hj2:(j:Int) < (rs[k].e.kids.length:Int):=by omega
   have HG2:Hid ((if y - 1 < 0 ∨ rs[k].e.kids[j] ≠ y - 1 then -1 else if dQ (ak rs) k (y - 1) < 0 then -1 else dE (dQ (ak rs) k) (rs[k].e.kids.take j).reverse (dQ (ak rs) k (y - 1) - 1))=aH (ak rs) k):=by
    have:=HG.out;rw [SA hjl,List.reverse_append] at this;exact this
   rw [hji];clear HG Yx WH s4;by_cases hy:y=0
   ·have HN:Hid (uW (ak rs)=false):=CJ k Vz (by rw [← HG2.out,if_pos (Or.inl (by omega))]; omega);subst hy;go_wp2;go_ret;exact ⟨by rw [HN.out]; rfl,hB1⟩
   obtain ⟨m,rfl⟩:∃ m:Nat,y=(m:Int) + 1:=⟨(y - 1).toNat,by omega⟩;have em:(m:Int) + 1 - 1=(m:Int):=by omega
   by_cases hkx:rs[k].e.kids[j]=(m:Int)
   ·have hF:dQ (ak rs) k ((m:Int) + 1 - 1)=aH (ak rs) m:=by rw [em]; unfold dQ; rw [if_pos ⟨by omega,by simp; omega⟩]; simp
    have HF:Hid (dQ (ak rs) k ((m:Int) + 1 - 1)=aH (ak rs) m):=hF;have hle:=nD (ak rs) m;have hge:0≤aH (ak rs) m:=HGU.out m (by omega);have a0:=ZT.out.told m (by omega);have hm1:=bq m;have hm2:(m:Int) < 15:=by omega
    have VY:Hid (dE (dQ (ak rs) k) (rs[k].e.kids.take j).reverse (aH (ak rs) m - 1)=aH (ak rs) k):=by
     show _=_;rw [← HG2.out,if_neg (by omega),HF.out,if_neg (by omega)]
    clear hF HG2;go_wp2;go_roundw;case rel=>exact ⟨j,aH (ak rs) m,by omega,by go_num,rfl,hge,by omega,VY,by first | rfl | trivial⟩
    simp [intOf] <;> omega
   have HN:Hid (uW (ak rs)=false):=CJ k Vz (by rw [← HG2.out,if_pos (Or.inr (by rw [em]; exact hkx))]; omega);have hq:(rs[k].e.kids[j] != (m:Int))=true:=by simpa using hkx
   have hq0:((m:Int) + 1 == 0)=false:=by simp; omega
   go_wp2;go_ret;exact ⟨by rw [HN.out]; rfl,hB1⟩
  obtain rfl:j=0:=by omega
  have hX:aH (ak rs) k=y:=by have:=HG.out; simp [dE] at this; omega
  have HGU2:Hid (Mx (ak rs) (k + 1)):=by
   intro m hm;by_cases e:m=k
   ·subst e; omega
   exact HGU.out m (by omega)
  have q0:=ZT.out.rest k (Sy _) (by omega);have qf:=ZT.out.free;have HA2:=ZT.out.put (k:=k) (by omega);rw [hX] at HA2;have HA3:Hid (Arr (ak rs) _ w.heap.size (k + 1)):=HA2;have hB2:=hB1.setCell (p:=⟨w.heap.size,k,none⟩) (Sy _) (.int .i64 y);clear HG HA2 hX;go_wp2;go_roundw;case rel=>exact ⟨k + 1,by omega,by go_num,HGU2,HA3,hB2⟩
  simp [intOf] <;> omega
 obtain rfl:k=rs.length:=by omega
 have a0:=Y9.out.told (rs.length - 1) (by omega);have HKB:Hid (uW (ak rs)=decide (aH (ak rs) (rs.length - 1)=0)):=by
  show _=_;have:jr (ak rs)=true:=by
   unfold jr;rw [SQ];intro j hj;have hj':j < rs.length:=by simpa [Vo.out] using hj
   simpa using HGU.out j hj'
  unfold uW;rw [this,Vo.out,Bool.true_and]
 have hcast:((rs.length:Int) - 1)=((rs.length - 1:Nat):Int):=by omega
 have h15:((rs.length - 1:Nat):Int) < 15:=by omega
 have h00:(0:Int)≤((rs.length - 1:Nat):Int):=by omega
 go_wp2;go_ret;exact ⟨by rw [HKB.out]; exact ag (by rw [Bool.eq_iff_iff]; simp),hB⟩
theorem Ld {es:List Ex} (h:¬ (1≤es.length∧es.length≤15)):kW es=false:=by rw [← vJ]; exact BJ h
theorem Im {es:List Ex} (k:Nat) (h:k < es.length) (hb:ay es[k]=false):kW es=false:=by simp [kW,BF es k h hb]
theorem Aq (b off cap:Nat) (rs:List ER) (w:ae) (hlen:rs.length≤1048576) (hl:∀ r ∈ rs,r.e.light) (hf:∀ r ∈ rs,r.e.fits) (hcp:∀ r ∈ rs,r.e.allow.length≤r.capA) (hb:b < w.heap.size) (hr:∀ (i:Nat) (h:i < rs.length),xQ w b (off + i * 5) rs[i]) (hok:∀ r ∈ rs,r.ok w) :
  Calls prog 221 #[.slice (some ⟨b,off,none⟩) rs.length cap] w fun e w'=>e=.returned (.bool (kW (ak rs)))∧af w w':=by
 have Vo:Hid ((ak rs).length=rs.length):=bi rs;have HL:=az hl;have HF:=az hf;have HCP:Hid (∀ r ∈ rs,r.e.allow.length≤r.capA):=hcp;have HR:Hid (∀ (i:Nat) (h:i < rs.length),xQ w b (off + i * 5) rs[i]):=hr;have HO:=az hok;clear hl hf hr hok hcp;by_cases hn:1≤rs.length∧rs.length≤15
 ·obtain ⟨hn1,hn2⟩:=hn;go_enter func221,ntmps221;go_wp2_with fail;go_loopw [3,16] (fun o i wr=>∃ k:Nat,k≤rs.length∧i=.int .i64 k∧o=.int .i64 (gF (ak rs) k:Nat)∧Hid (jq (ak rs) k=true)∧af w wr) (fun _ i _=>rs.length - (intOf i).toNat);case atStart=>exact ⟨0,SC _,rfl,rfl,(by show _=_; simp [jq]),Sz _ _⟩
  obtain ⟨k,hk,rfl,rfl,HU,hB⟩:=hrel;by_cases hlt:k < rs.length
  ·have Vz:k < (ak rs).length:=by rw [Vo.out]; exact hlt
   have HEK:Hid ((ak rs)[k]=rs[k].e):=by show _=_; simp [ak]
   obtain ⟨t0,t1,t2,t3,t4⟩:=(HR.out k hlt).later hb hB;have hk1:=bq k;have hk2:(k:Int) < (rs.length:Int):=by omega
   have hol:=ug (ak rs) k;have hal:af w (wr.alloc (.cells #[.int .i64 rs[k].e.kind,.slice rs[k].adA rs[k].e.allow.length rs[k].capA,.string rs[k].e.over,.string rs[k].e.name,.slice rs[k].adK rs[k].e.kids.length rs[k].capK] 39)):=hB.alloc hB.size _;have TL:=az hal;clear hal;go_wp2_with fail;refine (Il rs[k] _ (HF.out _ (Sw hlt)) (HL.out _ (Sw hlt)) ((HO.out _ (Sw hlt)).below TL.out) (HCP.out _ (Sw hlt))).mono ?_;rintro e w1 ⟨rfl,hb1⟩;have hB1:af w w1:=TL.out.trans (hb1.mono TL.out.size);have g0:w1.cell? ⟨wr.heap.size,0,none⟩=some (.int .i64 rs[k].e.kind):=by rw [hb1.cell (p:=⟨wr.heap.size,0,none⟩) (by simp)]; simp
   clear hb1 t0 t1 t2 t3 t4 TL;cases Tw:ay rs[k].e;case false=>
    have HN:Hid (kW (ak rs)=false):=Im k Vz (by rw [HEK.out]; exact Tw);go_wp2;go_ret;exact ⟨by rw [HN.out]; rfl,hB1⟩
   have Wt:Hid (jq (ak rs) (k + 1)=true):=by show _=_; rw [uh _ _ Vz,HU.out,HEK.out,Tw]; rfl
   have HOW:Hid (gF (ak rs) (k + 1)=gF (ak rs) k + (if rs[k].e.kind=1 then 1 else 0)):=by show _=_; rw [yI _ _ Vz,HEK.out]
   by_cases Yy:rs[k].e.kind=1
   ·have Xj:Hid (gF (ak rs) (k + 1)=gF (ak rs) k + 1):=by show _=_; rw [HOW.out,if_pos Yy]
    clear HOW;go_wp2;go_roundw;case rel=>exact ⟨k + 1,by omega,by go_num,by rw [Xj.out]; go_num,Wt,hB1⟩
    simp [intOf] <;> omega
   have Xj:Hid (gF (ak rs) (k + 1)=gF (ak rs) k):=by show _=_; rw [HOW.out,if_neg Yy]; rfl
   clear HOW;go_wp2;go_roundw;case rel=>exact ⟨k + 1,by omega,by go_num,by rw [Xj.out],Wt,hB1⟩
   simp [intOf] <;> omega
  obtain rfl:k=rs.length:=by omega
  have HN:Hid ((ak rs).all ay=true):=by
   have:=HU.out;unfold jq at this;rwa [← Vo.out,SS] at this
  have HOW:Hid (gF (ak rs) rs.length=own (ak rs)):=by show _=_; unfold gF; rw [← Vo.out,SS]
  have hol:=ug (ak rs) rs.length;by_cases ho:gF (ak rs) rs.length≤1
  ·have HS:Hid (kW (ak rs)=uW (ak rs)):=by
    show _=_;have h1:own (ak rs)≤1:=by rw [← HOW.out]; exact ho
    have e1:=Vo.out;unfold kW uW;rw [e1,HN.out];simp [h1,hn1,hn2]
   go_wp2_with fail;refine (xZ b off cap rs _ hn1 hn2 HL.out (Sv hb hB.size) (fun i hi=>(HR.out i hi).later hb hB) (fun r hr=>(HO.out r hr).below hB)).mono ?_;rintro e w1 ⟨rfl,hb1⟩;go_wp2;go_ret;exact ⟨by rw [HS.out]; rfl,hB.trans (hb1.mono hB.size)⟩
  have HS:Hid (kW (ak rs)=false):=by
   show _=_;have h1:¬ own (ak rs)≤1:=by rw [← HOW.out]; exact ho
   simp [kW,h1]
  go_wp2;go_ret;exact ⟨by rw [HS.out]; rfl,hB⟩
 have HN:Hid (kW (ak rs)=false):=Ld (by rw [Vo.out]; exact hn);go_enter func221,ntmps221;go_wp2_with fail
 all_goals go_ret
 all_goals exact ⟨by rw [HN.out]; rfl,Sz _ _⟩
theorem Ar (ad:Option Addr) (cap:Nat) (rs:List ER) (w:ae) (hlen:rs.length≤1048576) (hl:∀ r ∈ rs,r.e.light) (hf:∀ r ∈ rs,r.e.fits) (hcp:∀ r ∈ rs,r.e.allow.length≤r.capA) (hs:jk w ad rs) :
  Calls prog 221 #[.slice ad rs.length cap] w fun e w'=>e=.returned (.bool (kW (ak rs)))∧af w w':=by
 rcases hs with rfl | ⟨b,off,rfl,hb,hr,hok⟩
 ·go_enter func221,ntmps221;go_wp2_with fail;go_ret;exact ⟨rfl,Sz _ _⟩
 exact Aq b off cap rs w hlen hl hf hcp hb hr hok
open Go.Sort
def ib (rs:List RR):Bool:=decide (rs.length≤6) && dF (eu rs) rs.length
theorem Io {rs:List RR} {k:Nat} (h:k < rs.length):l5 (eu rs) k=(aQ rs[k].name && xE (eu rs) rs[k].name k && aN (ak rs[k].rows)):=Cj h
theorem Ip {rs:List TR} {k:Nat} (h:k < rs.length):kF (ah rs) k=(aQ rs[k].name && uG (ah rs) rs[k].name k && ib rs[k].rows):=by
 rw [Ci h]; unfold ib; rw [Bool.and_assoc]
set_option maxRecDepth 100000 in
theorem x8 (ad:Option Addr) (cap:Nat) (rs:List RR) (w:ae) (hlen:rs.length≤1048576) (hs:Mj w ad rs) (hl:∀ r ∈ rs,r.light) (hf:∀ r ∈ rs,r.fits) (hcp:∀ r ∈ rs,r.caps) :
  Calls prog 182 #[.slice ad rs.length cap] w fun e w'=>e=.returned (.bool (ib rs))∧af w w':=by
 have HS:=az hs;have HL:=az hl;have TP:=az hf;have VT:=az hcp;clear hs hl hf hcp;have Xr:Hid (ib rs=(decide (rs.length≤6) && dF (eu rs) rs.length)):=by show _=_; rfl
 by_cases h6:6 < rs.length
 ·have HN:Hid (ib rs=false):=by show _=_; rw [Xr.out]; simp; omega
  go_enter func182,ntmps182;go_wp2;go_ret;exact ⟨ag HN.out.symm,Sz _ _⟩
 go_enter func182,ntmps182;go_wp2;go_loopw [10] (fun i wr=>∃ k:Nat,k≤rs.length∧i=.int .i64 k∧Hid (dF (eu rs) k=true)∧Hid (af w wr)) (fun i _=>rs.length - (intOf i).toNat);case atStart=>exact ⟨0,SC _,rfl,rfl,Sz _ _⟩
 obtain ⟨k,hk,rfl,HP,HB⟩:=hrel;by_cases hlt:k < rs.length
 ·rcases HS.out.below HB.out with rfl | ⟨b,off,rfl,hb,hr,hok⟩
  ·simp at hlt
  obtain ⟨t0,t1⟩:=hr k hlt;have Wj:Hid (rs[k].ok wr):=hok rs[k] (Sw hlt);have z1:rs[k].name.size≤maxLen:=(TP.out _ (Sw hlt)).1;have Wh:Hid (rs[k].light):=HL.out _ (Sw hlt);have VZ:Hid (rs[k].fits):=TP.out _ (Sw hlt);have HCP:Hid (rs[k].caps):=VT.out _ (Sw hlt);have hk1:=bq k;have hk2:(k:Int) < (rs.length:Int):=by omega
  have HTP:Hid (∀ (m:Nat) (h:m < rs.length),wr.cell? ⟨b,off + m * 2,none⟩=some (.string rs[m].name)):=fun m h=>(hr m h).1;have XR:Hid (l5 (eu rs) k=(aQ rs[k].name && xE (eu rs) rs[k].name k && aN (ak rs[k].rows))):=Io hlt;have HBAD:Hid (l5 (eu rs) k=false→ib rs=false):=fun h=>by rw [Xr.out,sN _ k h _ hlt]; simp
  obtain ⟨W1,hW1⟩:∃ W1,W1=wr.alloc (.cells #[.string rs[k].name,.slice rs[k].ad rs[k].rows.length rs[k].cap] 147):=⟨_,rfl⟩;have hal:af wr W1:=by rw [hW1]; exact (Sz _ _).alloc (Sy _) _
  have TL:=az hal;have hgl:wr.heap.size < W1.heap.size:=by rw [hW1]; simp
  have g0:W1.cell? ⟨wr.heap.size,0,none⟩=some (.string rs[k].name):=by rw [hW1]; simp
  have g1:W1.cell? ⟨wr.heap.size,1,none⟩=some (.slice rs[k].ad rs[k].rows.length rs[k].cap):=by rw [hW1]; simp
  have hb4:b < W1.heap.size:=Nat.lt_trans hb hgl;clear hr hok;go_wp2_with fail;rw [← hW1];clear hW1 t0 t1 hal;have q0:=cell_regrown g0;have q1:=cell_regrown g1;have Um:=oM (jS (W:=W1) (fun W'=>aM rs[k].name W' z1));have XT:Hid (∀ d os,Calls prog 221 #[.slice rs[k].ad rs[k].rows.length rs[k].cap] (grow (redrawn W1 d) os) fun e w''=>e=.returned (.bool (aN (ak rs[k].rows)))∧∃ p:Regrown,w''=grow (redrawn W1 p.d) p.os):=by
   show ∀ d os,Calls prog 221 #[.slice rs[k].ad rs[k].rows.length rs[k].cap] (grow (redrawn W1 d) os) fun e w''=>e=.returned (.bool (aN (ak rs[k].rows)))∧∃ p:Regrown,w''=grow (redrawn W1 p.d) p.os;rw [vJ];refine bC fun W' hb=>?_;exact Ar _ _ rs[k].rows _ Wh.out.1 Wh.out.2 VZ.out.2.2 HCP.out.2 (Wj.out.below (TL.out.trans (hb.mono TL.out.size)))
  have Uy:Hid (∀ d os,af w (grow (redrawn W1 d) os)):=fun d os=>HB.out.trans ((TL.out.mono HB.out.size).trans ((below_regrown W1 d os).mono (SF HB.out.size TL.out.size)));cases hnm:aQ rs[k].name;case false=>
   rw [hnm] at Um;have HN:Hid (ib rs=false):=HBAD.out (by rw [XR.out]; simp [hnm]);refine wp_region_quiet_below (by kernel_rfl) (by kernel_rfl) ?_
   repeat (go_big_quiet_step (exact Um.out _ _))
   refine wpQuiet_nil ?_;rintro _ ⟨⟨dq,osq⟩,rfl⟩;go_wp2;go_ret;exact ⟨ag HN.out.symm,Uy.out dq osq⟩
  rw [hnm] at Um;obtain ⟨ex,hex⟩:∃ ex,ex=aN (ak rs[k].rows):=⟨_,rfl⟩;rw [← hex] at XT XR;have fin:Hid (∀ pv,xE (eu rs) rs[k].name k=pv→l5 (eu rs) k=(pv && ex)):=fun pv h=>by rw [XR.out,hnm,h]; simp
  clear hex XR hnm;by_cases hpos:k=0
  ·have hk0:¬ (0:Int) < (k:Int):=by omega
   have ZI:decide (0 < k)=false:=by simp; omega
   have Vj:=oM (fin.out _ (zR hpos));replace hpos:Hid (k=0):=hpos;refine wp_region_quiet_below (by kernel_rfl) (by kernel_rfl) ?_
   repeat (go_big_quiet_step (first | exact Um.out _ _ | exact XT.out _ _))
   refine wpQuiet_nil ?_;rintro _ ⟨⟨dq,osq⟩,rfl⟩;cases ex;case false=>
    have HN:Hid (ib rs=false):=HBAD.out (by rw [Vj.out]; rfl);go_wp2;go_ret;exact ⟨ag HN.out.symm,Uy.out dq osq⟩
   have Vl:Hid (dF (eu rs) (k + 1)=true):=by show _=_; simp only [dF]; rw [HP.out,Vj.out]; rfl
   go_wp2;go_roundw;case rel=>exact ⟨k + 1,by omega,by go_num,Vl,Uy.out dq osq⟩
   simp [intOf] <;> omega
  obtain ⟨m,hm⟩:∃ m,k=m + 1:=⟨k - 1,by omega⟩;have Uf:m < rs.length:=by omega
  have hk0:(0:Int) < (k:Int):=by omega
  have ZI:decide (0 < k)=true:=by simp; omega
  have hkm:(k:Int) - 1=(m:Int):=by omega
  have hwm:IntKind.i64.wrap (m:Int)=(m:Int):=by rw [IntKind.wrap_i64]; omega
  have hm1:=bq m;have hm2:(m:Int) < (rs.length:Int):=by omega
  have qm:=cell_regrown (aI TL.out hb (HTP.out m Uf));have Vj:=oM (fin.out _ (zP hm Uf));replace hm:Hid (k=m + 1):=hm;cases hless:Op.bytesLess rs[m].name.toList rs[k].name.toList;case false=>
   have HN:Hid (ib rs=false):=HBAD.out (by rw [Vj.out]; simp [jd,hless]);refine wp_region_quiet_below (by kernel_rfl) (by kernel_rfl) ?_
   repeat (go_big_quiet_step (first | exact Um.out _ _ | exact XT.out _ _))
   refine wpQuiet_nil ?_;rintro _ ⟨⟨dq,osq⟩,rfl⟩;go_wp2;go_ret;exact ⟨ag HN.out.symm,Uy.out dq osq⟩
  refine wp_region_quiet_below (by kernel_rfl) (by kernel_rfl) ?_
  repeat (go_big_quiet_step (first | exact Um.out _ _ | exact XT.out _ _))
  refine wpQuiet_nil ?_;rintro _ ⟨⟨dq,osq⟩,rfl⟩;cases ex;case false=>
   have HN:Hid (ib rs=false):=HBAD.out (by rw [Vj.out]; simp);go_wp2;go_ret;exact ⟨ag HN.out.symm,Uy.out dq osq⟩
  have Vl:Hid (dF (eu rs) (k + 1)=true):=by show _=_; simp only [dF]; rw [HP.out,Vj.out]; simp [jd,hless]
  go_wp2;go_roundw;case rel=>exact ⟨k + 1,by omega,by go_num,Vl,Uy.out dq osq⟩
  simp [intOf] <;> omega
 obtain rfl:k=rs.length:=by omega
 have HY:Hid (ib rs=true):=by show _=_; rw [Xr.out,HP.out]; simp; omega
 go_wp2;go_ret;exact ⟨ag HY.out.symm,HB.out⟩
set_option maxRecDepth 100000 in
theorem FK (ad:Option Addr) (cap:Nat) (rs:List TR) (w:ae) (hlen:rs.length≤1048576) (hs:mD w ad rs) (hl:∀ r ∈ rs,r.light) (hf:∀ r ∈ rs,r.fits) (hcp:∀ r ∈ rs,r.caps) :
  Calls prog 131 #[.slice ad rs.length cap] w fun e w'=>e=.returned (.bool (bz (ah rs)))∧af w w':=by
 have HS:=az hs;have HL:=az hl;have TP:=az hf;have VT:=az hcp;clear hs hl hf hcp;have Xr:Hid (bz (ah rs)=(decide (rs.length≤6) && iK (ah rs) rs.length)):=by show _=_; unfold bz; rw [lh]
 by_cases h6:6 < rs.length
 ·have HN:Hid (bz (ah rs)=false):=by show _=_; rw [Xr.out]; simp; omega
  go_enter func131,ntmps131;go_wp2;go_ret;exact ⟨ag HN.out.symm,Sz _ _⟩
 go_enter func131,ntmps131;go_wp2;go_loopw [10] (fun i wr=>∃ k:Nat,k≤rs.length∧i=.int .i64 k∧Hid (iK (ah rs) k=true)∧Hid (af w wr)) (fun i _=>rs.length - (intOf i).toNat);case atStart=>exact ⟨0,SC _,rfl,rfl,Sz _ _⟩
 obtain ⟨k,hk,rfl,HP,HB⟩:=hrel;by_cases hlt:k < rs.length
 ·rcases HS.out.below HB.out with rfl | ⟨b,off,rfl,hb,hr,hok⟩
  ·simp at hlt
  obtain ⟨t0,t1⟩:=hr k hlt;have Wj:Hid (rs[k].ok wr):=hok rs[k] (Sw hlt);have z1:rs[k].name.size≤maxLen:=(TP.out _ (Sw hlt)).1;have Wh:Hid (rs[k].light):=HL.out _ (Sw hlt);have VZ:Hid (rs[k].fits):=TP.out _ (Sw hlt);have HCP:Hid (rs[k].caps):=VT.out _ (Sw hlt);have hk1:=bq k;have hk2:(k:Int) < (rs.length:Int):=by omega
  have HTP:Hid (∀ (m:Nat) (h:m < rs.length),wr.cell? ⟨b,off + m * 2,none⟩=some (.string rs[m].name)):=fun m h=>(hr m h).1;have XR:Hid (kF (ah rs) k=(aQ rs[k].name && uG (ah rs) rs[k].name k && ib rs[k].rows)):=Ip hlt;have HBAD:Hid (kF (ah rs) k=false→bz (ah rs)=false):=fun h=>by rw [Xr.out,sO _ k h _ hlt]; simp
  obtain ⟨W1,hW1⟩:∃ W1,W1=wr.alloc (.cells #[.string rs[k].name,.slice rs[k].ad rs[k].rows.length rs[k].cap] 127):=⟨_,rfl⟩;have hal:af wr W1:=by rw [hW1]; exact (Sz _ _).alloc (Sy _) _
  have TL:=az hal;have hgl:wr.heap.size < W1.heap.size:=by rw [hW1]; simp
  have g0:W1.cell? ⟨wr.heap.size,0,none⟩=some (.string rs[k].name):=by rw [hW1]; simp
  have g1:W1.cell? ⟨wr.heap.size,1,none⟩=some (.slice rs[k].ad rs[k].rows.length rs[k].cap):=by rw [hW1]; simp
  have hb4:b < W1.heap.size:=Nat.lt_trans hb hgl;clear hr hok;go_wp2_with fail;rw [← hW1];clear hW1 t0 t1 hal;have q0:=cell_regrown g0;have q1:=cell_regrown g1;have Um:=oM (jS (W:=W1) (fun W'=>aM rs[k].name W' z1));have XT:Hid (∀ d os,Calls prog 182 #[.slice rs[k].ad rs[k].rows.length rs[k].cap] (grow (redrawn W1 d) os) fun e w''=>e=.returned (.bool (ib rs[k].rows))∧∃ p:Regrown,w''=grow (redrawn W1 p.d) p.os):=by
   refine bC fun W' hb=>?_;exact x8 _ _ rs[k].rows _ Wh.out.1 (Wj.out.below (TL.out.trans (hb.mono TL.out.size))) Wh.out.2 VZ.out.2.2 HCP.out.2
  have Uy:Hid (∀ d os,af w (grow (redrawn W1 d) os)):=fun d os=>HB.out.trans ((TL.out.mono HB.out.size).trans ((below_regrown W1 d os).mono (SF HB.out.size TL.out.size)));cases hnm:aQ rs[k].name;case false=>
   rw [hnm] at Um;have HN:Hid (bz (ah rs)=false):=HBAD.out (by rw [XR.out]; simp [hnm]);refine wp_region_quiet_below (by kernel_rfl) (by kernel_rfl) ?_
   repeat (go_big_quiet_step (exact Um.out _ _))
   refine wpQuiet_nil ?_;rintro _ ⟨⟨dq,osq⟩,rfl⟩;go_wp2;go_ret;exact ⟨ag HN.out.symm,Uy.out dq osq⟩
  rw [hnm] at Um;obtain ⟨ex,hex⟩:∃ ex,ex=ib rs[k].rows:=⟨_,rfl⟩;rw [← hex] at XT XR;have fin:Hid (∀ pv,uG (ah rs) rs[k].name k=pv→kF (ah rs) k=(pv && ex)):=fun pv h=>by rw [XR.out,hnm,h]; simp
  clear hex XR hnm;by_cases hpos:k=0
  ·have hk0:¬ (0:Int) < (k:Int):=by omega
   have ZI:decide (0 < k)=false:=by simp; omega
   have Vj:=oM (fin.out _ (zQ hpos));replace hpos:Hid (k=0):=hpos;refine wp_region_quiet_below (by kernel_rfl) (by kernel_rfl) ?_
   repeat (go_big_quiet_step (first | exact Um.out _ _ | exact XT.out _ _))
   refine wpQuiet_nil ?_;rintro _ ⟨⟨dq,osq⟩,rfl⟩;cases ex;case false=>
    have HN:Hid (bz (ah rs)=false):=HBAD.out (by rw [Vj.out]; rfl);go_wp2;go_ret;exact ⟨ag HN.out.symm,Uy.out dq osq⟩
   have Vl:Hid (iK (ah rs) (k + 1)=true):=by show _=_; simp only [iK]; rw [HP.out,Vj.out]; rfl
   go_wp2;go_roundw;case rel=>exact ⟨k + 1,by omega,by go_num,Vl,Uy.out dq osq⟩
   simp [intOf] <;> omega
  obtain ⟨m,hm⟩:∃ m,k=m + 1:=⟨k - 1,by omega⟩;have Uf:m < rs.length:=by omega
  have hk0:(0:Int) < (k:Int):=by omega
  have ZI:decide (0 < k)=true:=by simp; omega
  have hkm:(k:Int) - 1=(m:Int):=by omega
  have hwm:IntKind.i64.wrap (m:Int)=(m:Int):=by rw [IntKind.wrap_i64]; omega
  have hm1:=bq m;have hm2:(m:Int) < (rs.length:Int):=by omega
  have qm:=cell_regrown (aI TL.out hb (HTP.out m Uf));have Vj:=oM (fin.out _ (zM hm Uf));replace hm:Hid (k=m + 1):=hm;cases hless:Op.bytesLess rs[m].name.toList rs[k].name.toList;case false=>
   have HN:Hid (bz (ah rs)=false):=HBAD.out (by rw [Vj.out]; simp [jd,hless]);refine wp_region_quiet_below (by kernel_rfl) (by kernel_rfl) ?_
   repeat (go_big_quiet_step (first | exact Um.out _ _ | exact XT.out _ _))
   refine wpQuiet_nil ?_;rintro _ ⟨⟨dq,osq⟩,rfl⟩;go_wp2;go_ret;exact ⟨ag HN.out.symm,Uy.out dq osq⟩
  refine wp_region_quiet_below (by kernel_rfl) (by kernel_rfl) ?_
  repeat (go_big_quiet_step (first | exact Um.out _ _ | exact XT.out _ _))
  refine wpQuiet_nil ?_;rintro _ ⟨⟨dq,osq⟩,rfl⟩;cases ex;case false=>
   have HN:Hid (bz (ah rs)=false):=HBAD.out (by rw [Vj.out]; simp);go_wp2;go_ret;exact ⟨ag HN.out.symm,Uy.out dq osq⟩
  have Vl:Hid (iK (ah rs) (k + 1)=true):=by show _=_; simp only [iK]; rw [HP.out,Vj.out]; simp [jd,hless]
  go_wp2;go_roundw;case rel=>exact ⟨k + 1,by omega,by go_num,Vl,Uy.out dq osq⟩
  simp [intOf] <;> omega
 obtain rfl:k=rs.length:=by omega
 have HY:Hid (bz (ah rs)=true):=by show _=_; rw [Xr.out,HP.out]; simp; omega
 go_wp2;go_ret;exact ⟨ag HY.out.symm,HB.out⟩
open Go.Maps
def FL (ts:List Ty) (w:World) (e:Ending) (w':World):Prop :=
 ((∃ (b n:Nat) (σ:Ky→Option Int),e=.returned (.tuple #[.map (some b),.bool true])∧bI ts∧aO dU prog 94 w' b n (iW σ)∧Least ts (fun k=>(σ k).getD 0)∧∀ k,(∃ x,σ k=some x) ↔ k ∈ au ts) ∨ (e=.returned (.tuple #[.map none,.bool false])∧¬ bI ts))∧af w w'
set_option maxRecDepth 100000 in
theorem D6 (ad:Option Addr) (cap:Nat) (rs:List TR) (w:ae) (hlen:rs.length≤1048576) (hs:mD w ad rs) (hl:∀ r ∈ rs,r.light) (hf:∀ r ∈ rs,r.fits) (hcp:∀ r ∈ rs,r.caps) :
  Calls prog 91 #[.slice ad rs.length cap] w (FL (ah rs) w):=by
 have HS:=az hs;have HL:=az hl;have TP:=az hf;have VT:=az hcp;clear hs hl hf hcp;go_enter func91,ntmps91;go_wp2_with fail;refine (FK ad cap rs _ hlen HS.out HL.out TP.out VT.out).mono ?_;rintro e w1 ⟨rfl,hb1⟩;have HB1:=az hb1;clear hb1;cases hsh:bz (ah rs);case false=>
  have HP:Hid (FL (ah rs) w (.returned (.tuple #[.map none,.bool false])) w1):=⟨.inr ⟨rfl,fun h=>by rw [h.1] at hsh; cases hsh⟩,HB1.out⟩;go_wp2;refine bodyPost_ret (v:=.tuple #[.map none,.bool false]) ?_ rfl HP.out;simp [results,Tryz.results91,go_sem]
 have ZJ:Hid (bz (ah rs)=true):=hsh;obtain ⟨h6,VL,hex⟩:=bP hsh;have Vv:Hid (∀ r ∈ rs,r.rows.length≤6):=VL;have ZA:Hid (∀ r ∈ rs,∀ q ∈ r.rows,aN (ak q.rows)=true∧q.rows.length≤15∧∀ e ∈ q.rows,eB q.rows.length e.e.kids):=hex;have HT:Hid (Tab rs (sS rs)):=zu hsh;clear hsh VL hex;go_wp2_with fail;refine (xx ad cap rs _ h6 (HS.out.below HB1.out) Vv.out TP.out).mono ?_;rintro e w2 ⟨rfl,hV2,hb2⟩;have HB2:=jI HB1 hb2;obtain ⟨bT,hbT⟩:∃ bT,bT=w1.heap.size:=⟨_,rfl⟩;rw [← hbT] at hV2 ⊢;have Yl:Hid (aO dU prog 94 w2 bT 36 (sS rs)):=hV2;clear hV2 hb2 hbT HB1;go_wp2_with fail;go_loopw [16] (fun i wr=>∃ k:Nat,k≤rs.length∧i=.int .i64 k∧Hid (((ah rs).take k).all (qi (ah rs))=true)∧Hid (af w wr)∧Hid (aO dU prog 94 wr bT 36 (sS rs))) (fun i _=>rs.length - (intOf i).toNat);case atStart=>exact ⟨0,SC _,rfl,(by show _=_; simp),HB2,Yl⟩
 clear HB2 Yl;obtain ⟨k,hk,rfl,HP,HB,HV⟩:=hrel;by_cases hlt:k < rs.length
 ·rcases HS.out.below HB.out with rfl | ⟨b,off,rfl,hb,hr,-⟩
  ·simp at hlt
  obtain ⟨t0,t1⟩:=hr k hlt;have hk1:=bq k;have hk2:(k:Int) < (rs.length:Int):=by omega
  have h66:=Vv.out _ (Sw hlt);have z0:rs[k].name.size≤maxLen:=(TP.out _ (Sw hlt)).1;obtain ⟨W1,hW1⟩:∃ W1,W1=wr.alloc (.cells #[.string rs[k].name,.slice rs[k].ad rs[k].rows.length rs[k].cap] 127):=⟨_,rfl⟩;have hal:af wr W1:=by rw [hW1]; exact (Sz _ _).alloc (Sy _) _
  obtain ⟨g6,Xf⟩:∃ g6,g6=wr.heap.size:=⟨_,rfl⟩;have UV:Hid (W1.cell? ⟨g6,0,none⟩=some (.string rs[k].name)∧g6 < W1.heap.size):=⟨by rw [hW1,Xf]; simp,by rw [hW1,Xf]; simp⟩;have HB1:=jI HB hal;have HV1:=az (HV.out.below hal);clear hr hal HB HV;go_wp2_with fail;rw [← hW1,← Xf];clear hW1 t0 t1 Xf;go_loopw [23] (fun i w3=>∃ j:Nat,j≤rs[k].rows.length∧i=.int .i64 j∧Hid (((eu rs[k].rows).take j).all (fun r=>aT (ah rs) rs[k].name r.expr)=true)∧Hid (af w w3)∧Hid (aO dU prog 94 w3 bT 36 (sS rs))∧Hid (w3.cell? ⟨g6,0,none⟩=some (.string rs[k].name)∧g6 < w3.heap.size)) (fun i _=>rs[k].rows.length - (intOf i).toNat);case atStart=>exact ⟨0,SC _,rfl,(by show _=_; simp),HB1,HV1,UV⟩
  clear HB1 HV1 UV;obtain ⟨j,hj,rfl,HR,HB,HV,HC⟩:=hrel;by_cases hjl:j < rs[k].rows.length
  ·rcases HS.out.below HB.out with hnil | ⟨b',off',he,hb2,hr,hok⟩
   ·rw [hnil] at hlt; simp at hlt
   injection he with he; injection he with he1 he2; subst he1; subst he2;have ok:=hok rs[k] (Sw hlt);rcases ok with hnil | ⟨b2,Uc,had,hbb,hr2,hok2⟩
   ·rw [hnil] at hjl; simp at hjl
   obtain ⟨q0,q1⟩:=hr2 j hjl;have Wj:Hid (jk wr rs[k].rows[j].ad rs[k].rows[j].rows):=hok2 _ (Sw hjl);have Wh:Hid (rs[k].rows[j].light):=(HL.out _ (Sw hlt)).2 _ (Sw hjl);have VZ:Hid (rs[k].rows[j].fits):=(TP.out _ (Sw hlt)).2.2 _ (Sw hjl);have HNB:Hid (∀ q ∈ rs[k].rows[j].rows,ay q.e=true):=fun q hq=>ji (ZA.out _ (Sw hlt) _ (Sw hjl)).1 q.e (by unfold ak; exact List.mem_map_of_mem hq);have hj1:=bq j;have hj2:(j:Int) < (rs[k].rows.length:Int):=by omega
   obtain ⟨x0,x1⟩:=HC.out;obtain ⟨W3,hW3⟩:∃ W3,W3=wr.alloc (.cells #[.string rs[k].rows[j].name,.slice rs[k].rows[j].ad rs[k].rows[j].rows.length rs[k].rows[j].cap] 147):=⟨_,rfl⟩;have hal:af wr W3:=by rw [hW3]; exact (Sz _ _).alloc (Sy _) _
   have HB3:=jI HB hal;have HV3:=az (HV.out.below hal);have TL:=az hal;have XE:Hid (W3.cell? ⟨g6,0,none⟩=some (.string rs[k].name)∧g6 < W3.heap.size):=⟨aI hal x1 x0,Sv x1 hal.size⟩;have HTS:Hid ((eu rs[k].rows).take (j + 1)=(eu rs[k].rows).take j ++ [rs[k].rows[j].p]):=Fp rs[k].rows j hjl;rw [had];clear hr hok hr2 hok2 hal HB HV HC;go_wp2_with fail;rw [← hW3];clear hW3 q0 q1 x0 x1;refine (Ai (some ⟨b,off,none⟩) rs[k].rows[j].ad cap rs[k].rows[j].cap rs bT 36 (sS rs) rs[k].name rs[k].rows[j].rows _ hlen (HS.out.below HB3.out) HL.out TP.out HV3.out HT.out z0 Wh.out.1 (Wj.out.below TL.out) Wh.out.2 VZ.out.2.2 HNB.out).mono ?_;rintro e w5 ⟨rfl,hb5⟩;have Vk:=jI HB3 hb5;have HV5:=az (HV3.out.below hb5);have Wx:Hid (w5.cell? ⟨g6,0,none⟩=some (.string rs[k].name)∧g6 < w5.heap.size):=⟨aI hb5 XE.out.2 XE.out.1,Sv XE.out.2 hb5.size⟩;clear hb5;cases hrf:aT (ah rs) rs[k].name (ak rs[k].rows[j].rows);case false=>
    have HPO:Hid (FL (ah rs) w (.returned (.tuple #[.map none,.bool false])) w5):=by
     refine ⟨.inr ⟨rfl,fun hs=>?_⟩,Vk.out⟩;have h1:=hs.2.1;unfold ko at h1;rw [SQ] at h1;have h2:=h1 rs[k].p (by unfold ah; exact List.mem_map_of_mem (Sw hlt));unfold qi at h2;rw [SQ] at h2;have h3:=h2 rs[k].rows[j].p (by show _ ∈ eu rs[k].rows; unfold eu; exact List.mem_map_of_mem (Sw hjl));have h4:aT (ah rs) rs[k].name (ak rs[k].rows[j].rows)=true:=h3;rw [hrf] at h4; cases h4
    go_wp2;refine bodyPost_ret (v:=.tuple #[.map none,.bool false]) ?_ rfl HPO.out;simp [results,Tryz.results91,go_sem]
   have Vl:Hid (((eu rs[k].rows).take (j + 1)).all (fun r=>aT (ah rs) rs[k].name r.expr)=true):=by
    show _=_;rw [HTS.out,List.all_append,HR.out];have:aT (ah rs) rs[k].name rs[k].rows[j].p.expr=true:=hrf;simp [this]
   go_wp2;go_roundw;case rel=>exact ⟨j + 1,by omega,by go_num,Vl,Vk,HV5,Wx⟩
   simp [intOf] <;> omega
  obtain rfl:j=rs[k].rows.length:=by omega
  have HPN:Hid (((ah rs).take (k + 1)).all (qi (ah rs))=true):=by
   show _=_;rw [Fj rs k hlt,List.all_append,HP.out];have h1:=HR.out;rw [← qP,SS] at h1;have:qi (ah rs) rs[k].p=true:=h1;simp [this]
  go_wp2;go_roundw;case rel=>exact ⟨k + 1,by omega,by go_num,HPN,HB,HV⟩
  simp [intOf] <;> omega
 obtain rfl:k=rs.length:=by omega
 have Wu:Hid (ko (ah rs)=true):=by
  have h1:=HP.out;rw [← lh,SS] at h1;exact h1
 go_wp2_with fail;refine (Bp ad cap rs bT 36 (sS rs) _ h6 (HS.out.below HB.out) HL.out TP.out Vv.out (fun r hr q hq=>(ZA.out r hr q hq).2) (N7 ZJ.out) HV.out HT.out).mono ?_;rintro e w5 ⟨rfl,⟨nL,ML,hG5⟩,hb5⟩;have Vk:=jI HB hb5;have HG5:Hid (Grp w5 wr.heap.size nL ML (jh (ah rs) rs)):=hG5;clear hG5 hb5;go_wp2_with fail;refine (xY ad cap rs wr.heap.size nL ML (jh (ah rs) rs) _ h6 (HS.out.below Vk.out) TP.out Vv.out HG5.out (PK ZJ.out Wu.out) (l6 Wu.out) (Lc rs Vv.out ZA.out (N7 ZJ.out))).mono ?_;rintro e w6 ⟨hL,hb6⟩;have V4:=jI Vk hb6;clear hb6;rcases hL with ⟨bS,nS,σ,rfl,hM,Xm,hk⟩ | ⟨rfl,hno⟩
 ·have HPO:Hid (FL (ah rs) w (.returned (.tuple #[.map (some bS),.bool true])) w6):=⟨.inl ⟨bS,nS,σ,rfl,⟨ZJ.out,Wu.out,_,Xm.sol⟩,hM,Xm,hk⟩,V4.out⟩;clear hM Xm hk;go_wp2;refine bodyPost_ret (v:=.tuple #[.map (some bS),.bool true]) ?_ rfl HPO.out;simp [results,Tryz.results91,go_sem]
 have HPO:Hid (FL (ah rs) w (.returned (.tuple #[.map none,.bool false])) w6):=⟨.inr ⟨rfl,fun h=>hno h.2.2⟩,V4.out⟩;clear hno;go_wp2;refine bodyPost_ret (v:=.tuple #[.map none,.bool false]) ?_ rfl HPO.out;simp [results,Tryz.results91,go_sem]
end Go.Proofs.YtajkkeikihhejaaGreat
