/- Contracts of the program's functions that look at a node and at a whole expression. -/
import Derived.Test.YtajkkeikihhejaaGreatSq
import Derived.Test.YtajkkeikihhejaaGreatJ26
import Derived.Test.YtajkkeikihhejaaGreatSpecSchema11
open Go.Proofs.Tryz
set_option maxHeartbeats 80000000
namespace Go.Proofs.YtajkkeikihhejaaGreat
open Go.ChangeShapes Go.WideShapes Go.ChangeAt Go.RowKit
open Pl
set_option maxRecDepth 8000 in
theorem Gm (r:ER) (w:af) (hf:r.e.fits) (hl:r.e.light) (hok:r.ok w) (hcap:r.e.allow.length≤r.capA) (h1:r.e.kind=1) :
  Calls prog 239 #[r.val] w fun e w'=>e=.returned (.bool (ax r.e))∧ag w w':=by
 obtain ⟨⟨kind,allow,over,name,kids⟩,adA,capA,adK,capK⟩:=r;obtain ⟨f1,f2,f3,f4,f5⟩:=hf;obtain ⟨hA,hK⟩:=hok;obtain ⟨l1,l2⟩:=hl;simp only at f1 f2 f3 f4 f5 h1 hA hK hcap l1 l2;subst h1;simp only [ER.val];unfold maxLen at f4 f5;have HB0:Hid (∀ n,ag w ((w.alloc (.cells #[.int .i64 1,.slice adA allow.length capA,.string over,.string name,.slice adK kids.length capK] 39)).drewN n)):=fun n=>below_drewN ((TT w.heap.size w).alloc (TS _) _) n;have HA:=az hA;have Vz:=az f1;have HCAP:Hid (allow.length≤capA):=hcap;clear hA hK f1 hcap;go_enter func239,ntmps239;go_wp2_with fail;go_quiet (fail);go_wp2_with fail;refine (Gl adA capA allow _ l1 HCAP.out Vz.out (HA.out.below (HB0.out _))).mono ?_;rintro e w1 ⟨rfl,hb1⟩;have c2:w1.cell? ⟨w.heap.size,2,none⟩=some (.string over):=by rw [hb1.cell (p:=⟨w.heap.size,2,none⟩) (by show _ < (w.alloc _).heap.size; simp)]; show (w.alloc _).cell? _=_; simp
 have c3:w1.cell? ⟨w.heap.size,3,none⟩=some (.string name):=by rw [hb1.cell (p:=⟨w.heap.size,3,none⟩) (by show _ < (w.alloc _).heap.size; simp)]; show (w.alloc _).cell? _=_; simp
 have HB1:Hid (ag w w1):=(HB0.out _).trans (hb1.mono (HB0.out _).size);clear hb1 HB0;go_wp2
 all_goals go_ret
 all_goals exact ⟨ah (by first | (simp [ax, *]; done) | (simp [ax, *]; omega) | (simp [ax, *]; rw [Bool.eq_iff_iff]; simp; done) | (simp [ax, *]; rw [Bool.eq_iff_iff]; simp; omega)),HB1.out⟩
theorem Jh (r:ER) (w:af) (hf:r.e.fits) (hl:r.e.light) (hok:r.ok w) (hcap:r.e.allow.length≤r.capA) :
  Calls prog 239 #[r.val] w fun e w'=>e=.returned (.bool (ax r.e))∧ag w w':=by
 by_cases h:r.e.kind=1
 ·exact Gm r w hf hl hok hcap h
 exact ED r w hf h
structure Arr (es:List Ex) (w:World) (g k:Nat):Prop where
 lt:g < w.heap.size
 told:∀ j,j < k→w.cell? ⟨g,j,none⟩=some (.int .i64 (ay es j))
 rest:∀ j,k≤j→j < 15→w.cell? ⟨g,j,none⟩=some (.int .i64 0)
 free:∀ o,w.frozen? ⟨g,o,none⟩=false
theorem Arr.later {es:List Ex} {w w':af} {g k:Nat} (h:Arr es w g k) (hb:ag w w'):Arr es w' g k where
 lt:=TP h.lt hb.size
 told j hj:=kept hb h.lt (h.told j hj)
 rest j h1 h2:=kept hb h.lt (h.rest j h1 h2)
 free o:=Nf hb h.lt (h.free o)
theorem Arr.put {es:List Ex} {w:af} {g k:Nat} (h:Arr es w g k) (hk:k < 15):Arr es (w.setCell ⟨g,k,none⟩ (.int .i64 (ay es k))) g (k + 1) where
 lt:=by simpa using h.lt
 told j hj:=by
  by_cases e:j=k
  ·subst e; exact xq (h.rest j (TS _) hk)
  rw [lV (Ne.symm e)]; exact h.told j (by omega)
 rest j h1 h2:=by rw [lV (by omega)]; exact h.rest j (by omega) h2
 free o:=by simpa using h.free o
def vv (es:List Ex):Bool:=jw es && decide (ay es (es.length - 1)=0)
theorem Dl {es:List Ex} (k:Nat) (h:k < es.length) (hb:ay es k < 0):vv es=false:=by
 have:jw es=false:=by
  rw [Bool.eq_false_iff]; intro h2; unfold jw at h2; rw [Ub] at h2; have:=h2 k (by simpa using h); simp at this; omega
 simp [vv,this]
theorem yx (b off cap:Nat) (rs:List ER) (w:af) (hn1:1≤rs.length) (hn2:rs.length≤15) (hl:∀ r ∈ rs,r.e.light) (hb:b < w.heap.size) (hr:∀ (i:Nat) (h:i < rs.length),yh w b (off + i * 5) rs[i]) (hok:∀ r ∈ rs,r.ok w) :
  Calls prog 240 #[.slice (some ⟨b,off,none⟩) rs.length cap] w fun e w'=>e=.returned (.bool (vv (ak rs)))∧ag w w':=by
 have Wi:Hid ((ak rs).length=rs.length):=aT rs;have HL:=az hl;have HR:Hid (∀ (i:Nat) (h:i < rs.length),yh w b (off + i * 5) rs[i]):=hr;have HO:=az hok;clear hl hr hok;go_enter func240,ntmps240;go_wp2_with fail;go_loopw [10] (fun i wr=>∃ k:Nat,k≤rs.length∧i=.int .i64 k∧Hid (Ns (ak rs) k)∧Hid (Arr (ak rs) wr w.heap.size k)∧ag w wr) (fun i _=>rs.length - (intOf i).toNat);case atStart =>
  refine ⟨0,TW _,rfl,(fun j hj=>absurd hj (Uw _)),⟨by simp,(fun j hj=>absurd hj (Uw _)),fun j _ hj=>?_,fun o=>by simp⟩,(TT _ _).alloc (TS _) _⟩;have h15:j=0 ∨ j=1 ∨ j=2 ∨ j=3 ∨ j=4 ∨ j=5 ∨ j=6 ∨ j=7 ∨ j=8 ∨ j=9 ∨ j=10 ∨ j=11 ∨ j=12 ∨ j=13 ∨ j=14:=by omega
  rcases h15 with rfl | rfl | rfl | rfl | rfl | rfl | rfl | rfl | rfl | rfl | rfl | rfl | rfl | rfl | rfl <;> simp
 obtain ⟨k,hk,rfl,HGU,ZP,hB⟩:=hrel;by_cases hlt:k < rs.length
 ·have Ww:k < (ak rs).length:=by rw [Wi.out]; exact hlt
  obtain ⟨t0,t1,t2,t3,t4⟩:=(HR.out k hlt).later hb hB;have hk1:=bB k;have hk2:(k:Int) < (rs.length:Int):=by omega
  have hk3:(k:Int) < 15:=by omega
  obtain ⟨-,lk⟩:=HL.out rs[k] (TQ hlt);obtain ⟨W1,hW1⟩:∃ W1,W1=wr.alloc (.cells #[.int .i64 rs[k].e.kind,.slice rs[k].adA rs[k].e.allow.length rs[k].capA,.string rs[k].e.over,.string rs[k].e.name,.slice rs[k].adK rs[k].e.kids.length rs[k].capK] 39):=⟨_,rfl⟩;have hal:ag wr W1:=by rw [hW1]; exact (TT _ _).alloc (TS _) _
  have hB1:ag w W1:=hB.trans (hal.mono hB.size);have HAR1:Hid (Arr (ak rs) W1 w.heap.size k):=ZP.out.later hal;have s4:W1.cell? ⟨wr.heap.size,4,none⟩=some (.slice rs[k].adK rs[k].e.kids.length rs[k].capK):=by rw [hW1]; simp
  have HT:Hid (di (dx (ak rs) k) (rs[k].e.kids.take rs[k].e.kids.length).reverse ((k:Int) - 1)=ay (ak rs) k):=by
   show _=_;rw [Ug,jb (ak rs) k,oQ rs k hlt]
  clear ZP;go_wp2_with fail;rw [← hW1];clear hW1 t0 t1 t2 t3 t4 hal;go_loopw [6,7] (fun x i w2=>∃ (j:Nat) (y:Int),j≤rs[k].e.kids.length∧i=.int .i64 ((j:Int) - 1)∧x=.int .i64 y∧0≤y∧y≤k∧Hid (di (dx (ak rs) k) (rs[k].e.kids.take j).reverse (y - 1)=ay (ak rs) k)∧w2=W1) (fun _ i _=>(intOf i + 1).toNat);case atStart=>exact ⟨rs[k].e.kids.length,(k:Int),TS _,rfl,rfl,by omega,by omega,HT,rfl⟩
  obtain ⟨j,y,hj,rfl,rfl,hy0,hy1,HG,rfl⟩:=hrel;by_cases hj0:0 < j
  ·obtain ⟨j,rfl⟩:∃ i,j=i + 1:=⟨j - 1,by omega⟩;have hjl:j < rs[k].e.kids.length:=by omega
   rcases (HO.out rs[k] (TQ hlt)).2.below hB1 with hnil | ⟨bk,offk,Xv,hbk,YG⟩
   ·rw [hnil] at hjl; simp at hjl
   have s4':=s4;rw [Xv] at s4';have k0:=YG j hjl;have hji:((j + 1:Nat):Int) - 1=(j:Int):=by omega
   have hj1:=bB j;have hj2:(j:Int) < (rs[k].e.kids.length:Int):=by omega
   have HG2:Hid ((if y - 1 < 0 ∨ rs[k].e.kids[j] ≠ y - 1 then -1 else if dx (ak rs) k (y - 1) < 0 then -1 else di (dx (ak rs) k) (rs[k].e.kids.take j).reverse (dx (ak rs) k (y - 1) - 1))=ay (ak rs) k):=by
    have:=HG.out;rw [TV hjl,List.reverse_append] at this;exact this
   rw [hji];clear HG YG Xv s4;by_cases hy:y=0
   ·have HN:Hid (vv (ak rs)=false):=Dl k Ww (by rw [← HG2.out,if_pos (Or.inl (by omega))]; omega);subst hy;go_wp2;go_ret;exact ⟨by rw [HN.out]; rfl,hB1⟩
   obtain ⟨m,rfl⟩:∃ m:Nat,y=(m:Int) + 1:=⟨(y - 1).toNat,by omega⟩;have em:(m:Int) + 1 - 1=(m:Int):=by omega
   by_cases hkx:rs[k].e.kids[j]=(m:Int)
   ·have hF:dx (ak rs) k ((m:Int) + 1 - 1)=ay (ak rs) m:=by rw [em]; unfold dx; rw [if_pos ⟨by omega,by simp; omega⟩]; simp
    have HF:Hid (dx (ak rs) k ((m:Int) + 1 - 1)=ay (ak rs) m):=hF;have hle:=iB (ak rs) m;have hge:0≤ay (ak rs) m:=HGU.out m (by omega);have a0:=HAR1.out.told m (by omega);have hm1:=bB m;have hm2:(m:Int) < 15:=by omega
    have Xw:Hid (di (dx (ak rs) k) (rs[k].e.kids.take j).reverse (ay (ak rs) m - 1)=ay (ak rs) k):=by
     show _=_;rw [← HG2.out,if_neg (by omega),HF.out,if_neg (by omega)]
    clear hF HG2;go_wp2;go_roundw;case rel=>exact ⟨j,ay (ak rs) m,by omega,by go_num,rfl,hge,by omega,Xw,by first | rfl | trivial⟩
    simp [intOf] <;> omega
   have HN:Hid (vv (ak rs)=false):=Dl k Ww (by rw [← HG2.out,if_pos (Or.inr (by rw [em]; exact hkx))]; omega);have hq:(rs[k].e.kids[j] != (m:Int))=true:=by simpa using hkx
   have hq0:((m:Int) + 1 == 0)=false:=by simp; omega
   go_wp2;go_ret;exact ⟨by rw [HN.out]; rfl,hB1⟩
  obtain rfl:j=0:=by omega
  have hX:ay (ak rs) k=y:=by have:=HG.out; simp [di] at this; omega
  have HGU2:Hid (Ns (ak rs) (k + 1)):=by
   intro m hm;by_cases e:m=k
   ·subst e; omega
   exact HGU.out m (by omega)
  have q0:=HAR1.out.rest k (TS _) (by omega);have qf:=HAR1.out.free;have HA2:=HAR1.out.put (k:=k) (by omega);rw [hX] at HA2;have HA3:Hid (Arr (ak rs) _ w.heap.size (k + 1)):=HA2;have hB2:=hB1.setCell (p:=⟨w.heap.size,k,none⟩) (TS _) (.int .i64 y);clear HG HA2 hX;go_wp2;go_roundw;case rel=>exact ⟨k + 1,by omega,by go_num,HGU2,HA3,hB2⟩
  simp [intOf] <;> omega
 obtain rfl:k=rs.length:=by omega
 have a0:=ZP.out.told (rs.length - 1) (by omega);have HKB:Hid (vv (ak rs)=decide (ay (ak rs) (rs.length - 1)=0)):=by
  show _=_;have:jw (ak rs)=true:=by
   unfold jw;rw [Ub];intro j hj;have hj':j < rs.length:=by simpa [Wi.out] using hj
   simpa using HGU.out j hj'
  unfold vv;rw [this,Wi.out,Bool.true_and]
 have hcast:((rs.length:Int) - 1)=((rs.length - 1:Nat):Int):=by omega
 have h15:((rs.length - 1:Nat):Int) < 15:=by omega
 have h00:(0:Int)≤((rs.length - 1:Nat):Int):=by omega
 go_wp2;go_ret;exact ⟨by rw [HKB.out]; exact ah (by rw [Bool.eq_iff_iff]; simp),hB⟩
theorem Mh {es:List Ex} (h:¬ (1≤es.length∧es.length≤15)):kN es=false:=by rw [← vZ]; exact Cq h
theorem Ji {es:List Ex} (k:Nat) (h:k < es.length) (hb:ax es[k]=false):kN es=false:=by simp [kN,Cj es k h hb]
theorem AC (b off cap:Nat) (rs:List ER) (w:af) (hlen:rs.length≤1048576) (hl:∀ r ∈ rs,r.e.light) (hf:∀ r ∈ rs,r.e.fits) (hcp:∀ r ∈ rs,r.e.allow.length≤r.capA) (hb:b < w.heap.size) (hr:∀ (i:Nat) (h:i < rs.length),yh w b (off + i * 5) rs[i]) (hok:∀ r ∈ rs,r.ok w) :
  Calls prog 221 #[.slice (some ⟨b,off,none⟩) rs.length cap] w fun e w'=>e=.returned (.bool (kN (ak rs)))∧ag w w':=by
 have Wi:Hid ((ak rs).length=rs.length):=aT rs;have HL:=az hl;have HF:=az hf;have HCP:Hid (∀ r ∈ rs,r.e.allow.length≤r.capA):=hcp;have HR:Hid (∀ (i:Nat) (h:i < rs.length),yh w b (off + i * 5) rs[i]):=hr;have HO:=az hok;clear hl hf hr hok hcp;by_cases hn:1≤rs.length∧rs.length≤15
 ·obtain ⟨hn1,hn2⟩:=hn;go_enter func221,ntmps221;go_wp2_with fail;go_loopw [3,16] (fun o i wr=>∃ k:Nat,k≤rs.length∧i=.int .i64 k∧o=.int .i64 (gF (ak rs) k:Nat)∧Hid (jv (ak rs) k=true)∧ag w wr) (fun _ i _=>rs.length - (intOf i).toNat);case atStart=>exact ⟨0,TW _,rfl,rfl,(by show _=_; simp [jv]),TT _ _⟩
  obtain ⟨k,hk,rfl,rfl,HU,hB⟩:=hrel;by_cases hlt:k < rs.length
  ·have Ww:k < (ak rs).length:=by rw [Wi.out]; exact hlt
   have HEK:Hid ((ak rs)[k]=rs[k].e):=by show _=_; simp [ak]
   obtain ⟨t0,t1,t2,t3,t4⟩:=(HR.out k hlt).later hb hB;have hk1:=bB k;have hk2:(k:Int) < (rs.length:Int):=by omega
   have hol:=uq (ak rs) k;have hal:ag w (wr.alloc (.cells #[.int .i64 rs[k].e.kind,.slice rs[k].adA rs[k].e.allow.length rs[k].capA,.string rs[k].e.over,.string rs[k].e.name,.slice rs[k].adK rs[k].e.kids.length rs[k].capK] 39)):=hB.alloc hB.size _;have UO:=az hal;clear hal;go_wp2_with fail;refine (Jh rs[k] _ (HF.out _ (TQ hlt)) (HL.out _ (TQ hlt)) ((HO.out _ (TQ hlt)).below UO.out) (HCP.out _ (TQ hlt))).mono ?_;rintro e w1 ⟨rfl,hb1⟩;have hB1:ag w w1:=UO.out.trans (hb1.mono UO.out.size);have g0:w1.cell? ⟨wr.heap.size,0,none⟩=some (.int .i64 rs[k].e.kind):=by rw [hb1.cell (p:=⟨wr.heap.size,0,none⟩) (by simp)]; simp
   clear hb1 t0 t1 t2 t3 t4 UO;cases UA:ax rs[k].e;case false=>
    have HN:Hid (kN (ak rs)=false):=Ji k Ww (by rw [HEK.out]; exact UA);go_wp2;go_ret;exact ⟨by rw [HN.out]; rfl,hB1⟩
   have YB:Hid (jv (ak rs) (k + 1)=true):=by show _=_; rw [ut _ _ Ww,HU.out,HEK.out,UA]; rfl
   have HOW:Hid (gF (ak rs) (k + 1)=gF (ak rs) k + (if rs[k].e.kind=1 then 1 else 0)):=by show _=_; rw [yV _ _ Ww,HEK.out]
   by_cases Zk:rs[k].e.kind=1
   ·have X9:Hid (gF (ak rs) (k + 1)=gF (ak rs) k + 1):=by show _=_; rw [HOW.out,if_pos Zk]
    clear HOW;go_wp2;go_roundw;case rel=>exact ⟨k + 1,by omega,by go_num,by rw [X9.out]; go_num,YB,hB1⟩
    simp [intOf] <;> omega
   have X9:Hid (gF (ak rs) (k + 1)=gF (ak rs) k):=by show _=_; rw [HOW.out,if_neg Zk]; rfl
   clear HOW;go_wp2;go_roundw;case rel=>exact ⟨k + 1,by omega,by go_num,by rw [X9.out],YB,hB1⟩
   simp [intOf] <;> omega
  obtain rfl:k=rs.length:=by omega
  have HN:Hid ((ak rs).all ax=true):=by
   have:=HU.out;unfold jv at this;rwa [← Wi.out,Ug] at this
  have HOW:Hid (gF (ak rs) rs.length=own (ak rs)):=by show _=_; unfold gF; rw [← Wi.out,Ug]
  have hol:=uq (ak rs) rs.length;by_cases ho:gF (ak rs) rs.length≤1
  ·have HS:Hid (kN (ak rs)=vv (ak rs)):=by
    show _=_;have h1:own (ak rs)≤1:=by rw [← HOW.out]; exact ho
    have e1:=Wi.out;unfold kN vv;rw [e1,HN.out];simp [h1,hn1,hn2]
   go_wp2_with fail;refine (yx b off cap rs _ hn1 hn2 HL.out (TP hb hB.size) (fun i hi=>(HR.out i hi).later hb hB) (fun r hr=>(HO.out r hr).below hB)).mono ?_;rintro e w1 ⟨rfl,hb1⟩;go_wp2;go_ret;exact ⟨by rw [HS.out]; rfl,hB.trans (hb1.mono hB.size)⟩
  have HS:Hid (kN (ak rs)=false):=by
   show _=_;have h1:¬ own (ak rs)≤1:=by rw [← HOW.out]; exact ho
   simp [kN,h1]
  go_wp2;go_ret;exact ⟨by rw [HS.out]; rfl,hB⟩
 have HN:Hid (kN (ak rs)=false):=Mh (by rw [Wi.out]; exact hn);go_enter func221,ntmps221;go_wp2_with fail
 all_goals go_ret
 all_goals exact ⟨by rw [HN.out]; rfl,TT _ _⟩
theorem AJ (ad:Option Addr) (cap:Nat) (rs:List ER) (w:af) (hlen:rs.length≤1048576) (hl:∀ r ∈ rs,r.e.light) (hf:∀ r ∈ rs,r.e.fits) (hcp:∀ r ∈ rs,r.e.allow.length≤r.capA) (hs:iH w ad rs) :
  Calls prog 221 #[.slice ad rs.length cap] w fun e w'=>e=.returned (.bool (kN (ak rs)))∧ag w w':=by
 rcases hs with rfl | ⟨b,off,rfl,hb,hr,hok⟩
 ·go_enter func221,ntmps221;go_wp2_with fail;go_ret;exact ⟨rfl,TT _ _⟩
 exact AC b off cap rs w hlen hl hf hcp hb hr hok
open Go.Sort
def gX (rs:List RR):Bool:=decide (rs.length≤6) && dG (eF rs) rs.length
theorem Jj {rs:List RR} {k:Nat} (h:k < rs.length):mg (eF rs) k=(aP rs[k].name && xS (eF rs) rs[k].name k && aK (ak rs[k].rows)):=CS h
theorem Jk {rs:List TR} {k:Nat} (h:k < rs.length):kv (ae rs) k=(aP rs[k].name && uM (ae rs) rs[k].name k && gX rs[k].rows):=by
 rw [CR h]; unfold gX; rw [Bool.and_assoc]
set_option maxRecDepth 100000 in
theorem yz (ad:Option Addr) (cap:Nat) (rs:List RR) (w:af) (hlen:rs.length≤1048576) (hs:M8 w ad rs) (hl:∀ r ∈ rs,r.light) (hf:∀ r ∈ rs,r.fits) (hcp:∀ r ∈ rs,r.caps) :
  Calls prog 182 #[.slice ad rs.length cap] w fun e w'=>e=.returned (.bool (gX rs))∧ag w w':=by
 have HS:=az hs;have HL:=az hl;have UL:=az hf;have WZ:=az hcp;clear hs hl hf hcp;have Yg:Hid (gX rs=(decide (rs.length≤6) && dG (eF rs) rs.length)):=by show _=_; rfl
 by_cases h6:6 < rs.length
 ·have HN:Hid (gX rs=false):=by show _=_; rw [Yg.out]; simp; omega
  go_enter func182,ntmps182;go_wp2;go_ret;exact ⟨ah HN.out.symm,TT _ _⟩
 go_enter func182,ntmps182;go_wp2;go_loopw [10] (fun i wr=>∃ k:Nat,k≤rs.length∧i=.int .i64 k∧Hid (dG (eF rs) k=true)∧Hid (ag w wr)) (fun i _=>rs.length - (intOf i).toNat);case atStart=>exact ⟨0,TW _,rfl,rfl,TT _ _⟩
 obtain ⟨k,hk,rfl,HP,HB⟩:=hrel;by_cases hlt:k < rs.length
 ·rcases HS.out.below HB.out with rfl | ⟨b,off,rfl,hb,hr,hok⟩
  ·simp at hlt
  obtain ⟨t0,t1⟩:=hr k hlt;have WK:Hid (rs[k].ok wr):=hok rs[k] (TQ hlt);have z1:rs[k].name.size≤maxLen:=(UL.out _ (TQ hlt)).1;have WH:Hid (rs[k].light):=HL.out _ (TQ hlt);have WR:Hid (rs[k].fits):=UL.out _ (TQ hlt);have HCP:Hid (rs[k].caps):=WZ.out _ (TQ hlt);have hk1:=bB k;have hk2:(k:Int) < (rs.length:Int):=by omega
  have HTP:Hid (∀ (m:Nat) (h:m < rs.length),wr.cell? ⟨b,off + m * 2,none⟩=some (.string rs[m].name)):=fun m h=>(hr m h).1;have YK:Hid (mg (eF rs) k=(aP rs[k].name && xS (eF rs) rs[k].name k && aK (ak rs[k].rows))):=Jj hlt;have HBAD:Hid (mg (eF rs) k=false→gX rs=false):=fun h=>by rw [Yg.out,sU _ k h _ hlt]; simp
  obtain ⟨W1,hW1⟩:∃ W1,W1=wr.alloc (.cells #[.string rs[k].name,.slice rs[k].ad rs[k].rows.length rs[k].cap] 147):=⟨_,rfl⟩;have hal:ag wr W1:=by rw [hW1]; exact (TT _ _).alloc (TS _) _
  have UO:=az hal;have hgl:wr.heap.size < W1.heap.size:=by rw [hW1]; simp
  have g0:W1.cell? ⟨wr.heap.size,0,none⟩=some (.string rs[k].name):=by rw [hW1]; simp
  have g1:W1.cell? ⟨wr.heap.size,1,none⟩=some (.slice rs[k].ad rs[k].rows.length rs[k].cap):=by rw [hW1]; simp
  have hb4:b < W1.heap.size:=Nat.lt_trans hb hgl;clear hr hok;go_wp2_with fail;rw [← hW1];clear hW1 t0 t1 hal;have q0:=cell_regrown g0;have q1:=cell_regrown g1;have Vm:=pV (jT (W:=W1) (fun W'=>aL rs[k].name W' z1));have YL:Hid (∀ d os,Calls prog 221 #[.slice rs[k].ad rs[k].rows.length rs[k].cap] (grow (redrawn W1 d) os) fun e w''=>e=.returned (.bool (aK (ak rs[k].rows)))∧∃ p:Regrown,w''=grow (redrawn W1 p.d) p.os):=by
   show ∀ d os,Calls prog 221 #[.slice rs[k].ad rs[k].rows.length rs[k].cap] (grow (redrawn W1 d) os) fun e w''=>e=.returned (.bool (aK (ak rs[k].rows)))∧∃ p:Regrown,w''=grow (redrawn W1 p.d) p.os;rw [vZ];refine dm fun W' hb=>?_;exact AJ _ _ rs[k].rows _ WH.out.1 WH.out.2 WR.out.2.2 HCP.out.2 (WK.out.below (UO.out.trans (hb.mono UO.out.size)))
  have Ve:Hid (∀ d os,ag w (grow (redrawn W1 d) os)):=fun d os=>HB.out.trans ((UO.out.mono HB.out.size).trans ((below_regrown W1 d os).mono (TZ HB.out.size UO.out.size)));cases hnm:aP rs[k].name;case false=>
   rw [hnm] at Vm;have HN:Hid (gX rs=false):=HBAD.out (by rw [YK.out]; simp [hnm]);refine wp_region_quiet_below (by kernel_rfl) (by kernel_rfl) ?_
   repeat (go_big_quiet_step (exact Vm.out _ _))
   refine wpQuiet_nil ?_;rintro _ ⟨⟨dq,osq⟩,rfl⟩;go_wp2;go_ret;exact ⟨ah HN.out.symm,Ve.out dq osq⟩
  rw [hnm] at Vm;obtain ⟨ex,hex⟩:∃ ex,ex=aK (ak rs[k].rows):=⟨_,rfl⟩;rw [← hex] at YL YK;have fin:Hid (∀ pv,xS (eF rs) rs[k].name k=pv→mg (eF rs) k=(pv && ex)):=fun pv h=>by rw [YK.out,hnm,h]; simp
  clear hex YK hnm;by_cases hpos:k=0
  ·have hk0:¬ (0:Int) < (k:Int):=by omega
   have hk9:decide (0 < k)=false:=by simp; omega
   have V6:=pV (fin.out _ (Ab hpos));replace hpos:Hid (k=0):=hpos;refine wp_region_quiet_below (by kernel_rfl) (by kernel_rfl) ?_
   repeat (go_big_quiet_step (first | exact Vm.out _ _ | exact YL.out _ _))
   refine wpQuiet_nil ?_;rintro _ ⟨⟨dq,osq⟩,rfl⟩;cases ex;case false=>
    have HN:Hid (gX rs=false):=HBAD.out (by rw [V6.out]; rfl);go_wp2;go_ret;exact ⟨ah HN.out.symm,Ve.out dq osq⟩
   have V8:Hid (dG (eF rs) (k + 1)=true):=by show _=_; simp only [dG]; rw [HP.out,V6.out]; rfl
   go_wp2;go_roundw;case rel=>exact ⟨k + 1,by omega,by go_num,V8,Ve.out dq osq⟩
   simp [intOf] <;> omega
  obtain ⟨m,hm⟩:∃ m,k=m + 1:=⟨k - 1,by omega⟩;have U6:m < rs.length:=by omega
  have hk0:(0:Int) < (k:Int):=by omega
  have hk9:decide (0 < k)=true:=by simp; omega
  have hkm:(k:Int) - 1=(m:Int):=by omega
  have hwm:IntKind.i64.wrap (m:Int)=(m:Int):=by rw [IntKind.wrap_i64]; omega
  have hm1:=bB m;have hm2:(m:Int) < (rs.length:Int):=by omega
  have qm:=cell_regrown (aG UO.out hb (HTP.out m U6));have V6:=pV (fin.out _ (z8 hm U6));replace hm:Hid (k=m + 1):=hm;cases hless:Op.bytesLess rs[m].name.toList rs[k].name.toList;case false=>
   have HN:Hid (gX rs=false):=HBAD.out (by rw [V6.out]; simp [je,hless]);refine wp_region_quiet_below (by kernel_rfl) (by kernel_rfl) ?_
   repeat (go_big_quiet_step (first | exact Vm.out _ _ | exact YL.out _ _))
   refine wpQuiet_nil ?_;rintro _ ⟨⟨dq,osq⟩,rfl⟩;go_wp2;go_ret;exact ⟨ah HN.out.symm,Ve.out dq osq⟩
  refine wp_region_quiet_below (by kernel_rfl) (by kernel_rfl) ?_
  repeat (go_big_quiet_step (first | exact Vm.out _ _ | exact YL.out _ _))
  refine wpQuiet_nil ?_;rintro _ ⟨⟨dq,osq⟩,rfl⟩;cases ex;case false=>
   have HN:Hid (gX rs=false):=HBAD.out (by rw [V6.out]; simp);go_wp2;go_ret;exact ⟨ah HN.out.symm,Ve.out dq osq⟩
  have V8:Hid (dG (eF rs) (k + 1)=true):=by show _=_; simp only [dG]; rw [HP.out,V6.out]; simp [je,hless]
  go_wp2;go_roundw;case rel=>exact ⟨k + 1,by omega,by go_num,V8,Ve.out dq osq⟩
  simp [intOf] <;> omega
 obtain rfl:k=rs.length:=by omega
 have HY:Hid (gX rs=true):=by show _=_; rw [Yg.out,HP.out]; simp; omega
 go_wp2;go_ret;exact ⟨ah HY.out.symm,HB.out⟩
set_option maxRecDepth 100000 in
theorem Gn (ad:Option Addr) (cap:Nat) (rs:List TR) (w:af) (hlen:rs.length≤1048576) (hs:kX w ad rs) (hl:∀ r ∈ rs,r.light) (hf:∀ r ∈ rs,r.fits) (hcp:∀ r ∈ rs,r.caps) :
  Calls prog 131 #[.slice ad rs.length cap] w fun e w'=>e=.returned (.bool (bf (ae rs)))∧ag w w':=by
 have HS:=az hs;have HL:=az hl;have UL:=az hf;have WZ:=az hcp;clear hs hl hf hcp;have Yg:Hid (bf (ae rs)=(decide (rs.length≤6) && iK (ae rs) rs.length)):=by show _=_; unfold bf; rw [kY]
 by_cases h6:6 < rs.length
 ·have HN:Hid (bf (ae rs)=false):=by show _=_; rw [Yg.out]; simp; omega
  go_enter func131,ntmps131;go_wp2;go_ret;exact ⟨ah HN.out.symm,TT _ _⟩
 go_enter func131,ntmps131;go_wp2;go_loopw [10] (fun i wr=>∃ k:Nat,k≤rs.length∧i=.int .i64 k∧Hid (iK (ae rs) k=true)∧Hid (ag w wr)) (fun i _=>rs.length - (intOf i).toNat);case atStart=>exact ⟨0,TW _,rfl,rfl,TT _ _⟩
 obtain ⟨k,hk,rfl,HP,HB⟩:=hrel;by_cases hlt:k < rs.length
 ·rcases HS.out.below HB.out with rfl | ⟨b,off,rfl,hb,hr,hok⟩
  ·simp at hlt
  obtain ⟨t0,t1⟩:=hr k hlt;have WK:Hid (rs[k].ok wr):=hok rs[k] (TQ hlt);have z1:rs[k].name.size≤maxLen:=(UL.out _ (TQ hlt)).1;have WH:Hid (rs[k].light):=HL.out _ (TQ hlt);have WR:Hid (rs[k].fits):=UL.out _ (TQ hlt);have HCP:Hid (rs[k].caps):=WZ.out _ (TQ hlt);have hk1:=bB k;have hk2:(k:Int) < (rs.length:Int):=by omega
  have HTP:Hid (∀ (m:Nat) (h:m < rs.length),wr.cell? ⟨b,off + m * 2,none⟩=some (.string rs[m].name)):=fun m h=>(hr m h).1;have YK:Hid (kv (ae rs) k=(aP rs[k].name && uM (ae rs) rs[k].name k && gX rs[k].rows)):=Jk hlt;have HBAD:Hid (kv (ae rs) k=false→bf (ae rs)=false):=fun h=>by rw [Yg.out,sV _ k h _ hlt]; simp
  obtain ⟨W1,hW1⟩:∃ W1,W1=wr.alloc (.cells #[.string rs[k].name,.slice rs[k].ad rs[k].rows.length rs[k].cap] 127):=⟨_,rfl⟩;have hal:ag wr W1:=by rw [hW1]; exact (TT _ _).alloc (TS _) _
  have UO:=az hal;have hgl:wr.heap.size < W1.heap.size:=by rw [hW1]; simp
  have g0:W1.cell? ⟨wr.heap.size,0,none⟩=some (.string rs[k].name):=by rw [hW1]; simp
  have g1:W1.cell? ⟨wr.heap.size,1,none⟩=some (.slice rs[k].ad rs[k].rows.length rs[k].cap):=by rw [hW1]; simp
  have hb4:b < W1.heap.size:=Nat.lt_trans hb hgl;clear hr hok;go_wp2_with fail;rw [← hW1];clear hW1 t0 t1 hal;have q0:=cell_regrown g0;have q1:=cell_regrown g1;have Vm:=pV (jT (W:=W1) (fun W'=>aL rs[k].name W' z1));have YL:Hid (∀ d os,Calls prog 182 #[.slice rs[k].ad rs[k].rows.length rs[k].cap] (grow (redrawn W1 d) os) fun e w''=>e=.returned (.bool (gX rs[k].rows))∧∃ p:Regrown,w''=grow (redrawn W1 p.d) p.os):=by
   refine dm fun W' hb=>?_;exact yz _ _ rs[k].rows _ WH.out.1 (WK.out.below (UO.out.trans (hb.mono UO.out.size))) WH.out.2 WR.out.2.2 HCP.out.2
  have Ve:Hid (∀ d os,ag w (grow (redrawn W1 d) os)):=fun d os=>HB.out.trans ((UO.out.mono HB.out.size).trans ((below_regrown W1 d os).mono (TZ HB.out.size UO.out.size)));cases hnm:aP rs[k].name;case false=>
   rw [hnm] at Vm;have HN:Hid (bf (ae rs)=false):=HBAD.out (by rw [YK.out]; simp [hnm]);refine wp_region_quiet_below (by kernel_rfl) (by kernel_rfl) ?_
   repeat (go_big_quiet_step (exact Vm.out _ _))
   refine wpQuiet_nil ?_;rintro _ ⟨⟨dq,osq⟩,rfl⟩;go_wp2;go_ret;exact ⟨ah HN.out.symm,Ve.out dq osq⟩
  rw [hnm] at Vm;obtain ⟨ex,hex⟩:∃ ex,ex=gX rs[k].rows:=⟨_,rfl⟩;rw [← hex] at YL YK;have fin:Hid (∀ pv,uM (ae rs) rs[k].name k=pv→kv (ae rs) k=(pv && ex)):=fun pv h=>by rw [YK.out,hnm,h]; simp
  clear hex YK hnm;by_cases hpos:k=0
  ·have hk0:¬ (0:Int) < (k:Int):=by omega
   have hk9:decide (0 < k)=false:=by simp; omega
   have V6:=pV (fin.out _ (Aa hpos));replace hpos:Hid (k=0):=hpos;refine wp_region_quiet_below (by kernel_rfl) (by kernel_rfl) ?_
   repeat (go_big_quiet_step (first | exact Vm.out _ _ | exact YL.out _ _))
   refine wpQuiet_nil ?_;rintro _ ⟨⟨dq,osq⟩,rfl⟩;cases ex;case false=>
    have HN:Hid (bf (ae rs)=false):=HBAD.out (by rw [V6.out]; rfl);go_wp2;go_ret;exact ⟨ah HN.out.symm,Ve.out dq osq⟩
   have V8:Hid (iK (ae rs) (k + 1)=true):=by show _=_; simp only [iK]; rw [HP.out,V6.out]; rfl
   go_wp2;go_roundw;case rel=>exact ⟨k + 1,by omega,by go_num,V8,Ve.out dq osq⟩
   simp [intOf] <;> omega
  obtain ⟨m,hm⟩:∃ m,k=m + 1:=⟨k - 1,by omega⟩;have U6:m < rs.length:=by omega
  have hk0:(0:Int) < (k:Int):=by omega
  have hk9:decide (0 < k)=true:=by simp; omega
  have hkm:(k:Int) - 1=(m:Int):=by omega
  have hwm:IntKind.i64.wrap (m:Int)=(m:Int):=by rw [IntKind.wrap_i64]; omega
  have hm1:=bB m;have hm2:(m:Int) < (rs.length:Int):=by omega
  have qm:=cell_regrown (aG UO.out hb (HTP.out m U6));have V6:=pV (fin.out _ (zZ hm U6));replace hm:Hid (k=m + 1):=hm;cases hless:Op.bytesLess rs[m].name.toList rs[k].name.toList;case false=>
   have HN:Hid (bf (ae rs)=false):=HBAD.out (by rw [V6.out]; simp [je,hless]);refine wp_region_quiet_below (by kernel_rfl) (by kernel_rfl) ?_
   repeat (go_big_quiet_step (first | exact Vm.out _ _ | exact YL.out _ _))
   refine wpQuiet_nil ?_;rintro _ ⟨⟨dq,osq⟩,rfl⟩;go_wp2;go_ret;exact ⟨ah HN.out.symm,Ve.out dq osq⟩
  refine wp_region_quiet_below (by kernel_rfl) (by kernel_rfl) ?_
  repeat (go_big_quiet_step (first | exact Vm.out _ _ | exact YL.out _ _))
  refine wpQuiet_nil ?_;rintro _ ⟨⟨dq,osq⟩,rfl⟩;cases ex;case false=>
   have HN:Hid (bf (ae rs)=false):=HBAD.out (by rw [V6.out]; simp);go_wp2;go_ret;exact ⟨ah HN.out.symm,Ve.out dq osq⟩
  have V8:Hid (iK (ae rs) (k + 1)=true):=by show _=_; simp only [iK]; rw [HP.out,V6.out]; simp [je,hless]
  go_wp2;go_roundw;case rel=>exact ⟨k + 1,by omega,by go_num,V8,Ve.out dq osq⟩
  simp [intOf] <;> omega
 obtain rfl:k=rs.length:=by omega
 have HY:Hid (bf (ae rs)=true):=by show _=_; rw [Yg.out,HP.out]; simp; omega
 go_wp2;go_ret;exact ⟨ah HY.out.symm,HB.out⟩
open Go.Maps
def Gp (ts:List Ty) (w:World) (e:Ending) (w':World):Prop :=
 ((∃ (b n:Nat) (σ:Ky→Option Int),e=.returned (.tuple #[.map (some b),.bool true])∧bR ts∧aM dQ prog 94 w' b n (iW σ)∧Least ts (fun k=>(σ k).getD 0)∧∀ k,(∃ x,σ k=some x) ↔ k ∈ au ts) ∨ (e=.returned (.tuple #[.map none,.bool false])∧¬ bR ts))∧ag w w'
set_option maxRecDepth 100000 in
theorem vw (ad:Option Addr) (cap:Nat) (rs:List TR) (w:af) (hlen:rs.length≤1048576) (hs:kX w ad rs) (hl:∀ r ∈ rs,r.light) (hf:∀ r ∈ rs,r.fits) (hcp:∀ r ∈ rs,r.caps) :
  Calls prog 91 #[.slice ad rs.length cap] w (Gp (ae rs) w):=by
 have HS:=az hs;have HL:=az hl;have UL:=az hf;have WZ:=az hcp;clear hs hl hf hcp;go_enter func91,ntmps91;go_wp2_with fail;refine (Gn ad cap rs _ hlen HS.out HL.out UL.out WZ.out).mono ?_;rintro e w1 ⟨rfl,hb1⟩;have HB1:=az hb1;clear hb1;cases hsh:bf (ae rs);case false=>
  have HP:Hid (Gp (ae rs) w (.returned (.tuple #[.map none,.bool false])) w1):=⟨.inr ⟨rfl,fun h=>by rw [h.1] at hsh; cases hsh⟩,HB1.out⟩;go_wp2;refine bodyPost_ret (v:=.tuple #[.map none,.bool false]) ?_ rfl HP.out;simp [results,Tryz.results91,go_sem]
 have HSH:Hid (bf (ae rs)=true):=hsh;obtain ⟨h6,Wh,hex⟩:=bq hsh;have We:Hid (∀ r ∈ rs,r.rows.length≤6):=Wh;have Zq:Hid (∀ r ∈ rs,∀ q ∈ r.rows,aK (ak q.rows)=true∧q.rows.length≤15∧∀ e ∈ q.rows,dW q.rows.length e.e.kids):=hex;have HT:Hid (Tab rs (nR rs)):=wy hsh;clear hsh Wh hex;go_wp2_with fail;refine (qC ad cap rs _ h6 (HS.out.below HB1.out) We.out UL.out).mono ?_;rintro e w2 ⟨rfl,hV2,hb2⟩;have HB2:=jP HB1 hb2;obtain ⟨bT,hbT⟩:∃ bT,bT=w1.heap.size:=⟨_,rfl⟩;rw [← hbT] at hV2 ⊢;have Y7:Hid (aM dQ prog 94 w2 bT 36 (nR rs)):=hV2;clear hV2 hb2 hbT HB1;go_wp2_with fail;go_loopw [16] (fun i wr=>∃ k:Nat,k≤rs.length∧i=.int .i64 k∧Hid (((ae rs).take k).all (qy (ae rs))=true)∧Hid (ag w wr)∧Hid (aM dQ prog 94 wr bT 36 (nR rs))) (fun i _=>rs.length - (intOf i).toNat);case atStart=>exact ⟨0,TW _,rfl,(by show _=_; simp),HB2,Y7⟩
 clear HB2 Y7;obtain ⟨k,hk,rfl,HP,HB,HV⟩:=hrel;by_cases hlt:k < rs.length
 ·rcases HS.out.below HB.out with rfl | ⟨b,off,rfl,hb,hr,-⟩
  ·simp at hlt
  obtain ⟨t0,t1⟩:=hr k hlt;have hk1:=bB k;have hk2:(k:Int) < (rs.length:Int):=by omega
  have h66:=We.out _ (TQ hlt);have z0:rs[k].name.size≤maxLen:=(UL.out _ (TQ hlt)).1;obtain ⟨W1,hW1⟩:∃ W1,W1=wr.alloc (.cells #[.string rs[k].name,.slice rs[k].ad rs[k].rows.length rs[k].cap] 127):=⟨_,rfl⟩;have hal:ag wr W1:=by rw [hW1]; exact (TT _ _).alloc (TS _) _
  obtain ⟨g6,XZ⟩:∃ g6,g6=wr.heap.size:=⟨_,rfl⟩;have VI:Hid (W1.cell? ⟨g6,0,none⟩=some (.string rs[k].name)∧g6 < W1.heap.size):=⟨by rw [hW1,XZ]; simp,by rw [hW1,XZ]; simp⟩;have HB1:=jP HB hal;have HV1:=az (HV.out.below hal);clear hr hal HB HV;go_wp2_with fail;rw [← hW1,← XZ];clear hW1 t0 t1 XZ;go_loopw [23] (fun i w3=>∃ j:Nat,j≤rs[k].rows.length∧i=.int .i64 j∧Hid (((eF rs[k].rows).take j).all (fun r=>aR (ae rs) rs[k].name r.expr)=true)∧Hid (ag w w3)∧Hid (aM dQ prog 94 w3 bT 36 (nR rs))∧Hid (w3.cell? ⟨g6,0,none⟩=some (.string rs[k].name)∧g6 < w3.heap.size)) (fun i _=>rs[k].rows.length - (intOf i).toNat);case atStart=>exact ⟨0,TW _,rfl,(by show _=_; simp),HB1,HV1,VI⟩
  clear HB1 HV1 VI;obtain ⟨j,hj,rfl,HR,HB,HV,HC⟩:=hrel;by_cases hjl:j < rs[k].rows.length
  ·rcases HS.out.below HB.out with hnil | ⟨b',off',he,hb2,hr,hok⟩
   ·rw [hnil] at hlt; simp at hlt
   injection he with he; injection he with he1 he2; subst he1; subst he2;have ok:=hok rs[k] (TQ hlt);rcases ok with hnil | ⟨b2,U0,had,hbb,hr2,hok2⟩
   ·rw [hnil] at hjl; simp at hjl
   obtain ⟨q0,q1⟩:=hr2 j hjl;have WK:Hid (iH wr rs[k].rows[j].ad rs[k].rows[j].rows):=hok2 _ (TQ hjl);have WH:Hid (rs[k].rows[j].light):=(HL.out _ (TQ hlt)).2 _ (TQ hjl);have WR:Hid (rs[k].rows[j].fits):=(UL.out _ (TQ hlt)).2.2 _ (TQ hjl);have HNB:Hid (∀ q ∈ rs[k].rows[j].rows,ax q.e=true):=fun q hq=>jl (Zq.out _ (TQ hlt) _ (TQ hjl)).1 q.e (by unfold ak; exact List.mem_map_of_mem hq);have hj1:=bB j;have hj2:(j:Int) < (rs[k].rows.length:Int):=by omega
   obtain ⟨x0,x1⟩:=HC.out;obtain ⟨W3,hW3⟩:∃ W3,W3=wr.alloc (.cells #[.string rs[k].rows[j].name,.slice rs[k].rows[j].ad rs[k].rows[j].rows.length rs[k].rows[j].cap] 147):=⟨_,rfl⟩;have hal:ag wr W3:=by rw [hW3]; exact (TT _ _).alloc (TS _) _
   have HB3:=jP HB hal;have HV3:=az (HV.out.below hal);have UO:=az hal;have XF:Hid (W3.cell? ⟨g6,0,none⟩=some (.string rs[k].name)∧g6 < W3.heap.size):=⟨aG hal x1 x0,TP x1 hal.size⟩;have HTS:Hid ((eF rs[k].rows).take (j + 1)=(eF rs[k].rows).take j ++ [rs[k].rows[j].p]):=F6 rs[k].rows j hjl;rw [had];clear hr hok hr2 hok2 hal HB HV HC;go_wp2_with fail;rw [← hW3];clear hW3 q0 q1 x0 x1;refine (Ay (some ⟨b,off,none⟩) rs[k].rows[j].ad cap rs[k].rows[j].cap rs bT 36 (nR rs) rs[k].name rs[k].rows[j].rows _ hlen (HS.out.below HB3.out) HL.out UL.out HV3.out HT.out z0 WH.out.1 (WK.out.below UO.out) WH.out.2 WR.out.2.2 HNB.out).mono ?_;rintro e w5 ⟨rfl,hb5⟩;have VS:=jP HB3 hb5;have HV5:=az (HV3.out.below hb5);have WE:Hid (w5.cell? ⟨g6,0,none⟩=some (.string rs[k].name)∧g6 < w5.heap.size):=⟨aG hb5 XF.out.2 XF.out.1,TP XF.out.2 hb5.size⟩;clear hb5;cases hrf:aR (ae rs) rs[k].name (ak rs[k].rows[j].rows);case false=>
    have HPO:Hid (Gp (ae rs) w (.returned (.tuple #[.map none,.bool false])) w5):=by
     refine ⟨.inr ⟨rfl,fun hs=>?_⟩,VS.out⟩;have h1:=hs.2.1;unfold iC at h1;rw [Ub] at h1;have h2:=h1 rs[k].p (by unfold ae; exact List.mem_map_of_mem (TQ hlt));unfold qy at h2;rw [Ub] at h2;have h3:=h2 rs[k].rows[j].p (by show _ ∈ eF rs[k].rows; unfold eF; exact List.mem_map_of_mem (TQ hjl));have h4:aR (ae rs) rs[k].name (ak rs[k].rows[j].rows)=true:=h3;rw [hrf] at h4; cases h4
    go_wp2;refine bodyPost_ret (v:=.tuple #[.map none,.bool false]) ?_ rfl HPO.out;simp [results,Tryz.results91,go_sem]
   have V8:Hid (((eF rs[k].rows).take (j + 1)).all (fun r=>aR (ae rs) rs[k].name r.expr)=true):=by
    show _=_;rw [HTS.out,List.all_append,HR.out];have:aR (ae rs) rs[k].name rs[k].rows[j].p.expr=true:=hrf;simp [this]
   go_wp2;go_roundw;case rel=>exact ⟨j + 1,by omega,by go_num,V8,VS,HV5,WE⟩
   simp [intOf] <;> omega
  obtain rfl:j=rs[k].rows.length:=by omega
  have HPN:Hid (((ae rs).take (k + 1)).all (qy (ae rs))=true):=by
   show _=_;rw [F5 rs k hlt,List.all_append,HP.out];have h1:=HR.out;rw [← q9,Ug] at h1;have:qy (ae rs) rs[k].p=true:=h1;simp [this]
  go_wp2;go_roundw;case rel=>exact ⟨k + 1,by omega,by go_num,HPN,HB,HV⟩
  simp [intOf] <;> omega
 obtain rfl:k=rs.length:=by omega
 have Xk:Hid (iC (ae rs)=true):=by
  have h1:=HP.out;rw [← kY,Ug] at h1;exact h1
 go_wp2_with fail;refine (BM ad cap rs bT 36 (nR rs) _ h6 (HS.out.below HB.out) HL.out UL.out We.out (fun r hr q hq=>(Zq.out r hr q hq).2) (OW HSH.out) HV.out HT.out).mono ?_;rintro e w5 ⟨rfl,⟨nL,ML,hG5⟩,hb5⟩;have VS:=jP HB hb5;have HG5:Hid (Grp w5 wr.heap.size nL ML (ji (ae rs) rs)):=hG5;clear hG5 hb5;go_wp2_with fail;refine (yw ad cap rs wr.heap.size nL ML (ji (ae rs) rs) _ h6 (HS.out.below VS.out) UL.out We.out HG5.out (QE HSH.out Xk.out) (kw Xk.out) (Mg rs We.out Zq.out (OW HSH.out))).mono ?_;rintro e w6 ⟨hL,hb6⟩;have WS:=jP VS hb6;clear hb6;rcases hL with ⟨bS,nS,σ,rfl,hM,Ws,hk⟩ | ⟨rfl,hno⟩
 ·have HPO:Hid (Gp (ae rs) w (.returned (.tuple #[.map (some bS),.bool true])) w6):=⟨.inl ⟨bS,nS,σ,rfl,⟨HSH.out,Xk.out,_,Ws.sol⟩,hM,Ws,hk⟩,WS.out⟩;clear hM Ws hk;go_wp2;refine bodyPost_ret (v:=.tuple #[.map (some bS),.bool true]) ?_ rfl HPO.out;simp [results,Tryz.results91,go_sem]
 have HPO:Hid (Gp (ae rs) w (.returned (.tuple #[.map none,.bool false])) w6):=⟨.inr ⟨rfl,fun h=>hno h.2.2⟩,WS.out⟩;clear hno;go_wp2;refine bodyPost_ret (v:=.tuple #[.map none,.bool false]) ?_ rfl HPO.out;simp [results,Tryz.results91,go_sem]
end Go.Proofs.YtajkkeikihhejaaGreat
