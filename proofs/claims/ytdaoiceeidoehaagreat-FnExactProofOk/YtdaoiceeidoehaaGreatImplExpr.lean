/- Contracts of the program's functions that look at a node and at a whole expression. -/
import Derived.Test.YtdaoiceeidoehaaGreatJ26
import Derived.Test.YtdaoiceeidoehaaGreatJ25
open Go.Proofs.Tryz
set_option maxHeartbeats 80000000
namespace Go.Proofs.YtdaoiceeidoehaaGreat
open Go.ChangeShapes Go.WideShapes Go.ChangeAt Go.RowKit
open Pl
set_option maxRecDepth 8000 in
theorem BL (r:ER) (w:World) (hf:r.e.fits) (hl:r.e.light) (hok:r.ok w) (hcap:r.e.allow.length≤r.capA) (h1:r.e.kind=1) :
  Calls prog 171 #[r.val] w fun e w'=>e=.returned (.bool (ak r.e))∧Below w.heap.size w w':=by
 obtain ⟨⟨kind,allow,over,name,kids⟩,adA,capA,adK,capK⟩:=r;obtain ⟨f1,f2,f3,f4,f5⟩:=hf;obtain ⟨hA,hK⟩:=hok;obtain ⟨l1,l2⟩:=hl;simp only at f1 f2 f3 f4 f5 h1 hA hK hcap l1 l2;subst h1;simp only [ER.val];unfold maxLen at f4 f5;have HB0:Hid (∀ n,Below w.heap.size w ((w.alloc (.cells #[.int .i64 1,.slice adA allow.length capA,.string over,.string name,.slice adK kids.length capK] 166)).drewN n)):=fun n=>below_drewN ((Below.refl w.heap.size w).alloc (Nat.le_refl _) _) n;have HA:Hid (fV w adA allow):=hA;have HF1:Hid (∀ a ∈ allow,a.fits):=f1;have HCAP:Hid (allow.length≤capA):=hcap;clear hA hK f1 hcap;go_enter func171,ntmps171;go_wp2_with fail;go_quiet (fail);go_wp2_with fail;refine (BJ adA capA allow _ l1 HCAP.out HF1.out (HA.out.below (HB0.out _))).mono ?_;rintro e w1 ⟨rfl,hb1⟩;have c2:w1.cell? ⟨w.heap.size,2,none⟩=some (.string over):=by rw [hb1.cell (p:=⟨w.heap.size,2,none⟩) (by show _ < (w.alloc _).heap.size; simp)]; show (w.alloc _).cell? _=_; simp
 have c3:w1.cell? ⟨w.heap.size,3,none⟩=some (.string name):=by rw [hb1.cell (p:=⟨w.heap.size,3,none⟩) (by show _ < (w.alloc _).heap.size; simp)]; show (w.alloc _).cell? _=_; simp
 have HB1:Hid (Below w.heap.size w w1):=(HB0.out _).trans (hb1.mono (HB0.out _).size);clear hb1 HB0;go_wp2
 all_goals go_ret
 all_goals exact ⟨af (by first | (simp [ak, *]; done) | (simp [ak, *]; omega) | (simp [ak, *]; rw [Bool.eq_iff_iff]; simp; done) | (simp [ak, *]; rw [Bool.eq_iff_iff]; simp; omega)),HB1.out⟩
theorem D9 (r:ER) (w:World) (hf:r.e.fits) (hl:r.e.light) (hok:r.ok w) (hcap:r.e.allow.length≤r.capA) :
  Calls prog 171 #[r.val] w fun e w'=>e=.returned (.bool (ak r.e))∧Below w.heap.size w w':=by
 by_cases h:r.e.kind=1
 ·exact BL r w hf hl hok hcap h
 ·exact zu r w hf h
structure Arr (es:List Ex) (w:World) (g k:Nat):Prop where
 lt:g < w.heap.size
 told:∀ j,j < k→w.cell? ⟨g,j,none⟩=some (.int .i64 (aF es j))
 rest:∀ j,k≤j→j < 15→w.cell? ⟨g,j,none⟩=some (.int .i64 0)
 free:∀ o,w.frozen? ⟨g,o,none⟩=false
theorem Arr.later {es:List Ex} {w w':World} {g k:Nat} (h:Arr es w g k) (hb:Below w.heap.size w w'):Arr es w' g k where
 lt:=Nat.lt_of_lt_of_le h.lt hb.size
 told j hj:=kept hb h.lt (h.told j hj)
 rest j h1 h2:=kept hb h.lt (h.rest j h1 h2)
 free o:=kS hb h.lt (h.free o)
theorem Arr.put {es:List Ex} {w:World} {g k:Nat} (h:Arr es w g k) (hk:k < 15):Arr es (w.setCell ⟨g,k,none⟩ (.int .i64 (aF es k))) g (k + 1) where
 lt:=by simpa using h.lt
 told j hj:=by
  by_cases e:j=k
  ·subst e; exact nC (h.rest j (Nat.le_refl _) hk)
  ·rw [fu (Ne.symm e)]; exact h.told j (by omega)
 rest j h1 h2:=by rw [fu (by omega)]; exact h.rest j (by omega) h2
 free o:=by simpa using h.free o
def qm (es:List Ex):Bool:=iJ es && decide (aF es (es.length - 1)=0)
theorem yu {es:List Ex} (k:Nat) (h:k < es.length) (hb:aF es k < 0):qm es=false:=by
 have:iJ es=false:=by
  rw [Bool.eq_false_iff]; intro h2; unfold iJ at h2; rw [List.all_eq_true] at h2; have:=h2 k (by simpa using h); simp at this; omega
 simp [qm,this]
theorem sM (b off cap:Nat) (rs:List ER) (w:World) (hn1:1≤rs.length) (hn2:rs.length≤15) (hl:∀ r ∈ rs,r.e.light) (hb:b < w.heap.size) (hr:∀ (i:Nat) (h:i < rs.length),wy w b (off + i * 5) rs[i]) (hok:∀ r ∈ rs,r.ok w) :
  Calls prog 172 #[.slice (some ⟨b,off,none⟩) rs.length cap] w fun e w'=>e=.returned (.bool (qm (ah rs)))∧Below w.heap.size w w':=by
 have HEL:Hid ((ah rs).length=rs.length):=aI rs;have HL:Hid (∀ r ∈ rs,r.e.light):=hl;have HR:Hid (∀ (i:Nat) (h:i < rs.length),wy w b (off + i * 5) rs[i]):=hr;have HO:Hid (∀ r ∈ rs,r.ok w):=hok;clear hl hr hok;go_enter func172,ntmps172;go_wp2_with fail;go_loopw [10] (fun i wr=>∃ k:Nat,k≤rs.length∧i=.int .i64 k∧Hid (Hz (ah rs) k)∧Hid (Arr (ah rs) wr w.heap.size k)∧Below w.heap.size w wr) (fun i _=>rs.length - (intOf i).toNat);case atStart =>
  refine ⟨0,Nat.zero_le _,rfl,(fun j hj=>absurd hj (Nat.not_lt_zero _)),⟨by simp,(fun j hj=>absurd hj (Nat.not_lt_zero _)),fun j _ hj=>?_,fun o=>by simp⟩,(Below.refl _ _).alloc (Nat.le_refl _) _⟩;have h15:j=0 ∨ j=1 ∨ j=2 ∨ j=3 ∨ j=4 ∨ j=5 ∨ j=6 ∨ j=7 ∨ j=8 ∨ j=9 ∨ j=10 ∨ j=11 ∨ j=12 ∨ j=13 ∨ j=14:=by omega
  rcases h15 with rfl | rfl | rfl | rfl | rfl | rfl | rfl | rfl | rfl | rfl | rfl | rfl | rfl | rfl | rfl <;> simp
 case round =>
  obtain ⟨k,hk,rfl,HGU,HAR,hB⟩:=hrel;by_cases hlt:k < rs.length
  ·have hltE:k < (ah rs).length:=by rw [HEL.out]; exact hlt
   obtain ⟨t0,t1,t2,t3,t4⟩:=(HR.out k hlt).later hb hB;have hk1:=aY k;have hk2:(k:Int) < (rs.length:Int):=by omega
   have hk3:(k:Int) < 15:=by omega
   obtain ⟨-,lk⟩:=HL.out rs[k] (List.getElem_mem hlt);obtain ⟨W1,hW1⟩:∃ W1,W1=wr.alloc (.cells #[.int .i64 rs[k].e.kind,.slice rs[k].adA rs[k].e.allow.length rs[k].capA,.string rs[k].e.over,.string rs[k].e.name,.slice rs[k].adK rs[k].e.kids.length rs[k].capK] 166):=⟨_,rfl⟩;have hal:Below wr.heap.size wr W1:=by rw [hW1]; exact (Below.refl _ _).alloc (Nat.le_refl _) _
   have hB1:Below w.heap.size w W1:=hB.trans (hal.mono hB.size);have HAR1:Hid (Arr (ah rs) W1 w.heap.size k):=HAR.out.later hal;have s4:W1.cell? ⟨wr.heap.size,4,none⟩=some (.slice rs[k].adK rs[k].e.kids.length rs[k].capK):=by rw [hW1]; simp
   have HT:Hid (dK (dO (ah rs) k) (rs[k].e.kids.take rs[k].e.kids.length).reverse ((k:Int) - 1)=aF (ah rs) k):=by
    show _=_;rw [List.take_length,jT (ah rs) k,kM rs k hlt]
   clear HAR;go_wp2_with fail;rw [← hW1];clear hW1 t0 t1 t2 t3 t4 hal;go_loopw [6,7] (fun x i w2=>∃ (j:Nat) (y:Int),j≤rs[k].e.kids.length∧i=.int .i64 ((j:Int) - 1)∧x=.int .i64 y∧0≤y∧y≤k∧Hid (dK (dO (ah rs) k) (rs[k].e.kids.take j).reverse (y - 1)=aF (ah rs) k)∧w2=W1) (fun _ i _=>(intOf i + 1).toNat);case atStart=>exact ⟨rs[k].e.kids.length,(k:Int),Nat.le_refl _,rfl,rfl,by omega,by omega,HT,rfl⟩
   case round =>
    obtain ⟨j,y,hj,rfl,rfl,hy0,hy1,HG,rfl⟩:=hrel;by_cases hj0:0 < j
    ·obtain ⟨j,rfl⟩:∃ i,j=i + 1:=⟨j - 1,by omega⟩;have hjl:j < rs[k].e.kids.length:=by omega
     rcases (HO.out rs[k] (List.getElem_mem hlt)).2.below hB1 with hnil | ⟨bk,offk,hadk,hbk,hrk⟩
     ·rw [hnil] at hjl; simp at hjl
     have s4':=s4;rw [hadk] at s4';have k0:=hrk j hjl;have hji:((j + 1:Nat):Int) - 1=(j:Int):=by omega
     have hj1:=aY j;have hj2:(j:Int) < (rs[k].e.kids.length:Int):=by omega
     have HG2:Hid ((if y - 1 < 0 ∨ rs[k].e.kids[j] ≠ y - 1 then -1 else if dO (ah rs) k (y - 1) < 0 then -1 else dK (dO (ah rs) k) (rs[k].e.kids.take j).reverse (dO (ah rs) k (y - 1) - 1))=aF (ah rs) k):=by
      have:=HG.out;rw [List.take_succ_eq_append_getElem hjl,List.reverse_append] at this;exact this
     rw [hji];clear HG hrk hadk s4;by_cases hy:y=0
     ·have HN:Hid (qm (ah rs)=false):=yu k hltE (by rw [← HG2.out,if_pos (Or.inl (by omega))]; omega);subst hy;go_wp2;go_ret;exact ⟨by rw [HN.out]; rfl,hB1⟩
     obtain ⟨m,rfl⟩:∃ m:Nat,y=(m:Int) + 1:=⟨(y - 1).toNat,by omega⟩;have em:(m:Int) + 1 - 1=(m:Int):=by omega
     by_cases hkx:rs[k].e.kids[j]=(m:Int)
     ·have hF:dO (ah rs) k ((m:Int) + 1 - 1)=aF (ah rs) m:=by rw [em]; unfold dO; rw [if_pos ⟨by omega,by simp; omega⟩]; simp
      have HF:Hid (dO (ah rs) k ((m:Int) + 1 - 1)=aF (ah rs) m):=hF;have hle:=mP (ah rs) m;have hge:0≤aF (ah rs) m:=HGU.out m (by omega);have a0:=HAR1.out.told m (by omega);have hm1:=aY m;have hm2:(m:Int) < 15:=by omega
      have HG3:Hid (dK (dO (ah rs) k) (rs[k].e.kids.take j).reverse (aF (ah rs) m - 1)=aF (ah rs) k):=by
       show _=_;rw [← HG2.out,if_neg (by omega),HF.out,if_neg (by omega)]
      clear hF HG2;go_wp2;go_roundw;case rel=>exact ⟨j,aF (ah rs) m,by omega,by go_num,rfl,hge,by omega,HG3,by first | rfl | trivial⟩
      case measure=>simp [intOf] <;> omega
     ·have HN:Hid (qm (ah rs)=false):=yu k hltE (by rw [← HG2.out,if_pos (Or.inr (by rw [em]; exact hkx))]; omega);have hq:(rs[k].e.kids[j] != (m:Int))=true:=by simpa using hkx
      have hq0:((m:Int) + 1 == 0)=false:=by simp; omega
      go_wp2;go_ret;exact ⟨by rw [HN.out]; rfl,hB1⟩
    ·obtain rfl:j=0:=by omega
     have hX:aF (ah rs) k=y:=by have:=HG.out; simp [dK] at this; omega
     have HGU2:Hid (Hz (ah rs) (k + 1)):=by
      intro m hm;by_cases e:m=k
      ·subst e; omega
      ·exact HGU.out m (by omega)
     have q0:=HAR1.out.rest k (Nat.le_refl _) (by omega);have qf:=HAR1.out.free;have HA2:=HAR1.out.put (k:=k) (by omega);rw [hX] at HA2;have HA3:Hid (Arr (ah rs) _ w.heap.size (k + 1)):=HA2;have hB2:=hB1.setCell (p:=⟨w.heap.size,k,none⟩) (Nat.le_refl _) (.int .i64 y);clear HG HA2 hX;go_wp2;go_roundw;case rel=>exact ⟨k + 1,by omega,by go_num,HGU2,HA3,hB2⟩
     case measure=>simp [intOf] <;> omega
  ·obtain rfl:k=rs.length:=by omega
   have a0:=HAR.out.told (rs.length - 1) (by omega);have HKB:Hid (qm (ah rs)=decide (aF (ah rs) (rs.length - 1)=0)):=by
    show _=_;have:iJ (ah rs)=true:=by
     unfold iJ;rw [List.all_eq_true];intro j hj;have hj':j < rs.length:=by simpa [HEL.out] using hj
     simpa using HGU.out j hj'
    unfold qm;rw [this,HEL.out,Bool.true_and]
   have hcast:((rs.length:Int) - 1)=((rs.length - 1:Nat):Int):=by omega
   have h15:((rs.length - 1:Nat):Int) < 15:=by omega
   have h00:(0:Int)≤((rs.length - 1:Nat):Int):=by omega
   go_wp2;go_ret;exact ⟨by rw [HKB.out]; exact af (by rw [Bool.eq_iff_iff]; simp),hB⟩
theorem Gx {es:List Ex} (h:¬ (1≤es.length∧es.length≤15)):iV es=false:=by rw [← xq]; exact yn h
theorem Ea {es:List Ex} (k:Nat) (h:k < es.length) (hb:ak es[k]=false):iV es=false:=by simp [iV,xm es k h hb]
theorem vW (b off cap:Nat) (rs:List ER) (w:World) (hlen:rs.length≤1048576) (hl:∀ r ∈ rs,r.e.light) (hf:∀ r ∈ rs,r.e.fits) (hcp:∀ r ∈ rs,r.e.allow.length≤r.capA) (hb:b < w.heap.size) (hr:∀ (i:Nat) (h:i < rs.length),wy w b (off + i * 5) rs[i]) (hok:∀ r ∈ rs,r.ok w) :
  Calls prog 160 #[.slice (some ⟨b,off,none⟩) rs.length cap] w fun e w'=>e=.returned (.bool (iV (ah rs)))∧Below w.heap.size w w':=by
 have HEL:Hid ((ah rs).length=rs.length):=aI rs;have HL:Hid (∀ r ∈ rs,r.e.light):=hl;have HF:Hid (∀ r ∈ rs,r.e.fits):=hf;have HCP:Hid (∀ r ∈ rs,r.e.allow.length≤r.capA):=hcp;have HR:Hid (∀ (i:Nat) (h:i < rs.length),wy w b (off + i * 5) rs[i]):=hr;have HO:Hid (∀ r ∈ rs,r.ok w):=hok;clear hl hf hr hok hcp;by_cases hn:1≤rs.length∧rs.length≤15
 ·obtain ⟨hn1,hn2⟩:=hn;go_enter func160,ntmps160;go_wp2_with fail;go_loopw [3,16] (fun o i wr=>∃ k:Nat,k≤rs.length∧i=.int .i64 k∧o=.int .i64 (eH (ah rs) k:Nat)∧Hid (gV (ah rs) k=true)∧Below w.heap.size w wr) (fun _ i _=>rs.length - (intOf i).toNat);case atStart=>exact ⟨0,Nat.zero_le _,rfl,rfl,(by show _=_; simp [gV]),Below.refl _ _⟩
  case round =>
   obtain ⟨k,hk,rfl,rfl,HU,hB⟩:=hrel;by_cases hlt:k < rs.length
   ·have hltE:k < (ah rs).length:=by rw [HEL.out]; exact hlt
    have HEK:Hid ((ah rs)[k]=rs[k].e):=by show _=_; simp [ah]
    obtain ⟨t0,t1,t2,t3,t4⟩:=(HR.out k hlt).later hb hB;have hk1:=aY k;have hk2:(k:Int) < (rs.length:Int):=by omega
    have hol:=pg (ah rs) k;have hal:Below w.heap.size w (wr.alloc (.cells #[.int .i64 rs[k].e.kind,.slice rs[k].adA rs[k].e.allow.length rs[k].capA,.string rs[k].e.over,.string rs[k].e.name,.slice rs[k].adK rs[k].e.kids.length rs[k].capK] 166)):=hB.alloc hB.size _;have HAL:Hid (Below w.heap.size w (wr.alloc (.cells #[.int .i64 rs[k].e.kind,.slice rs[k].adA rs[k].e.allow.length rs[k].capA,.string rs[k].e.over,.string rs[k].e.name,.slice rs[k].adK rs[k].e.kids.length rs[k].capK] 166))):=hal;clear hal;go_wp2_with fail;refine (D9 rs[k] _ (HF.out _ (List.getElem_mem hlt)) (HL.out _ (List.getElem_mem hlt)) ((HO.out _ (List.getElem_mem hlt)).below HAL.out) (HCP.out _ (List.getElem_mem hlt))).mono ?_;rintro e w1 ⟨rfl,hb1⟩;have hB1:Below w.heap.size w w1:=HAL.out.trans (hb1.mono HAL.out.size);have g0:w1.cell? ⟨wr.heap.size,0,none⟩=some (.int .i64 rs[k].e.kind):=by rw [hb1.cell (p:=⟨wr.heap.size,0,none⟩) (by simp)]; simp
    clear hb1 t0 t1 t2 t3 t4 HAL;cases hnode:ak rs[k].e with
    | false =>
     have HN:Hid (iV (ah rs)=false):=Ea k hltE (by rw [HEK.out]; exact hnode);go_wp2;go_ret;exact ⟨by rw [HN.out]; rfl,hB1⟩
    | true =>
     have HU2:Hid (gV (ah rs) (k + 1)=true):=by show _=_; rw [pq _ _ hltE,HU.out,HEK.out,hnode]; rfl
     have HOW:Hid (eH (ah rs) (k + 1)=eH (ah rs) k + (if rs[k].e.kind=1 then 1 else 0)):=by show _=_; rw [uu _ _ hltE,HEK.out]
     by_cases hk1':rs[k].e.kind=1
     ·have HOW2:Hid (eH (ah rs) (k + 1)=eH (ah rs) k + 1):=by show _=_; rw [HOW.out,if_pos hk1']
      clear HOW;go_wp2;go_roundw;case rel=>exact ⟨k + 1,by omega,by go_num,by rw [HOW2.out]; go_num,HU2,hB1⟩
      case measure=>simp [intOf] <;> omega
     ·have HOW2:Hid (eH (ah rs) (k + 1)=eH (ah rs) k):=by show _=_; rw [HOW.out,if_neg hk1']; rfl
      clear HOW;go_wp2;go_roundw;case rel=>exact ⟨k + 1,by omega,by go_num,by rw [HOW2.out],HU2,hB1⟩
      case measure=>simp [intOf] <;> omega
   ·obtain rfl:k=rs.length:=by omega
    have HN:Hid ((ah rs).all ak=true):=by
     have:=HU.out;unfold gV at this;rwa [← HEL.out,List.take_length] at this
    have HOW:Hid (eH (ah rs) rs.length=own (ah rs)):=by show _=_; unfold eH; rw [← HEL.out,List.take_length]
    have hol:=pg (ah rs) rs.length;by_cases ho:eH (ah rs) rs.length≤1
    ·have HS:Hid (iV (ah rs)=qm (ah rs)):=by
      show _=_;have h1:own (ah rs)≤1:=by rw [← HOW.out]; exact ho
      have e1:=HEL.out;unfold iV qm;rw [e1,HN.out];simp [h1,hn1,hn2]
     go_wp2_with fail;refine (sM b off cap rs _ hn1 hn2 HL.out (Nat.lt_of_lt_of_le hb hB.size) (fun i hi=>(HR.out i hi).later hb hB) (fun r hr=>(HO.out r hr).below hB)).mono ?_;rintro e w1 ⟨rfl,hb1⟩;go_wp2;go_ret;exact ⟨by rw [HS.out]; rfl,hB.trans (hb1.mono hB.size)⟩
    ·have HS:Hid (iV (ah rs)=false):=by
      show _=_;have h1:¬ own (ah rs)≤1:=by rw [← HOW.out]; exact ho
      simp [iV,h1]
     go_wp2;go_ret;exact ⟨by rw [HS.out]; rfl,hB⟩
 ·have HN:Hid (iV (ah rs)=false):=Gx (by rw [HEL.out]; exact hn);go_enter func160,ntmps160;go_wp2_with fail
  all_goals go_ret
  all_goals exact ⟨by rw [HN.out]; rfl,Below.refl _ _⟩
theorem mE (ad:Option Addr) (cap:Nat) (rs:List ER) (w:World) (hlen:rs.length≤1048576) (hl:∀ r ∈ rs,r.e.light) (hf:∀ r ∈ rs,r.e.fits) (hcp:∀ r ∈ rs,r.e.allow.length≤r.capA) (hs:dw w ad rs) :
  Calls prog 160 #[.slice ad rs.length cap] w fun e w'=>e=.returned (.bool (iV (ah rs)))∧Below w.heap.size w w':=by
 rcases hs with rfl | ⟨b,off,rfl,hb,hr,hok⟩
 ·go_enter func160,ntmps160;go_wp2_with fail;go_ret;exact ⟨rfl,Below.refl _ _⟩
 ·exact vW b off cap rs w hlen hl hf hcp hb hr hok
end Go.Proofs.YtdaoiceeidoehaaGreat
