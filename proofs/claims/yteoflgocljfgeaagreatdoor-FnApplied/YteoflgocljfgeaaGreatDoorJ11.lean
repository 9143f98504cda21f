/- The contract of the document's walk over a tree, and of its look at a whole expression. -/
import Derived.Test.YteoflgocljfgeaaGreatDoorJ10
open Go.Proofs.Tryz
set_option maxHeartbeats 80000000
namespace Go.Proofs.YteoflgocljfgeaaGreatDoor
open Go.ChangeShapes Go.WideShapes Go.ChangeAt Go.RowKit
open Pl
theorem mg (rs:List ER) (n:Nat) (h:n < rs.length):kP (au rs) n=rs[n].e.kids:=by simp [kP,au,h]
theorem Dn (b off cap:Nat) (rs:List ER) (hlen:rs.length≤1048576) (hl:∀ r ∈ rs,r.e.light) (n:Nat):∀ (w:World),n < rs.length→b < w.heap.size→(∀ (i:Nat) (h:i < rs.length),ve w b (off + i * 5) rs[i])→(∀ r ∈ rs,r.ok w) →
  Calls prog 114 #[.slice (some ⟨b,off,none⟩) rs.length cap,.int .i64 (n:Int)] w fun e w'=>e=.returned (.int .i64 (aH (au rs) n))∧Below w.heap.size w w':=by
 induction n using Nat.strongRecOn with
 | ind n ih =>
  intro w hn hb hr hok
  have IH:Hid (∀ m,m < n→∀ (w:World),m < rs.length→b < w.heap.size→(∀ (i:Nat) (h:i < rs.length),ve w b (off + i * 5) rs[i])→(∀ r ∈ rs,r.ok w) →
   Calls prog 114 #[.slice (some ⟨b,off,none⟩) rs.length cap,.int .i64 (m:Int)] w fun e w'=>e=.returned (.int .i64 (aH (au rs) m))∧Below w.heap.size w w'):=ih
  have HR:Hid (∀ (i:Nat) (h:i < rs.length),ve w b (off + i * 5) rs[i]):=hr;have HO:Hid (∀ r ∈ rs,r.ok w):=hok;obtain ⟨t0,t1,t2,t3,t4⟩:=hr n hn;obtain ⟨l1,l2⟩:=hl rs[n] (List.getElem_mem hn);have hn1:=bR n;have hn2:(n:Int) < (rs.length:Int):=by omega
  have HT:Hid (aH (au rs) n=bZ (dA (au rs) n) rs[n].e.kids.reverse ((n:Int) - 1)):=by show _=_; rw [iL,mg rs n hn]
  have HL:Hid (∀ r ∈ rs,r.e.light):=hl;clear ih hr hok hl l1;go_enter func114,ntmps114;go_wp2_with fail;go_loopw [5,6] (fun a i wr=>∃ (j:Nat) (x:Int),j≤rs[n].e.kids.length∧i=.int .i64 ((j:Int) - 1)∧a=.int .i64 x∧-1≤x∧x < n∧Hid (bZ (dA (au rs) n) (rs[n].e.kids.take j).reverse x=aH (au rs) n)∧Below w.heap.size w wr) (fun _ i _=>(intOf i + 1).toNat);case atStart=>exact ⟨rs[n].e.kids.length,(n:Int) - 1,Nat.le_refl _,rfl,rfl,by omega,by omega,(by show _=_; rw [List.take_length]; exact HT.out.symm),Below.refl _ _⟩
  case round =>
   obtain ⟨j,x,hj,rfl,rfl,hx0,hx1,HG,hB⟩:=hrel;have s4:=kept hB hb t4;by_cases hj0:0 < j
   ·obtain ⟨j,rfl⟩:∃ i,j=i + 1:=⟨j - 1,by omega⟩;have hjl:j < rs[n].e.kids.length:=by omega
    rcases (HO.out rs[n] (List.getElem_mem hn)).2.below hB with hnil | ⟨bk,offk,hadk,hbk,hrk⟩
    ·rw [hnil] at hjl; simp at hjl
    rw [hadk] at s4;have k0:=hrk j hjl;clear hrk;have hji:((j + 1:Nat):Int) - 1=(j:Int):=by omega
    have hj1:=bR j;have hj2:(j:Int) < (rs[n].e.kids.length:Int):=by omega
    have HG2:Hid ((if x < 0 ∨ rs[n].e.kids[j] ≠ x then -1 else if dA (au rs) n x < 0 then -1 else bZ (dA (au rs) n) (rs[n].e.kids.take j).reverse (dA (au rs) n x - 1))=aH (au rs) n):=by
     have:=HG.out;rw [List.take_succ_eq_append_getElem hjl,List.reverse_append] at this;exact this
    rw [hji];clear HG hadk t0 t1 t2 t3 t4;by_cases hxn:x < 0
    ·have HT1:Hid (aH (au rs) n=-1):=by show _=_; rw [← HG2.out,if_pos (Or.inl hxn)]
     go_wp2;go_ret;exact ⟨by rw [HT1.out]; rfl,hB⟩
    by_cases hkx:rs[n].e.kids[j]=x
    ·obtain ⟨m,rfl⟩:∃ m:Nat,x=(m:Int):=⟨x.toNat,by omega⟩;have hF:dA (au rs) n (m:Int)=aH (au rs) m:=by unfold dA; rw [if_pos ⟨by omega,by simp; omega⟩]; simp
     have HF:Hid (dA (au rs) n (m:Int)=aH (au rs) m):=hF;have hle:=kZ (au rs) m;clear hF;go_wp2_with fail;refine (IH.out m (by omega) _ (by omega) (Nat.lt_of_lt_of_le hb hB.size) (fun i hi=>(HR.out i hi).same fun o=>hB.cell (p:=⟨b,o,none⟩) hb) (fun r hr=>(HO.out r hr).below hB)).mono ?_;rintro e w1 ⟨rfl,hb1⟩;have hB1:Below w.heap.size w w1:=hB.trans (hb1.mono hB.size);clear hb1;by_cases hneg:aH (au rs) m < 0
     ·have HT1:Hid (aH (au rs) n=-1):=by show _=_; rw [← HG2.out,if_neg (by omega),HF.out,if_pos hneg]
      go_wp2;go_ret;exact ⟨by rw [HT1.out]; rfl,hB1⟩
     ·have HG3:Hid (bZ (dA (au rs) n) (rs[n].e.kids.take j).reverse (aH (au rs) m - 1)=aH (au rs) n):=by
       show _=_;rw [← HG2.out,if_neg (by omega),HF.out,if_neg hneg]
      go_wp2;go_roundw;case rel=>exact ⟨j,aH (au rs) m - 1,by omega,by go_num,rfl,by omega,by omega,HG3,hB1⟩
      case measure=>simp [intOf] <;> omega
    ·have HT1:Hid (aH (au rs) n=-1):=by show _=_; rw [← HG2.out,if_pos (Or.inr hkx)]
     go_wp2;go_ret;exact ⟨by rw [HT1.out]; rfl,hB⟩
   ·obtain rfl:j=0:=by omega
    have HT1:Hid (aH (au rs) n=x + 1):=by show _=_; have:=HG.out; simp [bZ] at this; exact this.symm
    clear HG t0 t1 t2 t3 t4;go_wp2;go_ret;exact ⟨by rw [HT1.out]; rfl,hB⟩
theorem ve.later {w w':World} {b off:Nat} {r:ER} (h:ve w b off r) (hb:b < w.heap.size) (hB:Below w.heap.size w w'):ve w' b off r:=h.same fun o=>hB.cell (p:=⟨b,o,none⟩) hb
theorem yR {es:List Ex} (h:¬ (1≤es.length∧es.length≤15)):aS es=false:=by
 unfold aS;by_cases h1:1≤es.length
 ·have h2:¬ es.length≤15:=fun h2=>h ⟨h1,h2⟩;simp [h2]
 ·simp [h1]
theorem Dq {es:List Ex} (k:Nat) (h:k < es.length) (hb:ay es[k]=false):aS es=false:=by simp [aS,yN es k h hb]
theorem Dr {es:List Ex} (k:Nat) (h:k < es.length) (hb:jS es k=false):aS es=false:=by simp [aS,Ie es k h hb]
def mh (zs:List Int) (i j:Nat):Bool:=(zs.take j).all fun k=>decide (0≤k) && decide (k≤(i:Int) - 1)
theorem Ab (zs:List Int) (i j:Nat) (h:j < zs.length):mh zs i (j + 1)=(mh zs i j && (decide (0≤zs[j]) && decide (zs[j]≤(i:Int) - 1))):=by
 unfold mh; rw [List.take_succ_eq_append_getElem h,List.all_append]; simp
theorem Bw (zs:List Int) (i j:Nat) (h:j < zs.length) (hb:(decide (0≤zs[j]) && decide (zs[j]≤(i:Int) - 1))=false):(zs.all fun k=>decide (0≤k) && decide (k≤(i:Int) - 1))=false:=by
 rw [Bool.eq_false_iff]; intro h2; rw [List.all_eq_true] at h2; have:=h2 zs[j] (List.getElem_mem h); rw [hb] at this; cases this
set_option maxRecDepth 4000 in
theorem vY (b off cap:Nat) (rs:List ER) (w:World) (hlen:rs.length≤1048576) (hl:∀ r ∈ rs,r.e.light) (hf:∀ r ∈ rs,r.e.fits) (hb:b < w.heap.size) (hr:∀ (i:Nat) (h:i < rs.length),ve w b (off + i * 5) rs[i]) (hok:∀ r ∈ rs,r.ok w) :
  Calls prog 79 #[.slice (some ⟨b,off,none⟩) rs.length cap] w fun e w'=>e=.returned (.bool (aS (au rs)))∧Below w.heap.size w w':=by
 have hel:=bq rs;have HEL:Hid ((au rs).length=rs.length):=hel;have HL:Hid (∀ r ∈ rs,r.e.light):=hl;have HF:Hid (∀ r ∈ rs,r.e.fits):=hf;have HR:Hid (∀ (i:Nat) (h:i < rs.length),ve w b (off + i * 5) rs[i]):=hr;have HO:Hid (∀ r ∈ rs,r.ok w):=hok;clear hel hl hf hr hok;by_cases hn:1≤rs.length∧rs.length≤15
 ·obtain ⟨hn1,hn2⟩:=hn;go_enter func79,ntmps79;go_wp2_with fail;go_loopw [3,4] (fun o i wr=>∃ k:Nat,k≤rs.length∧i=.int .i64 k∧o=.int .i64 (eQ (au rs) k:Nat)∧Hid (gY (au rs) k=true∧gZ (au rs) k=true)∧Below w.heap.size w wr) (fun _ i _=>rs.length - (intOf i).toNat);case atStart=>exact ⟨0,Nat.zero_le _,rfl,rfl,⟨by simp [gY],by simp [gZ]⟩,Below.refl _ _⟩
  case round =>
   obtain ⟨k,hk,rfl,rfl,HU,hB⟩:=hrel;by_cases hlt:k < rs.length
   ·have hltE:k < (au rs).length:=by rw [HEL.out]; exact hlt
    have hek:(au rs)[k]=rs[k].e:=by simp [au]
    have HEK:Hid ((au rs)[k]=rs[k].e):=hek;obtain ⟨t0,t1,t2,t3,t4⟩:=(HR.out k hlt).later hb hB;clear hek;have hk1:=bR k;have hk2:(k:Int) < (rs.length:Int):=by omega
    have hol:=qU (au rs) k;go_wp2_with fail;refine (Aa rs[k] _ (HF.out _ (List.getElem_mem hlt)) ((HO.out _ (List.getElem_mem hlt)).below hB)).mono ?_;rintro e w1 ⟨rfl,hb1⟩;cases hnode:ay rs[k].e with
    | false =>
     have HN:Hid (aS (au rs)=false):=Dq k hltE (by rw [HEK.out]; exact hnode);go_wp2;go_ret;exact ⟨by rw [HN.out]; rfl,hB.trans (hb1.mono hB.size)⟩
    | true =>
     have hB1:Below w.heap.size w w1:=hB.trans (hb1.mono hB.size);have hbw:b < wr.heap.size:=Nat.lt_of_lt_of_le hb hB.size;replace t0:=kept hb1 hbw t0;replace t4:=kept hb1 hbw t4;have hbw1:b < w1.heap.size:=Nat.lt_of_lt_of_le hbw hb1.size;clear t1 t2 t3 hb1 hB hbw;go_wp2_with fail;go_loopw [5] (fun i w2=>∃ j:Nat,j≤rs[k].e.kids.length∧i=.int .i64 j∧Hid (mh rs[k].e.kids k j=true)∧w2=w1) (fun i _=>rs[k].e.kids.length - (intOf i).toNat);case atStart=>exact ⟨0,Nat.zero_le _,rfl,(by show _=_; simp [mh]),rfl⟩
     case round =>
      obtain ⟨j,hj,rfl,HP,rfl⟩:=hrel;by_cases hjl:j < rs[k].e.kids.length
      ·rcases (HO.out rs[k] (List.getElem_mem hlt)).2.below hB1 with hnil | ⟨bk,offk,hadk,hbk,hrk⟩
       ·rw [hnil] at hjl; simp at hjl
       have t4':=t4;rw [hadk] at t4';have k0:=hrk j hjl;have hj1:=bR j;have hj2:(j:Int) < (rs[k].e.kids.length:Int):=by omega
       obtain ⟨-,lk⟩:=HL.out rs[k] (List.getElem_mem hlt);clear hrk hadk t4;go_wp2_with fail;refine (vV _ _ _ _).mono ?_;rintro e w' ⟨rfl,rfl⟩;cases hin:(decide (0≤rs[k].e.kids[j]) && decide (rs[k].e.kids[j]≤(k:Int) - 1)) with
       | false =>
        have HN:Hid (aS (au rs)=false):=Dr k hltE (by unfold jS; rw [mg rs k hlt]; exact Bw _ k j hjl hin);go_wp2;go_ret;exact ⟨by rw [HN.out]; rfl,hB1⟩
       | true =>
        have HP2:Hid (mh rs[k].e.kids k (j + 1)=true):=by show _=_; rw [Ab _ _ _ hjl,HP.out,hin]; rfl
        go_wp2;go_roundw;case rel=>exact ⟨j + 1,by omega,by go_num,HP2,by first | rfl | trivial⟩
        case measure=>simp [intOf] <;> omega
      ·obtain rfl:j=rs[k].e.kids.length:=by omega
       have HU2:Hid (gY (au rs) (k + 1)=true∧gZ (au rs) (k + 1)=true):=by
        refine ⟨?_,?_⟩
        ·rw [qV _ _ hltE,HU.out.1,HEK.out,hnode]; rfl
        ·rw [Bt,HU.out.2];unfold jS;rw [mg rs k hlt];have:=HP.out;unfold mh at this;rw [List.take_length] at this;rw [this]; rfl
       have HOW:Hid (eQ (au rs) (k + 1)=eQ (au rs) k + (if rs[k].e.kind=1 then 1 else 0)):=by show _=_; rw [vL _ _ hltE,HEK.out]
       by_cases hk1':rs[k].e.kind=1
       ·have HOW2:Hid (eQ (au rs) (k + 1)=eQ (au rs) k + 1):=by show _=_; rw [HOW.out,if_pos hk1']
        clear HOW;go_wp2;go_roundw;case rel=>exact ⟨k + 1,by omega,by go_num,by rw [HOW2.out]; go_num,HU2,hB1⟩
        case measure=>simp [intOf] <;> omega
       ·have HOW2:Hid (eQ (au rs) (k + 1)=eQ (au rs) k):=by show _=_; rw [HOW.out,if_neg hk1']; rfl
        clear HOW;go_wp2;go_roundw;case rel=>exact ⟨k + 1,by omega,by go_num,by rw [HOW2.out],HU2,hB1⟩
        case measure=>simp [intOf] <;> omega
   ·obtain rfl:k=rs.length:=by omega
    have HN:Hid ((au rs).all ay=true):=by
     have:=HU.out.1;unfold gY at this;rwa [← HEL.out,List.take_length] at this
    have HKU:Hid (gZ (au rs) rs.length=true):=HU.out.2;have HOW:Hid (eQ (au rs) rs.length=own (au rs)):=by show _=_; unfold eQ; rw [← HEL.out,List.take_length]
    have hol:=qU (au rs) rs.length;by_cases ho:eQ (au rs) rs.length≤1
    ·have HS:Hid (aS (au rs)=decide (aH (au rs) (rs.length - 1)=0)):=by
      show _=_;have h1:own (au rs)≤1:=by rw [← HOW.out]; exact ho
      have e1:=HEL.out;unfold aS;rw [e1,HN.out,HKU.out];simp [h1,hn1,hn2]
     have hcast:((rs.length:Int) - 1)=((rs.length - 1:Nat):Int):=by omega
     have HCA:Hid (((rs.length:Int) - 1)=((rs.length - 1:Nat):Int)):=hcast;clear hcast;go_wp2_with fail;rw [HCA.out];refine (Dn b off cap rs hlen HL.out (rs.length - 1) _ (by omega) (Nat.lt_of_lt_of_le hb hB.size) (fun i hi=>(HR.out i hi).later hb hB) (fun r hr=>(HO.out r hr).below hB)).mono ?_;rintro e w1 ⟨rfl,hb1⟩;go_wp2;go_ret;exact ⟨by rw [HS.out]; exact ag (by rw [Bool.eq_iff_iff]; simp),hB.trans (hb1.mono hB.size)⟩
    ·have HS:Hid (aS (au rs)=false):=by
      show _=_;have h1:¬ own (au rs)≤1:=by rw [← HOW.out]; exact ho
      simp [aS,h1]
     go_wp2;go_ret;exact ⟨by rw [HS.out]; rfl,hB⟩
 ·have HN:Hid (aS (au rs)=false):=yR (by rw [HEL.out]; exact hn);go_enter func79,ntmps79;go_wp2_with fail
  all_goals go_ret
  all_goals exact ⟨by rw [HN.out]; rfl,Below.refl _ _⟩
theorem ik (ad:Option Addr) (cap:Nat) (rs:List ER) (w:World) (hlen:rs.length≤1048576) (hl:∀ r ∈ rs,r.e.light) (hf:∀ r ∈ rs,r.e.fits) (hs:kX w ad rs) :
  Calls prog 79 #[.slice ad rs.length cap] w fun e w'=>e=.returned (.bool (aS (au rs)))∧Below w.heap.size w w':=by
 rcases hs with rfl | ⟨b,off,rfl,hb,hr,hok⟩
 ·go_enter func79,ntmps79;go_wp2_with fail;go_ret;exact ⟨rfl,Below.refl _ _⟩
 ·exact vY b off cap rs w hlen hl hf hb hr hok
theorem nG {a b:ByteArray} (h:a=b):Ending.returned (.string a)=.returned (.string b):=by rw [h]
theorem oO (a:ByteArray):(⟨#[]⟩:ByteArray) ++ a=a:=by apply gM; simp [ByteArray.data_append]
theorem uf (a:Al) (w:World) (h1:a.t.size≤12) (h2:a.s.size≤12) :
  Calls prog 181 #[.agg #[.string a.t,.string a.s]] w fun e w'=>e=.returned (.string (dV a))∧Below w.heap.size w w':=by
 have hB:=(Below.refl w.heap.size w).alloc (Nat.le_refl _) (.cells #[.string a.t,.string a.s] 149);cases he:a.s.toList.isEmpty with
 | true =>
  go_enter func181,ntmps181;go_wp2;go_ret;exact ⟨nG (by simp [dV,he]),hB⟩
 | false =>
  go_enter func181,ntmps181;go_wp2;go_ret;exact ⟨nG (by simp [dV,he]),hB⟩
theorem iP (k:Int) (w:World) :
  Calls prog 168 #[.int .i64 k] w fun e w'=>e=.returned (.string (eT k))∧w'=w:=by
 by_cases h4:k=4
 ·subst h4;go_enter func168,ntmps168;go_wp2;go_ret;exact ⟨rfl,rfl⟩
 by_cases h5:k=5
 ·subst h5;go_enter func168,ntmps168;go_wp2;go_ret;exact ⟨rfl,rfl⟩
 ·have HS:Hid (eT k=⟨#[32,45,32]⟩):=by show _=_; simp [eT,h4,h5]
  go_enter func168,ntmps168;go_wp2;go_ret;exact ⟨by rw [HS.out]; rfl,rfl⟩
theorem Ac {α:Type} {xs:List α} {k:Nat} (h:k≤xs.length):xs.take k=[] ↔ k=0:=by
 constructor
 ·intro e;have:=congrArg List.length e;rw [List.length_take,List.length_nil] at this;omega
 ·rintro rfl; simp
theorem kH (sep:ByteArray) (xs:List ByteArray):dS sep (xs.take 0)=⟨#[]⟩:=by simp [yO]
theorem vZ (sep:ByteArray) (xs:List ByteArray) (h:0 < xs.length):dS sep (xs.take 1)=⟨#[]⟩ ++ xs[0]:=by
 rw [show (1:Nat)=0 + 1 from rfl,List.take_succ_eq_append_getElem h,lZ,if_pos (by simp),oO]
theorem ug (sep:ByteArray) (xs:List ByteArray) (k:Nat) (h:k < xs.length) (hk:0 < k):dS sep (xs.take (k + 1))=dS sep (xs.take k) ++ sep ++ xs[k]:=by
 rw [List.take_succ_eq_append_getElem h,lZ,if_neg];rw [Ac (by omega)]; omega
theorem uh (sep:ByteArray) (xs:List ByteArray) (b k:Nat) (hx:∀ x ∈ xs,x.size≤b):(dS sep (xs.take k)).size≤k * (b + sep.size):=by
 have h1:=l7 sep b _ (xs.take k) rfl (fun x h=>hx x (List.mem_of_mem_take h));have h2:(xs.take k).length * (b + sep.size)≤k * (b + sep.size):=Nat.mul_le_mul_right _ (by simp; omega);omega
theorem yS {es:List Ex} (hes:KA es) (n:Nat) (hn:n < es.length) (i:Bool):(gq es n i).size≤20000000000000 :=
 Nat.le_trans (De hes n hn i) (Nat.le_trans (yP (by have:=hes.1; omega)) Kz)
set_option maxRecDepth 4000 in
theorem Dt (b off cap:Nat) (rs:List ER) (hes:KA (au rs)) (hl:∀ r ∈ rs,r.e.light) (n:Nat):∀ (inside:Bool) (w:World),n < rs.length→b < w.heap.size→(∀ (i:Nat) (h:i < rs.length),ve w b (off + i * 5) rs[i])→(∀ r ∈ rs,r.ok w) →
  Calls prog 171 #[.slice (some ⟨b,off,none⟩) rs.length cap,.int .i64 (n:Int),.bool inside] w fun e w'=>e=.returned (.string (gq (au rs) n inside))∧Below w.heap.size w w':=by
 have HES:Hid (KA (au rs)):=hes;have HL:Hid (∀ r ∈ rs,r.e.light):=hl;have h15:rs.length≤15:=by have:=hes.1; rw [bq] at this; exact this
 clear hes hl
 induction n using Nat.strongRecOn with
 | ind n ih =>
  intro inside w hn hb hr hok
  have IH:Hid (∀ m,m < n→∀ (inside:Bool) (w:World),m < rs.length→b < w.heap.size→(∀ (i:Nat) (h:i < rs.length),ve w b (off + i * 5) rs[i])→(∀ r ∈ rs,r.ok w) →
   Calls prog 171 #[.slice (some ⟨b,off,none⟩) rs.length cap,.int .i64 (m:Int),.bool inside] w fun e w'=>e=.returned (.string (gq (au rs) m inside))∧Below w.heap.size w w'):=ih
  have HR:Hid (∀ (i:Nat) (h:i < rs.length),ve w b (off + i * 5) rs[i]):=hr;have HO:Hid (∀ r ∈ rs,r.ok w):=hok;obtain ⟨t0,t1,t2,t3,t4⟩:=hr n hn;have hnE:n < (au rs).length:=by rw [bq]; exact hn
  have heE:(au rs)[n]=rs[n].e:=by simp [au]
  have hnode:ay rs[n].e=true:=by rw [← heE]; exact HES.out.2.1 n hnE
  have hkl:=qX HES.out hnE;rw [heE] at hkl;obtain ⟨hk5,hkind⟩:=qo hnode;have HT:Hid (gq (au rs) n inside=inT rs[n].e inside (jU (ic (au rs) n) rs[n].e)):=by show _=_; unfold gq; rw [zY hnE,heE]
  have HN:Hid (ay rs[n].e=true):=hnode;have HKL:Hid (∀ k ∈ rs[n].e.kids,0≤k∧k.toNat < n):=hkl;have hn1:=bR n;have hn2:(n:Int) < (rs.length:Int):=by omega
  clear ih hr hok hnode hkl heE;by_cases k1:rs[n].e.kind=1
  ·skip
   obtain ⟨W,hW⟩:∃ W,W=w.alloc (.cells #[.int .i64 1,.slice rs[n].adA rs[n].e.allow.length rs[n].capA,.string rs[n].e.over,.string rs[n].e.name,.slice rs[n].adK rs[n].e.kids.length rs[n].capK] 139):=⟨_,rfl⟩;have hB0:Below w.heap.size w W:=by rw [hW]; exact (Below.refl _ _).alloc (Nat.le_refl _) _
   have hgl:w.heap.size < W.heap.size:=by rw [hW]; simp
   have g0:W.cell? ⟨w.heap.size,0,none⟩=some (.int .i64 1):=by rw [hW]; simp
   have g1:W.cell? ⟨w.heap.size,1,none⟩=some (.slice rs[n].adA rs[n].e.allow.length rs[n].capA):=by rw [hW]; simp
   have g2:W.cell? ⟨w.heap.size,2,none⟩=some (.string rs[n].e.over):=by rw [hW]; simp
   have g3:W.cell? ⟨w.heap.size,3,none⟩=some (.string rs[n].e.name):=by rw [hW]; simp
   have g4:W.cell? ⟨w.heap.size,4,none⟩=some (.slice rs[n].adK rs[n].e.kids.length rs[n].capK):=by rw [hW]; simp
   have HB0:Hid (Below w.heap.size w W):=hB0;clear hB0;have hal:dB rs[n].e.allow=true:=by
    have:=HN.out;unfold ay at this;rw [if_pos k1] at this;simp only [Bool.and_eq_true] at this;exact this.1.1.1
   have hts:=jc hal;have HAL:Hid (dB rs[n].e.allow=true):=hal;have HT1:Hid (gq (au rs) n inside=qW rs[n].e.allow):=by show _=_; rw [HT.out]; simp [inT,jU,k1]
   have hl6:rs[n].e.allow.length≤6:=by unfold dB at hal; simp at hal; exact hal.1.2
   have HAS:Hid (∀ x ∈ rs[n].e.allow.map dV,x.size≤25):=fun x hx=>by
    obtain ⟨a,ha,rfl⟩:=List.mem_map.1 hx;obtain ⟨i,hi,rfl⟩:=List.getElem_of_mem ha;unfold dB at hal;simp only [Bool.and_eq_true] at hal;exact nC (vg hal.2 i hi hi)
   clear hal HT;go_enter func171,ntmps171;go_wp2_with fail;rw [← hW];clear hW t0 t1 t2 t3 t4;go_loopw [8,9] (fun s i wr=>∃ k:Nat,k≤rs[n].e.allow.length∧i=.int .i64 k∧s=.string (dS ⟨#[44]⟩ ((rs[n].e.allow.map dV).take k))∧Below W.heap.size W wr) (fun _ i _=>rs[n].e.allow.length - (intOf i).toNat);case atStart=>exact ⟨0,Nat.zero_le _,rfl,by rw [kH],Below.refl _ _⟩
   case round =>
    obtain ⟨k,hk,rfl,rfl,hB⟩:=hrel;have hBw:Below w.heap.size w wr:=HB0.out.trans (hB.mono HB0.out.size);have a1:=kept hB hgl g1;have hsj:(dS ⟨#[44]⟩ ((rs[n].e.allow.map dV).take k)).size≤200:=by
     have h:=uh ⟨#[44]⟩ (rs[n].e.allow.map dV) 25 k HAS.out;have e1:(⟨#[44]⟩:ByteArray).size=1:=rfl;rw [e1] at h;omega
    by_cases hlt:k < rs[n].e.allow.length
    ·rcases (HO.out rs[n] (List.getElem_mem hn)).1.below hBw with hnil | ⟨ba,offa,hadA,hba,hra⟩
     ·rw [hnil] at hlt; simp at hlt
     rw [hadA] at a1;obtain ⟨q0,q1⟩:=hra k hlt;have hab:Br rs[n].e.allow[k]=true:=by
      have:=HAL.out;unfold dB at this;simp only [Bool.and_eq_true] at this;exact vg this.2 k hlt hlt
     have z2:=nC hab;unfold Br at hab;rw [Bool.and_eq_true] at hab;have z0:=bu hab.1;have z1:=vO hab.2;have hk1:=bR k;have hk2:(k:Int) < (rs[n].e.allow.length:Int):=by omega
     clear hra hadA hab;by_cases hk0:0 < k
     ·have hk3:(0:Int) < (k:Int):=by omega
      have HJ:Hid (dS ⟨#[44]⟩ ((rs[n].e.allow.map dV).take (k + 1))=dS ⟨#[44]⟩ ((rs[n].e.allow.map dV).take k) ++ ⟨#[44]⟩ ++ dV rs[n].e.allow[k]):=by show _=_; rw [ug _ _ _ (by simpa using hlt) hk0,List.getElem_map]
      go_wp2_with fail;refine (uf rs[n].e.allow[k] _ z0 z1).mono ?_;rintro e w1 ⟨rfl,hb1⟩;have hB1:Below W.heap.size W w1:=hB.trans (hb1.mono hB.size);clear hb1;go_wp2;go_roundw;case rel=>exact ⟨k + 1,by omega,by go_num,by rw [HJ.out],hB1⟩
      case measure=>simp [intOf] <;> omega
     ·skip
      have hk3:¬ (0:Int) < (k:Int):=by omega
      have HJ:Hid (dS ⟨#[44]⟩ ((rs[n].e.allow.map dV).take (k + 1))=dS ⟨#[44]⟩ ((rs[n].e.allow.map dV).take k) ++ dV rs[n].e.allow[k]):=by
       show _=_;obtain rfl:k=0:=by omega
       rw [kH,vZ _ _ (by simpa using hlt),List.getElem_map]
      go_wp2_with fail;refine (uf rs[n].e.allow[k] _ z0 z1).mono ?_;rintro e w1 ⟨rfl,hb1⟩;have hB1:Below W.heap.size W w1:=hB.trans (hb1.mono hB.size);clear hb1;go_wp2;go_roundw;case rel=>exact ⟨k + 1,by omega,by go_num,by rw [HJ.out],hB1⟩
      case measure=>simp [intOf] <;> omega
    ·obtain rfl:k=rs[n].e.allow.length:=by omega
     have HE:Hid ((rs[n].e.allow.map dV).take rs[n].e.allow.length=rs[n].e.allow.map dV):=by show _=_; rw [List.take_of_length_le (by simp)]
     go_wp2;go_ret;exact ⟨by rw [HT1.out]; exact nG (by rw [HE.out]; rfl),hBw⟩
  by_cases k2:rs[n].e.kind=2
  ·have HT1:Hid (gq (au rs) n inside=rs[n].e.name):=by show _=_; rw [HT.out]; simp [inT,jU,k2]
   clear HT;go_enter func171,ntmps171;go_wp2;go_ret;exact ⟨by rw [HT1.out]; rfl,(Below.refl _ _).alloc (Nat.le_refl _) _⟩
  by_cases k3:rs[n].e.kind=3
  ·have HT1:Hid (gq (au rs) n inside=rs[n].e.over ++ ⟨#[45,62]⟩ ++ rs[n].e.name):=by show _=_; rw [HT.out]; simp [inT,jU,k3]
   have hsz:rs[n].e.over.size≤12∧rs[n].e.name.size≤12:=by
    have:=HN.out;unfold ay at this;rw [if_neg k1,if_neg k2,if_pos k3] at this;simp only [Bool.and_eq_true] at this;exact ⟨bu this.1.1.1,bu this.1.1.2⟩
   obtain ⟨z0,z1⟩:=hsz;clear HT;go_enter func171,ntmps171;go_wp2;go_ret;exact ⟨by rw [HT1.out]; rfl,(Below.refl _ _).alloc (Nat.le_refl _) _⟩
  ·skip
   obtain ⟨W,hW⟩:∃ W,W=w.alloc (.cells #[.int .i64 rs[n].e.kind,.slice rs[n].adA rs[n].e.allow.length rs[n].capA,.string rs[n].e.over,.string rs[n].e.name,.slice rs[n].adK rs[n].e.kids.length rs[n].capK] 139):=⟨_,rfl⟩;have hB0:Below w.heap.size w W:=by rw [hW]; exact (Below.refl _ _).alloc (Nat.le_refl _) _
   have hgl:w.heap.size < W.heap.size:=by rw [hW]; simp
   have g0:W.cell? ⟨w.heap.size,0,none⟩=some (.int .i64 rs[n].e.kind):=by rw [hW]; simp
   have g1:W.cell? ⟨w.heap.size,1,none⟩=some (.slice rs[n].adA rs[n].e.allow.length rs[n].capA):=by rw [hW]; simp
   have g2:W.cell? ⟨w.heap.size,2,none⟩=some (.string rs[n].e.over):=by rw [hW]; simp
   have g3:W.cell? ⟨w.heap.size,3,none⟩=some (.string rs[n].e.name):=by rw [hW]; simp
   have g4:W.cell? ⟨w.heap.size,4,none⟩=some (.slice rs[n].adK rs[n].e.kids.length rs[n].capK):=by rw [hW]; simp
   have HB0:Hid (Below w.heap.size w W):=hB0;clear hB0;have HT1:Hid (gq (au rs) n inside=if inside then ⟨#[40]⟩ ++ dS (eT rs[n].e.kind) (rs[n].e.kids.map (ic (au rs) n)) ++ ⟨#[41]⟩ else dS (eT rs[n].e.kind) (rs[n].e.kids.map (ic (au rs) n))):=by
    show _=_; rw [HT.out]; simp [inT,jU,k1,k2,k3]
   have HTS:Hid (∀ x ∈ rs[n].e.kids.map (ic (au rs) n),x.size≤20000000000000):=fun x hx=>by
    obtain ⟨k,hk,rfl⟩:=List.mem_map.1 hx;have hlt:=HKL.out k hk;unfold ic;rw [if_pos hlt.2,zX];exact yS HES.out _ (by rw [bq]; omega) true
   have kb1:(rs[n].e.kind == 1)=false:=by simpa using k1
   have kb2:(rs[n].e.kind == 2)=false:=by simpa using k2
   have kb3:(rs[n].e.kind == 3)=false:=by simpa using k3
   clear HT hkind;go_enter func171,ntmps171;go_wp2_with fail;rw [← hW];clear hW t0 t1 t2 t3 t4;go_loopw [8,10] (fun s i wr=>∃ k:Nat,k≤rs[n].e.kids.length∧i=.int .i64 k∧s=.string (dS (eT rs[n].e.kind) ((rs[n].e.kids.map (ic (au rs) n)).take k))∧Below W.heap.size W wr) (fun _ i _=>rs[n].e.kids.length - (intOf i).toNat);case atStart=>exact ⟨0,Nat.zero_le _,rfl,by rw [kH],Below.refl _ _⟩
   case round =>
    obtain ⟨k,hk,rfl,rfl,hB⟩:=hrel;have hBw:Below w.heap.size w wr:=HB0.out.trans (hB.mono HB0.out.size);have hbw:b < wr.heap.size:=Nat.lt_of_lt_of_le hb hBw.size;have a0:=kept hB hgl g0;have a4:=kept hB hgl g4;have hsg:=jT rs[n].e.kind;have hsj:(dS (eT rs[n].e.kind) ((rs[n].e.kids.map (ic (au rs) n)).take k)).size≤100000000000100:=by
     have h:=uh (eT rs[n].e.kind) (rs[n].e.kids.map (ic (au rs) n)) 20000000000000 k HTS.out;rw [hsg] at h;omega
    by_cases hlt:k < rs[n].e.kids.length
    ·rcases (HO.out rs[n] (List.getElem_mem hn)).2.below hBw with hnil | ⟨bk,offk,hadK,hbk,hrk⟩
     ·rw [hnil] at hlt; simp at hlt
     rw [hadK] at a4;have q0:=hrk k hlt;obtain ⟨hz0,hz1⟩:=HKL.out rs[n].e.kids[k] (List.getElem_mem hlt);obtain ⟨m,hm⟩:∃ m:Nat,rs[n].e.kids[k]=(m:Int):=⟨rs[n].e.kids[k].toNat,by omega⟩;rw [hm] at q0 hz1;have hmn:m < n:=by simpa using hz1
     have hmr:m < rs.length:=by omega
     have HFm:Hid (ic (au rs) n rs[n].e.kids[k]=gq (au rs) m true):=by show _=_; rw [hm]; unfold ic; rw [if_pos (by simpa using hmn),zX]; simp
     have hsm:=yS HES.out m (by rw [bq]; exact hmr) true;have hk1:=bR k;have hk2:(k:Int) < (rs[n].e.kids.length:Int):=by omega
     clear hrk hadK hz0 hz1 hm;by_cases hk0:0 < k
     ·have hk3:(0:Int) < (k:Int):=by omega
      have HJ:Hid (dS (eT rs[n].e.kind) ((rs[n].e.kids.map (ic (au rs) n)).take (k + 1))=dS (eT rs[n].e.kind) ((rs[n].e.kids.map (ic (au rs) n)).take k) ++ eT rs[n].e.kind ++ gq (au rs) m true):=by show _=_; rw [ug _ _ _ (by simpa using hlt) hk0,List.getElem_map,HFm.out]
      go_wp2_with fail;refine (iP _ _).mono ?_;rintro e w' ⟨rfl,rfl⟩;go_wp2_with fail;refine (IH.out m hmn true _ hmr hbw (fun i hi=>(HR.out i hi).later hb hBw) (fun r hr=>(HO.out r hr).below hBw)).mono ?_;rintro e w1 ⟨rfl,hb1⟩;have hB1:Below W.heap.size W w1:=hB.trans (hb1.mono hB.size);clear hb1;go_wp2;go_roundw;case rel=>exact ⟨k + 1,by omega,by go_num,by rw [HJ.out],hB1⟩
      case measure=>simp [intOf] <;> omega
     ·skip
      have hk3:¬ (0:Int) < (k:Int):=by omega
      have HJ:Hid (dS (eT rs[n].e.kind) ((rs[n].e.kids.map (ic (au rs) n)).take (k + 1))=dS (eT rs[n].e.kind) ((rs[n].e.kids.map (ic (au rs) n)).take k) ++ gq (au rs) m true):=by
       have h0:=HFm.out;show _=_;obtain rfl:k=0:=by omega
       rw [kH,vZ _ _ (by simpa using hlt),List.getElem_map,h0]
      go_wp2_with fail;refine (IH.out m hmn true _ hmr hbw (fun i hi=>(HR.out i hi).later hb hBw) (fun r hr=>(HO.out r hr).below hBw)).mono ?_;rintro e w1 ⟨rfl,hb1⟩;have hB1:Below W.heap.size W w1:=hB.trans (hb1.mono hB.size);clear hb1;go_wp2;go_roundw;case rel=>exact ⟨k + 1,by omega,by go_num,by rw [HJ.out],hB1⟩
      case measure=>simp [intOf] <;> omega
    ·obtain rfl:k=rs[n].e.kids.length:=by omega
     have HE:Hid ((rs[n].e.kids.map (ic (au rs) n)).take rs[n].e.kids.length=rs[n].e.kids.map (ic (au rs) n)):=by show _=_; rw [List.take_of_length_le (by simp)]
     cases inside with
     | true =>
      go_wp2;go_ret;exact ⟨by rw [HT1.out]; exact nG (by rw [HE.out]; rfl),hBw⟩
     | false =>
      go_wp2;go_ret;exact ⟨by rw [HT1.out]; exact nG (by rw [HE.out]; rfl),hBw⟩
def fu (es:List Ex):ByteArray:=if aS es then gq es (es.length - 1) false else ⟨#[]⟩
theorem yT {es:List Ex} (h:aS es=false):fu es=⟨#[]⟩:=by simp [fu,h]
theorem wh {es:List Ex} (h:aS es=true):fu es=gq es (es.length - 1) false:=by simp [fu,h]
theorem lh (ad:Option Addr) (cap:Nat) (rs:List ER) (w:World) (hlen:rs.length≤1048576) (hl:∀ r ∈ rs,r.e.light) (hf:∀ r ∈ rs,r.e.fits) (hs:kX w ad rs) :
  Calls prog 153 #[.slice ad rs.length cap] w fun e w'=>e=.returned (.string (fu (au rs)))∧Below w.heap.size w w':=by
 have HS:Hid (kX w ad rs):=hs;have HL:Hid (∀ r ∈ rs,r.e.light):=hl;have HF:Hid (∀ r ∈ rs,r.e.fits):=hf;clear hs hl hf;go_enter func153,ntmps153;go_wp2_with fail;refine (ik ad cap rs _ hlen HL.out HF.out HS.out).mono ?_;rintro e w1 ⟨he,hb1⟩;have HB1:Hid (Below w.heap.size w w1):=hb1;clear hb1;cases hE:aS (au rs) with
 | false =>
  rw [hE] at he;subst he;have HX:Hid (fu (au rs)=⟨#[]⟩):=yT hE;go_wp2;go_ret;exact ⟨by rw [HX.out]; rfl,HB1.out⟩
 | true =>
  rw [hE] at he;subst he;have h1:1≤rs.length:=by
   have:=hE;unfold aS at this;simp only [Bool.and_eq_true,decide_eq_true_eq,bq] at this;exact this.1.1.1.1.1
  rcases HS.out.below HB1.out with rfl | ⟨b,off,rfl,hb,hr,hok⟩
  ·simp at h1
  have HR:Hid (∀ (i:Nat) (h:i < rs.length),ve w1 b (off + i * 5) rs[i]):=hr;have HO:Hid (∀ r ∈ rs,r.ok w1):=hok;have HOK:Hid (KA (au rs)):=Ig hE;have HX:Hid (fu (au rs)=gq (au rs) (rs.length - 1) false):=by show _=_; rw [wh hE,bq]
  have HCA:Hid (((rs.length:Int) - 1)=((rs.length - 1:Nat):Int)):=by show _=_; omega
  clear hr hok;go_wp2_with fail;rw [HCA.out];refine (Dt b off cap rs HOK.out HL.out (rs.length - 1) false _ (by omega) hb HR.out HO.out).mono ?_;rintro e w2 ⟨rfl,hb2⟩;have HB2:=gW HB1 hb2;clear hb2;go_wp2;go_ret;exact ⟨by rw [HX.out]; rfl,HB2.out⟩
end Go.Proofs.YteoflgocljfgeaaGreatDoor
