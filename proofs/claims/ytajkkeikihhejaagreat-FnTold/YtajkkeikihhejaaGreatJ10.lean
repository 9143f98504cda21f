/- The contract of the document's walk over a tree, and of its look at a whole expression. -/
import Derived.Test.YtajkkeikihhejaaGreatSq
import Derived.Test.YtajkkeikihhejaaGreatJ9
open Go.Proofs.Tryz
set_option maxHeartbeats 80000000
namespace Go.Proofs.YtajkkeikihhejaaGreat
open Go.ChangeShapes Go.WideShapes Go.ChangeAt Go.RowKit
open Pl
theorem oQ (rs:List ER) (n:Nat) (h:n < rs.length):dC (ak rs) n=rs[n].e.kids:=by simp [dC,ak,h]
theorem Ik (b off cap:Nat) (rs:List ER) (hlen:rs.length≤1048576) (hl:∀ r ∈ rs,r.e.light) (n:Nat):∀ (w:af),n < rs.length→b < w.heap.size→(∀ (i:Nat) (h:i < rs.length),yh w b (off + i * 5) rs[i])→(∀ r ∈ rs,r.ok w) →
  Calls prog 191 #[.slice (some ⟨b,off,none⟩) rs.length cap,.int .i64 (n:Int)] w fun e w'=>e=.returned (.int .i64 (ay (ak rs) n))∧ag w w':=by
 induction n using Nat.strongRecOn with
 | ind n ih =>
  intro w hn hb hr hok
  have IH:Hid (∀ m,m < n→∀ (w:World),m < rs.length→b < w.heap.size→(∀ (i:Nat) (h:i < rs.length),yh w b (off + i * 5) rs[i])→(∀ r ∈ rs,r.ok w) →
   Calls prog 191 #[.slice (some ⟨b,off,none⟩) rs.length cap,.int .i64 (m:Int)] w fun e w'=>e=.returned (.int .i64 (ay (ak rs) m))∧ag w w'):=ih
  have HR:Hid (∀ (i:Nat) (h:i < rs.length),yh w b (off + i * 5) rs[i]):=hr;have HO:=az hok;obtain ⟨t0,t1,t2,t3,t4⟩:=hr n hn;obtain ⟨l1,l2⟩:=hl rs[n] (TQ hn);have hn1:=bB n;have hn2:(n:Int) < (rs.length:Int):=by omega
  have HT:Hid (ay (ak rs) n=di (dx (ak rs) n) rs[n].e.kids.reverse ((n:Int) - 1)):=by show _=_; rw [jb,oQ rs n hn]
  have HL:=az hl;clear ih hr hok hl l1;go_enter func191,ntmps191;go_wp2_with fail;go_loopw [5,6] (fun a i wr=>∃ (j:Nat) (x:Int),j≤rs[n].e.kids.length∧i=.int .i64 ((j:Int) - 1)∧a=.int .i64 x∧-1≤x∧x < n∧Hid (di (dx (ak rs) n) (rs[n].e.kids.take j).reverse x=ay (ak rs) n)∧ag w wr) (fun _ i _=>(intOf i + 1).toNat);case atStart=>exact ⟨rs[n].e.kids.length,(n:Int) - 1,TS _,rfl,rfl,by omega,by omega,(by show _=_; rw [Ug]; exact HT.out.symm),TT _ _⟩
  obtain ⟨j,x,hj,rfl,rfl,hx0,hx1,HG,hB⟩:=hrel;have s4:=kept hB hb t4;by_cases hj0:0 < j
  ·obtain ⟨j,rfl⟩:∃ i,j=i + 1:=⟨j - 1,by omega⟩;have hjl:j < rs[n].e.kids.length:=by omega
   rcases (HO.out rs[n] (TQ hn)).2.below hB with hnil | ⟨bk,offk,Xv,hbk,YG⟩
   ·rw [hnil] at hjl; simp at hjl
   rw [Xv] at s4;have k0:=YG j hjl;clear YG;have hji:((j + 1:Nat):Int) - 1=(j:Int):=by omega
   have hj1:=bB j;have hj2:(j:Int) < (rs[n].e.kids.length:Int):=by omega
   have HG2:Hid ((if x < 0 ∨ rs[n].e.kids[j] ≠ x then -1 else if dx (ak rs) n x < 0 then -1 else di (dx (ak rs) n) (rs[n].e.kids.take j).reverse (dx (ak rs) n x - 1))=ay (ak rs) n):=by
    have:=HG.out;rw [TV hjl,List.reverse_append] at this;exact this
   rw [hji];clear HG Xv t0 t1 t2 t3 t4;by_cases hxn:x < 0
   ·have HT1:Hid (ay (ak rs) n=-1):=by show _=_; rw [← HG2.out,if_pos (Or.inl hxn)]
    go_wp2;go_ret;exact ⟨by rw [HT1.out]; rfl,hB⟩
   by_cases hkx:rs[n].e.kids[j]=x
   ·obtain ⟨m,rfl⟩:∃ m:Nat,x=(m:Int):=⟨x.toNat,by omega⟩;have hF:dx (ak rs) n (m:Int)=ay (ak rs) m:=by unfold dx; rw [if_pos ⟨by omega,by simp; omega⟩]; simp
    have HF:Hid (dx (ak rs) n (m:Int)=ay (ak rs) m):=hF;have hle:=iB (ak rs) m;clear hF;go_wp2_with fail;refine (IH.out m (by omega) _ (by omega) (TP hb hB.size) (fun i hi=>(HR.out i hi).same fun o=>hB.cell (p:=⟨b,o,none⟩) hb) (fun r hr=>(HO.out r hr).below hB)).mono ?_;rintro e w1 ⟨rfl,hb1⟩;have hB1:ag w w1:=hB.trans (hb1.mono hB.size);clear hb1;by_cases hneg:ay (ak rs) m < 0
    ·have HT1:Hid (ay (ak rs) n=-1):=by show _=_; rw [← HG2.out,if_neg (by omega),HF.out,if_pos hneg]
     go_wp2;go_ret;exact ⟨by rw [HT1.out]; rfl,hB1⟩
    have Xw:Hid (di (dx (ak rs) n) (rs[n].e.kids.take j).reverse (ay (ak rs) m - 1)=ay (ak rs) n):=by
     show _=_;rw [← HG2.out,if_neg (by omega),HF.out,if_neg hneg]
    go_wp2;go_roundw;case rel=>exact ⟨j,ay (ak rs) m - 1,by omega,by go_num,rfl,by omega,by omega,Xw,hB1⟩
    simp [intOf] <;> omega
   have HT1:Hid (ay (ak rs) n=-1):=by show _=_; rw [← HG2.out,if_pos (Or.inr hkx)]
   go_wp2;go_ret;exact ⟨by rw [HT1.out]; rfl,hB⟩
  obtain rfl:j=0:=by omega
  have HT1:Hid (ay (ak rs) n=x + 1):=by show _=_; have:=HG.out; simp [di] at this; exact this.symm
  clear HG t0 t1 t2 t3 t4;go_wp2;go_ret;exact ⟨by rw [HT1.out]; rfl,hB⟩
theorem yh.later {w w':af} {b off:Nat} {r:ER} (h:yh w b off r) (hb:b < w.heap.size) (hB:ag w w'):yh w' b off r:=h.same fun o=>hB.cell (p:=⟨b,o,none⟩) hb
theorem Cq {es:List Ex} (h:¬ (1≤es.length∧es.length≤15)):aK es=false:=by
 unfold aK;by_cases h1:1≤es.length
 ·have h2:¬ es.length≤15:=fun h2=>h ⟨h1,h2⟩;simp [h2]
 simp [h1]
theorem Il {es:List Ex} (k:Nat) (h:k < es.length) (hb:ax es[k]=false):aK es=false:=by simp [aK,Cj es k h hb]
theorem Im {es:List Ex} (k:Nat) (h:k < es.length) (hb:kI es k=false):aK es=false:=by simp [aK,Nt es k h hb]
def oU (zs:List Int) (i j:Nat):Bool:=(zs.take j).all fun k=>decide (0≤k) && decide (k≤(i:Int) - 1)
theorem Eb (zs:List Int) (i j:Nat) (h:j < zs.length):oU zs i (j + 1)=(oU zs i j && (decide (0≤zs[j]) && decide (zs[j]≤(i:Int) - 1))):=by
 unfold oU; rw [TV h,List.all_append]; simp
theorem FH (zs:List Int) (i j:Nat) (h:j < zs.length) (hb:(decide (0≤zs[j]) && decide (zs[j]≤(i:Int) - 1))=false):(zs.all fun k=>decide (0≤k) && decide (k≤(i:Int) - 1))=false:=by
 rw [Bool.eq_false_iff]; intro h2; rw [Ub] at h2; have:=h2 zs[j] (TQ h); rw [hb] at this; cases this
set_option maxRecDepth 4000 in
theorem zk (b off cap:Nat) (rs:List ER) (w:af) (hlen:rs.length≤1048576) (hl:∀ r ∈ rs,r.e.light) (hf:∀ r ∈ rs,r.e.fits) (hb:b < w.heap.size) (hr:∀ (i:Nat) (h:i < rs.length),yh w b (off + i * 5) rs[i]) (hok:∀ r ∈ rs,r.ok w) :
  Calls prog 135 #[.slice (some ⟨b,off,none⟩) rs.length cap] w fun e w'=>e=.returned (.bool (aK (ak rs)))∧ag w w':=by
 have hel:=aT rs;have Wi:Hid ((ak rs).length=rs.length):=hel;have HL:=az hl;have HF:=az hf;have HR:Hid (∀ (i:Nat) (h:i < rs.length),yh w b (off + i * 5) rs[i]):=hr;have HO:=az hok;clear hel hl hf hr hok;by_cases hn:1≤rs.length∧rs.length≤15
 ·obtain ⟨hn1,hn2⟩:=hn;go_enter func135,ntmps135;go_wp2_with fail;go_loopw [3,4] (fun o i wr=>∃ k:Nat,k≤rs.length∧i=.int .i64 k∧o=.int .i64 (gF (ak rs) k:Nat)∧Hid (jv (ak rs) k=true∧iY (ak rs) k=true)∧ag w wr) (fun _ i _=>rs.length - (intOf i).toNat);case atStart=>exact ⟨0,TW _,rfl,rfl,⟨by simp [jv],by simp [iY]⟩,TT _ _⟩
  obtain ⟨k,hk,rfl,rfl,HU,hB⟩:=hrel;by_cases hlt:k < rs.length
  ·have Ww:k < (ak rs).length:=by rw [Wi.out]; exact hlt
   have hek:(ak rs)[k]=rs[k].e:=by simp [ak]
   have HEK:Hid ((ak rs)[k]=rs[k].e):=hek;obtain ⟨t0,t1,t2,t3,t4⟩:=(HR.out k hlt).later hb hB;clear hek;have hk1:=bB k;have hk2:(k:Int) < (rs.length:Int):=by omega
   have hol:=uq (ak rs) k;go_wp2_with fail;refine (Ea rs[k] _ (HF.out _ (TQ hlt)) ((HO.out _ (TQ hlt)).below hB)).mono ?_;rintro e w1 ⟨rfl,hb1⟩;cases UA:ax rs[k].e;case false=>
    have HN:Hid (aK (ak rs)=false):=Il k Ww (by rw [HEK.out]; exact UA);go_wp2;go_ret;exact ⟨by rw [HN.out]; rfl,hB.trans (hb1.mono hB.size)⟩
   have hB1:ag w w1:=hB.trans (hb1.mono hB.size);have hbw:b < wr.heap.size:=TP hb hB.size;replace t0:=kept hb1 hbw t0;replace t4:=kept hb1 hbw t4;have hbw1:b < w1.heap.size:=TP hbw hb1.size;clear t1 t2 t3 hb1 hB hbw;go_wp2_with fail;go_loopw [5] (fun i w2=>∃ j:Nat,j≤rs[k].e.kids.length∧i=.int .i64 j∧Hid (oU rs[k].e.kids k j=true)∧w2=w1) (fun i _=>rs[k].e.kids.length - (intOf i).toNat);case atStart=>exact ⟨0,TW _,rfl,(by show _=_; simp [oU]),rfl⟩
   obtain ⟨j,hj,rfl,HP,rfl⟩:=hrel;by_cases hjl:j < rs[k].e.kids.length
   ·rcases (HO.out rs[k] (TQ hlt)).2.below hB1 with hnil | ⟨bk,offk,Xv,hbk,YG⟩
    ·rw [hnil] at hjl; simp at hjl
    have t4':=t4;rw [Xv] at t4';have k0:=YG j hjl;have hj1:=bB j;have hj2:(j:Int) < (rs[k].e.kids.length:Int):=by omega
    obtain ⟨-,lk⟩:=HL.out rs[k] (TQ hlt);clear YG Xv t4;go_wp2_with fail;refine (Nz _ _ _ _).mono ?_;rintro e w' ⟨rfl,rfl⟩;cases hin:(decide (0≤rs[k].e.kids[j]) && decide (rs[k].e.kids[j]≤(k:Int) - 1));case false=>
     have HN:Hid (aK (ak rs)=false):=Im k Ww (by unfold kI; rw [oQ rs k hlt]; exact FH _ k j hjl hin);go_wp2;go_ret;exact ⟨by rw [HN.out]; rfl,hB1⟩
    have UI:Hid (oU rs[k].e.kids k (j + 1)=true):=by show _=_; rw [Eb _ _ _ hjl,HP.out,hin]; rfl
    go_wp2;go_roundw;case rel=>exact ⟨j + 1,by omega,by go_num,UI,by first | rfl | trivial⟩
    simp [intOf] <;> omega
   obtain rfl:j=rs[k].e.kids.length:=by omega
   have YB:Hid (jv (ak rs) (k + 1)=true∧iY (ak rs) (k + 1)=true):=by
    refine ⟨?_,?_⟩
    ·rw [ut _ _ Ww,HU.out.1,HEK.out,UA]; rfl
    rw [FB,HU.out.2];unfold kI;rw [oQ rs k hlt];have:=HP.out;unfold oU at this;rw [Ug] at this;rw [this]; rfl
   have HOW:Hid (gF (ak rs) (k + 1)=gF (ak rs) k + (if rs[k].e.kind=1 then 1 else 0)):=by show _=_; rw [yV _ _ Ww,HEK.out]
   by_cases Zk:rs[k].e.kind=1
   ·have X9:Hid (gF (ak rs) (k + 1)=gF (ak rs) k + 1):=by show _=_; rw [HOW.out,if_pos Zk]
    clear HOW;go_wp2;go_roundw;case rel=>exact ⟨k + 1,by omega,by go_num,by rw [X9.out]; go_num,YB,hB1⟩
    simp [intOf] <;> omega
   have X9:Hid (gF (ak rs) (k + 1)=gF (ak rs) k):=by show _=_; rw [HOW.out,if_neg Zk]; rfl
   clear HOW;go_wp2;go_roundw;case rel=>exact ⟨k + 1,by omega,by go_num,by rw [X9.out],YB,hB1⟩
   simp [intOf] <;> omega
  obtain rfl:k=rs.length:=by omega
  have HN:Hid ((ak rs).all ax=true):=by
   have:=HU.out.1;unfold jv at this;rwa [← Wi.out,Ug] at this
  have HKU:Hid (iY (ak rs) rs.length=true):=HU.out.2;have HOW:Hid (gF (ak rs) rs.length=own (ak rs)):=by show _=_; unfold gF; rw [← Wi.out,Ug]
  have hol:=uq (ak rs) rs.length;by_cases ho:gF (ak rs) rs.length≤1
  ·have HS:Hid (aK (ak rs)=decide (ay (ak rs) (rs.length - 1)=0)):=by
    show _=_;have h1:own (ak rs)≤1:=by rw [← HOW.out]; exact ho
    have e1:=Wi.out;unfold aK;rw [e1,HN.out,HKU.out];simp [h1,hn1,hn2]
   have hcast:((rs.length:Int) - 1)=((rs.length - 1:Nat):Int):=by omega
   have YH:Hid (((rs.length:Int) - 1)=((rs.length - 1:Nat):Int)):=hcast;clear hcast;go_wp2_with fail;rw [YH.out];refine (Ik b off cap rs hlen HL.out (rs.length - 1) _ (by omega) (TP hb hB.size) (fun i hi=>(HR.out i hi).later hb hB) (fun r hr=>(HO.out r hr).below hB)).mono ?_;rintro e w1 ⟨rfl,hb1⟩;go_wp2;go_ret;exact ⟨by rw [HS.out]; exact ah (by rw [Bool.eq_iff_iff]; simp),hB.trans (hb1.mono hB.size)⟩
  have HS:Hid (aK (ak rs)=false):=by
   show _=_;have h1:¬ own (ak rs)≤1:=by rw [← HOW.out]; exact ho
   simp [aK,h1]
  go_wp2;go_ret;exact ⟨by rw [HS.out]; rfl,hB⟩
 have HN:Hid (aK (ak rs)=false):=Cq (by rw [Wi.out]; exact hn);go_enter func135,ntmps135;go_wp2_with fail
 all_goals go_ret
 all_goals exact ⟨by rw [HN.out]; rfl,TT _ _⟩
theorem l6 (ad:Option Addr) (cap:Nat) (rs:List ER) (w:af) (hlen:rs.length≤1048576) (hl:∀ r ∈ rs,r.e.light) (hf:∀ r ∈ rs,r.e.fits) (hs:iH w ad rs) :
  Calls prog 135 #[.slice ad rs.length cap] w fun e w'=>e=.returned (.bool (aK (ak rs)))∧ag w w':=by
 rcases hs with rfl | ⟨b,off,rfl,hb,hr,hok⟩
 ·go_enter func135,ntmps135;go_wp2_with fail;go_ret;exact ⟨rfl,TT _ _⟩
 exact zk b off cap rs w hlen hl hf hb hr hok
theorem qi {a b:ByteArray} (h:a=b):Ending.returned (.string a)=.returned (.string b):=by rw [h]
theorem ry (a:bH):(⟨#[]⟩:ByteArray) ++ a=a:=by apply jc; simp [ByteArray.data_append]
theorem xA (a:Al) (w:af) (h1:a.t.size≤12) (h2:a.s.size≤12) :
  Calls prog 251 #[.agg #[.string a.t,.string a.s]] w fun e w'=>e=.returned (.string (fG a))∧ag w w':=by
 have hB:=(TT w.heap.size w).alloc (TS _) (.cells #[.string a.t,.string a.s] 43);cases he:a.s.toList.isEmpty;case true=>
  go_enter func251,ntmps251;go_wp2;go_ret;exact ⟨qi (by simp [fG,he]),hB⟩
 go_enter func251,ntmps251;go_wp2;go_ret;exact ⟨qi (by simp [fG,he]),hB⟩
theorem l7 (k:Int) (w:af) :
  Calls prog 235 #[.int .i64 k] w fun e w'=>e=.returned (.string (gG k))∧w'=w:=by
 by_cases h4:k=4
 ·subst h4;go_enter func235,ntmps235;go_wp2;go_ret;exact ⟨rfl,rfl⟩
 by_cases h5:k=5
 ·subst h5;go_enter func235,ntmps235;go_wp2;go_ret;exact ⟨rfl,rfl⟩
 have HS:Hid (gG k=⟨#[32,45,32]⟩):=by show _=_; simp [gG,h4,h5]
 go_enter func235,ntmps235;go_wp2;go_ret;exact ⟨by rw [HS.out]; rfl,rfl⟩
theorem Ec {α:Type} {xs:List α} {k:Nat} (h:k≤xs.length):xs.take k=[] ↔ k=0:=by
 constructor
 ·intro e;have:=congrArg List.length e;rw [Ut,List.length_nil] at this;omega
 rintro rfl; simp
theorem mM (sep:bH) (xs:List ByteArray):fw sep (xs.take 0)=⟨#[]⟩:=by simp [Ck]
theorem zl (sep:bH) (xs:List ByteArray) (h:0 < xs.length):fw sep (xs.take 1)=⟨#[]⟩ ++ xs[0]:=by
 rw [show (1:Nat)=0 + 1 from rfl,TV h,oM,if_pos (by simp),ry]
theorem xB (sep:bH) (xs:List ByteArray) (k:Nat) (h:k < xs.length) (hk:0 < k):fw sep (xs.take (k + 1))=fw sep (xs.take k) ++ sep ++ xs[k]:=by
 rw [TV h,oM,if_neg];rw [Ec (by omega)]; omega
theorem xC (sep:bH) (xs:List ByteArray) (b k:Nat) (hx:∀ x ∈ xs,x.size≤b):(fw sep (xs.take k)).size≤k * (b + sep.size):=by
 have h1:=oN sep b _ (xs.take k) rfl (fun x h=>hx x (List.mem_of_mem_take h));have h2:(xs.take k).length * (b + sep.size)≤k * (b + sep.size):=Nat.mul_le_mul_right _ (by simp; omega);omega
theorem Cr {es:List Ex} (hes:Rq es) (n:Nat) (hn:n < es.length) (i:Bool):(iP es n i).size≤20000000000000 :=
 TZ (H9 hes n hn i) (TZ (Cm (by have:=hes.1; omega)) Qf)
set_option maxRecDepth 4000 in
theorem Io (b off cap:Nat) (rs:List ER) (hes:Rq (ak rs)) (hl:∀ r ∈ rs,r.e.light) (n:Nat):∀ (inside:Bool) (w:af),n < rs.length→b < w.heap.size→(∀ (i:Nat) (h:i < rs.length),yh w b (off + i * 5) rs[i])→(∀ r ∈ rs,r.ok w) →
  Calls prog 238 #[.slice (some ⟨b,off,none⟩) rs.length cap,.int .i64 (n:Int),.bool inside] w fun e w'=>e=.returned (.string (iP (ak rs) n inside))∧ag w w':=by
 have HES:=az hes;have HL:=az hl;have h15:rs.length≤15:=by have:=hes.1; rw [aT] at this; exact this
 clear hes hl
 induction n using Nat.strongRecOn with
 | ind n ih =>
  intro inside w hn hb hr hok
  have IH:Hid (∀ m,m < n→∀ (inside:Bool) (w:World),m < rs.length→b < w.heap.size→(∀ (i:Nat) (h:i < rs.length),yh w b (off + i * 5) rs[i])→(∀ r ∈ rs,r.ok w) →
   Calls prog 238 #[.slice (some ⟨b,off,none⟩) rs.length cap,.int .i64 (m:Int),.bool inside] w fun e w'=>e=.returned (.string (iP (ak rs) m inside))∧ag w w'):=ih
  have HR:Hid (∀ (i:Nat) (h:i < rs.length),yh w b (off + i * 5) rs[i]):=hr;have HO:=az hok;obtain ⟨t0,t1,t2,t3,t4⟩:=hr n hn;have hnE:n < (ak rs).length:=by rw [aT]; exact hn
  have heE:(ak rs)[n]=rs[n].e:=by simp [ak]
  have UA:ax rs[n].e=true:=by rw [← heE]; exact HES.out.2.1 n hnE
  have hkl:=uw HES.out hnE;rw [heE] at hkl;obtain ⟨hk5,hkind⟩:=qd UA;have HT:Hid (iP (ak rs) n inside=inT rs[n].e inside (lY (jy (ak rs) n) rs[n].e)):=by show _=_; unfold iP; rw [D7 hnE,heE]
  have HN:Hid (ax rs[n].e=true):=UA;have Vo:Hid (∀ k ∈ rs[n].e.kids,0≤k∧k.toNat < n):=hkl;have hn1:=bB n;have hn2:(n:Int) < (rs.length:Int):=by omega
  clear ih hr hok UA hkl heE;by_cases k1:rs[n].e.kind=1
  ·skip
   obtain ⟨W,hW⟩:∃ W,W=w.alloc (.cells #[.int .i64 1,.slice rs[n].adA rs[n].e.allow.length rs[n].capA,.string rs[n].e.over,.string rs[n].e.name,.slice rs[n].adK rs[n].e.kids.length rs[n].capK] 39):=⟨_,rfl⟩;have hB0:ag w W:=by rw [hW]; exact (TT _ _).alloc (TS _) _
   have hgl:w.heap.size < W.heap.size:=by rw [hW]; simp
   have g0:W.cell? ⟨w.heap.size,0,none⟩=some (.int .i64 1):=by rw [hW]; simp
   have g1:W.cell? ⟨w.heap.size,1,none⟩=some (.slice rs[n].adA rs[n].e.allow.length rs[n].capA):=by rw [hW]; simp
   have g2:W.cell? ⟨w.heap.size,2,none⟩=some (.string rs[n].e.over):=by rw [hW]; simp
   have g3:W.cell? ⟨w.heap.size,3,none⟩=some (.string rs[n].e.name):=by rw [hW]; simp
   have g4:W.cell? ⟨w.heap.size,4,none⟩=some (.slice rs[n].adK rs[n].e.kids.length rs[n].capK):=by rw [hW]; simp
   have HB0:=az hB0;clear hB0;have hal:eu rs[n].e.allow=true:=by
    have:=HN.out;unfold ax at this;rw [if_pos k1] at this;simp only [TU] at this;exact this.1.1.1
   have hts:=jY hal;have UO:Hid (eu rs[n].e.allow=true):=hal;have HT1:Hid (iP (ak rs) n inside=uu rs[n].e.allow):=by show _=_; rw [HT.out]; simp [inT,lY,k1]
   have hl6:rs[n].e.allow.length≤6:=by unfold eu at hal; simp at hal; exact hal.1.2
   have HAS:Hid (∀ x ∈ rs[n].e.allow.map fG,x.size≤25):=fun x hx=>by
    obtain ⟨a,ha,rfl⟩:=Ue.1 hx;obtain ⟨i,hi,rfl⟩:=Uu ha;unfold eu at hal;simp only [TU] at hal;exact qc (yH hal.2 i hi hi)
   clear hal HT;go_enter func238,ntmps238;go_wp2_with fail;rw [← hW];clear hW t0 t1 t2 t3 t4;go_loopw [8,9] (fun s i wr=>∃ k:Nat,k≤rs[n].e.allow.length∧i=.int .i64 k∧s=.string (fw ⟨#[44]⟩ ((rs[n].e.allow.map fG).take k))∧ag W wr) (fun _ i _=>rs[n].e.allow.length - (intOf i).toNat);case atStart=>exact ⟨0,TW _,rfl,by rw [mM],TT _ _⟩
   obtain ⟨k,hk,rfl,rfl,hB⟩:=hrel;have hBw:ag w wr:=HB0.out.trans (hB.mono HB0.out.size);have a1:=kept hB hgl g1;have hsj:(fw ⟨#[44]⟩ ((rs[n].e.allow.map fG).take k)).size≤200:=by
    have h:=xC ⟨#[44]⟩ (rs[n].e.allow.map fG) 25 k HAS.out;have e1:(⟨#[44]⟩:ByteArray).size=1:=rfl;rw [e1] at h;omega
   by_cases hlt:k < rs[n].e.allow.length
   ·rcases (HO.out rs[n] (TQ hn)).1.below hBw with hnil | ⟨ba,Wx,Wy,Yq,hra⟩
    ·rw [hnil] at hlt; simp at hlt
    rw [Wy] at a1;obtain ⟨q0,q1⟩:=hra k hlt;have hab:Fz rs[n].e.allow[k]=true:=by
     have:=UO.out;unfold eu at this;simp only [TU] at this;exact yH this.2 k hlt hlt
    have z2:=qc hab;unfold Fz at hab;rw [TU] at hab;have z0:=bQ hab.1;have z1:=yY hab.2;have hk1:=bB k;have hk2:(k:Int) < (rs[n].e.allow.length:Int):=by omega
    clear hra Wy hab;by_cases hk0:0 < k
    ·have hk3:(0:Int) < (k:Int):=by omega
     have HJ:Hid (fw ⟨#[44]⟩ ((rs[n].e.allow.map fG).take (k + 1))=fw ⟨#[44]⟩ ((rs[n].e.allow.map fG).take k) ++ ⟨#[44]⟩ ++ fG rs[n].e.allow[k]):=by show _=_; rw [xB _ _ _ (by simpa using hlt) hk0,List.getElem_map]
     go_wp2_with fail;refine (xA rs[n].e.allow[k] _ z0 z1).mono ?_;rintro e w1 ⟨rfl,hb1⟩;have hB1:ag W w1:=hB.trans (hb1.mono hB.size);clear hb1;go_wp2;go_roundw;case rel=>exact ⟨k + 1,by omega,by go_num,by rw [HJ.out],hB1⟩
     simp [intOf] <;> omega
    skip
    have hk3:¬ (0:Int) < (k:Int):=by omega
    have HJ:Hid (fw ⟨#[44]⟩ ((rs[n].e.allow.map fG).take (k + 1))=fw ⟨#[44]⟩ ((rs[n].e.allow.map fG).take k) ++ fG rs[n].e.allow[k]):=by
     show _=_;obtain rfl:k=0:=by omega
     rw [mM,zl _ _ (by simpa using hlt),List.getElem_map]
    go_wp2_with fail;refine (xA rs[n].e.allow[k] _ z0 z1).mono ?_;rintro e w1 ⟨rfl,hb1⟩;have hB1:ag W w1:=hB.trans (hb1.mono hB.size);clear hb1;go_wp2;go_roundw;case rel=>exact ⟨k + 1,by omega,by go_num,by rw [HJ.out],hB1⟩
    simp [intOf] <;> omega
   obtain rfl:k=rs[n].e.allow.length:=by omega
   have HE:Hid ((rs[n].e.allow.map fG).take rs[n].e.allow.length=rs[n].e.allow.map fG):=by show _=_; rw [List.take_of_length_le (by simp)]
   go_wp2;go_ret;exact ⟨by rw [HT1.out]; exact qi (by rw [HE.out]; rfl),hBw⟩
  by_cases k2:rs[n].e.kind=2
  ·have HT1:Hid (iP (ak rs) n inside=rs[n].e.name):=by show _=_; rw [HT.out]; simp [inT,lY,k2]
   clear HT;go_enter func238,ntmps238;go_wp2;go_ret;exact ⟨by rw [HT1.out]; rfl,(TT _ _).alloc (TS _) _⟩
  by_cases k3:rs[n].e.kind=3
  ·have HT1:Hid (iP (ak rs) n inside=rs[n].e.over ++ ⟨#[45,62]⟩ ++ rs[n].e.name):=by show _=_; rw [HT.out]; simp [inT,lY,k3]
   have hsz:rs[n].e.over.size≤12∧rs[n].e.name.size≤12:=by
    have:=HN.out;unfold ax at this;rw [if_neg k1,if_neg k2,if_pos k3] at this;simp only [TU] at this;exact ⟨bQ this.1.1.1,bQ this.1.1.2⟩
   obtain ⟨z0,z1⟩:=hsz;clear HT;go_enter func238,ntmps238;go_wp2;go_ret;exact ⟨by rw [HT1.out]; rfl,(TT _ _).alloc (TS _) _⟩
  skip
  obtain ⟨W,hW⟩:∃ W,W=w.alloc (.cells #[.int .i64 rs[n].e.kind,.slice rs[n].adA rs[n].e.allow.length rs[n].capA,.string rs[n].e.over,.string rs[n].e.name,.slice rs[n].adK rs[n].e.kids.length rs[n].capK] 39):=⟨_,rfl⟩;have hB0:ag w W:=by rw [hW]; exact (TT _ _).alloc (TS _) _
  have hgl:w.heap.size < W.heap.size:=by rw [hW]; simp
  have g0:W.cell? ⟨w.heap.size,0,none⟩=some (.int .i64 rs[n].e.kind):=by rw [hW]; simp
  have g1:W.cell? ⟨w.heap.size,1,none⟩=some (.slice rs[n].adA rs[n].e.allow.length rs[n].capA):=by rw [hW]; simp
  have g2:W.cell? ⟨w.heap.size,2,none⟩=some (.string rs[n].e.over):=by rw [hW]; simp
  have g3:W.cell? ⟨w.heap.size,3,none⟩=some (.string rs[n].e.name):=by rw [hW]; simp
  have g4:W.cell? ⟨w.heap.size,4,none⟩=some (.slice rs[n].adK rs[n].e.kids.length rs[n].capK):=by rw [hW]; simp
  have HB0:=az hB0;clear hB0;have HT1:Hid (iP (ak rs) n inside=if inside then ⟨#[40]⟩ ++ fw (gG rs[n].e.kind) (rs[n].e.kids.map (jy (ak rs) n)) ++ ⟨#[41]⟩ else fw (gG rs[n].e.kind) (rs[n].e.kids.map (jy (ak rs) n))):=by
   show _=_; rw [HT.out]; simp [inT,lY,k1,k2,k3]
  have HTS:Hid (∀ x ∈ rs[n].e.kids.map (jy (ak rs) n),x.size≤20000000000000):=fun x hx=>by
   obtain ⟨k,hk,rfl⟩:=Ue.1 hx;have hlt:=Vo.out k hk;unfold jy;rw [if_pos hlt.2,D6];exact Cr HES.out _ (by rw [aT]; omega) true
  have kb1:(rs[n].e.kind == 1)=false:=by simpa using k1
  have kb2:(rs[n].e.kind == 2)=false:=by simpa using k2
  have kb3:(rs[n].e.kind == 3)=false:=by simpa using k3
  clear HT hkind;go_enter func238,ntmps238;go_wp2_with fail;rw [← hW];clear hW t0 t1 t2 t3 t4;go_loopw [8,10] (fun s i wr=>∃ k:Nat,k≤rs[n].e.kids.length∧i=.int .i64 k∧s=.string (fw (gG rs[n].e.kind) ((rs[n].e.kids.map (jy (ak rs) n)).take k))∧ag W wr) (fun _ i _=>rs[n].e.kids.length - (intOf i).toNat);case atStart=>exact ⟨0,TW _,rfl,by rw [mM],TT _ _⟩
  obtain ⟨k,hk,rfl,rfl,hB⟩:=hrel;have hBw:ag w wr:=HB0.out.trans (hB.mono HB0.out.size);have hbw:b < wr.heap.size:=TP hb hBw.size;have a0:=kept hB hgl g0;have a4:=kept hB hgl g4;have hsg:=lX rs[n].e.kind;have hsj:(fw (gG rs[n].e.kind) ((rs[n].e.kids.map (jy (ak rs) n)).take k)).size≤100000000000100:=by
   have h:=xC (gG rs[n].e.kind) (rs[n].e.kids.map (jy (ak rs) n)) 20000000000000 k HTS.out;rw [hsg] at h;omega
  by_cases hlt:k < rs[n].e.kids.length
  ·rcases (HO.out rs[n] (TQ hn)).2.below hBw with hnil | ⟨bk,offk,U8,hbk,YG⟩
   ·rw [hnil] at hlt; simp at hlt
   rw [U8] at a4;have q0:=YG k hlt;obtain ⟨hz0,hz1⟩:=Vo.out rs[n].e.kids[k] (TQ hlt);obtain ⟨m,hm⟩:∃ m:Nat,rs[n].e.kids[k]=(m:Int):=⟨rs[n].e.kids[k].toNat,by omega⟩;rw [hm] at q0 hz1;have hmn:m < n:=by simpa using hz1
   have hmr:m < rs.length:=by omega
   have HFm:Hid (jy (ak rs) n rs[n].e.kids[k]=iP (ak rs) m true):=by show _=_; rw [hm]; unfold jy; rw [if_pos (by simpa using hmn),D6]; simp
   have hsm:=Cr HES.out m (by rw [aT]; exact hmr) true;have hk1:=bB k;have hk2:(k:Int) < (rs[n].e.kids.length:Int):=by omega
   clear YG U8 hz0 hz1 hm;by_cases hk0:0 < k
   ·have hk3:(0:Int) < (k:Int):=by omega
    have HJ:Hid (fw (gG rs[n].e.kind) ((rs[n].e.kids.map (jy (ak rs) n)).take (k + 1))=fw (gG rs[n].e.kind) ((rs[n].e.kids.map (jy (ak rs) n)).take k) ++ gG rs[n].e.kind ++ iP (ak rs) m true):=by show _=_; rw [xB _ _ _ (by simpa using hlt) hk0,List.getElem_map,HFm.out]
    go_wp2_with fail;refine (l7 _ _).mono ?_;rintro e w' ⟨rfl,rfl⟩;go_wp2_with fail;refine (IH.out m hmn true _ hmr hbw (fun i hi=>(HR.out i hi).later hb hBw) (fun r hr=>(HO.out r hr).below hBw)).mono ?_;rintro e w1 ⟨rfl,hb1⟩;have hB1:ag W w1:=hB.trans (hb1.mono hB.size);clear hb1;go_wp2;go_roundw;case rel=>exact ⟨k + 1,by omega,by go_num,by rw [HJ.out],hB1⟩
    simp [intOf] <;> omega
   skip
   have hk3:¬ (0:Int) < (k:Int):=by omega
   have HJ:Hid (fw (gG rs[n].e.kind) ((rs[n].e.kids.map (jy (ak rs) n)).take (k + 1))=fw (gG rs[n].e.kind) ((rs[n].e.kids.map (jy (ak rs) n)).take k) ++ iP (ak rs) m true):=by
    have h0:=HFm.out;show _=_;obtain rfl:k=0:=by omega
    rw [mM,zl _ _ (by simpa using hlt),List.getElem_map,h0]
   go_wp2_with fail;refine (IH.out m hmn true _ hmr hbw (fun i hi=>(HR.out i hi).later hb hBw) (fun r hr=>(HO.out r hr).below hBw)).mono ?_;rintro e w1 ⟨rfl,hb1⟩;have hB1:ag W w1:=hB.trans (hb1.mono hB.size);clear hb1;go_wp2;go_roundw;case rel=>exact ⟨k + 1,by omega,by go_num,by rw [HJ.out],hB1⟩
   simp [intOf] <;> omega
  obtain rfl:k=rs[n].e.kids.length:=by omega
  have HE:Hid ((rs[n].e.kids.map (jy (ak rs) n)).take rs[n].e.kids.length=rs[n].e.kids.map (jy (ak rs) n)):=by show _=_; rw [List.take_of_length_le (by simp)]
  cases inside;case true=>
   go_wp2;go_ret;exact ⟨by rw [HT1.out]; exact qi (by rw [HE.out]; rfl),hBw⟩
  go_wp2;go_ret;exact ⟨by rw [HT1.out]; exact qi (by rw [HE.out]; rfl),hBw⟩
def gP (es:List Ex):ByteArray:=if aK es then iP es (es.length - 1) false else ⟨#[]⟩
theorem Cs {es:List Ex} (h:aK es=false):gP es=⟨#[]⟩:=by simp [gP,h]
theorem zm {es:List Ex} (h:aK es=true):gP es=iP es (es.length - 1) false:=by simp [gP,h]
theorem nJ (ad:Option Addr) (cap:Nat) (rs:List ER) (w:af) (hlen:rs.length≤1048576) (hl:∀ r ∈ rs,r.e.light) (hf:∀ r ∈ rs,r.e.fits) (hs:iH w ad rs) :
  Calls prog 220 #[.slice ad rs.length cap] w fun e w'=>e=.returned (.string (gP (ak rs)))∧ag w w':=by
 have HS:=az hs;have HL:=az hl;have HF:=az hf;clear hs hl hf;go_enter func220,ntmps220;go_wp2_with fail;refine (l6 ad cap rs _ hlen HL.out HF.out HS.out).mono ?_;rintro e w1 ⟨he,hb1⟩;have HB1:=az hb1;clear hb1;cases hE:aK (ak rs);case false=>
  rw [hE] at he;subst he;have HX:Hid (gP (ak rs)=⟨#[]⟩):=Cs hE;go_wp2;go_ret;exact ⟨by rw [HX.out]; rfl,HB1.out⟩
 rw [hE] at he;subst he;have h1:1≤rs.length:=by
  have:=hE;unfold aK at this;simp only [TU,Ud,aT] at this;exact this.1.1.1.1.1
 rcases HS.out.below HB1.out with rfl | ⟨b,off,rfl,hb,hr,hok⟩
 ·simp at h1
 have HR:Hid (∀ (i:Nat) (h:i < rs.length),yh w1 b (off + i * 5) rs[i]):=hr;have HO:=az hok;have VF:Hid (Rq (ak rs)):=Nu hE;have HX:Hid (gP (ak rs)=iP (ak rs) (rs.length - 1) false):=by show _=_; rw [zm hE,aT]
 have YH:Hid (((rs.length:Int) - 1)=((rs.length - 1:Nat):Int)):=by show _=_; omega
 clear hr hok;go_wp2_with fail;rw [YH.out];refine (Io b off cap rs VF.out HL.out (rs.length - 1) false _ (by omega) hb HR.out HO.out).mono ?_;rintro e w2 ⟨rfl,hb2⟩;have HB2:=jP HB1 hb2;clear hb2;go_wp2;go_ret;exact ⟨by rw [HX.out]; rfl,HB2.out⟩
end Go.Proofs.YtajkkeikihhejaaGreat
