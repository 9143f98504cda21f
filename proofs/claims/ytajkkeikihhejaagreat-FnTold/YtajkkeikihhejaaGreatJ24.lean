/- The contract of the document's walk over a tree, and of its look at a whole expression. -/
import Derived.Test.YtajkkeikihhejaaGreatSq
import Derived.Test.YtajkkeikihhejaaGreatJ23
import Derived.Test.YtajkkeikihhejaaGreatJ20
open Go.Proofs.Tryz
set_option maxHeartbeats 80000000
namespace Go.Proofs.YtajkkeikihhejaaGreat
open Go.ChangeShapes Go.WideShapes Go.ChangeAt Go.RowKit
open Pl
theorem pq (rs:List ER) (n:Nat) (h:n < rs.length):dC (aj rs) n=rs[n].e.kids:=by simp [dC,aj,h]
theorem Jd (b off cap:Nat) (rs:List ER) (hlen:rs.length≤1048576) (hl:∀ r ∈ rs,r.e.light) (n:Nat):∀ (w:af),n < rs.length→b < w.heap.size→(∀ (i:Nat) (h:i < rs.length),x8 w b (off + i * 5) rs[i])→(∀ r ∈ rs,r.ok w) →
  Calls prog 191 #[.slice (some ⟨b,off,none⟩) rs.length cap,.int .i64 (n:Int)] w fun e w'=>e=.returned (.int .i64 (ay (aj rs) n))∧ag w w':=by
 induction n using Nat.strongRecOn with
 | ind n ih =>
  intro w hn hb hr hok
  have IH:Hid (∀ m,m < n→∀ (w:World),m < rs.length→b < w.heap.size→(∀ (i:Nat) (h:i < rs.length),x8 w b (off + i * 5) rs[i])→(∀ r ∈ rs,r.ok w) →
   Calls prog 191 #[.slice (some ⟨b,off,none⟩) rs.length cap,.int .i64 (m:Int)] w fun e w'=>e=.returned (.int .i64 (ay (aj rs) m))∧ag w w'):=ih
  have HR:Hid (∀ (i:Nat) (h:i < rs.length),x8 w b (off + i * 5) rs[i]):=hr;have HO:=az hok;obtain ⟨t0,t1,t2,t3,t4⟩:=hr n hn;obtain ⟨l1,l2⟩:=hl rs[n] (TQ hn);have hn1:=bB n;have hn2:(n:Int) < (rs.length:Int):=by omega
  have HT:Hid (ay (aj rs) n=di (dx (aj rs) n) rs[n].e.kids.reverse ((n:Int) - 1)):=by show _=_; rw [jb,pq rs n hn]
  have HL:=az hl;clear ih hr hok hl l1;go_enter func191,ntmps191;go_wp2_with fail;go_loopw [5,6] (fun a i wr=>∃ (j:Nat) (x:Int),j≤rs[n].e.kids.length∧i=.int .i64 ((j:Int) - 1)∧a=.int .i64 x∧-1≤x∧x < n∧Hid (di (dx (aj rs) n) (rs[n].e.kids.take j).reverse x=ay (aj rs) n)∧ag w wr) (fun _ i _=>(intOf i + 1).toNat);case atStart=>exact ⟨rs[n].e.kids.length,(n:Int) - 1,TS _,rfl,rfl,by omega,by omega,(by show _=_; rw [Ug]; exact HT.out.symm),TT _ _⟩
  obtain ⟨j,x,hj,rfl,rfl,hx0,hx1,HG,hB⟩:=hrel;have s4:=kept hB hb t4;by_cases hj0:0 < j
  ·obtain ⟨j,rfl⟩:∃ i,j=i + 1:=⟨j - 1,by omega⟩;have hjl:j < rs[n].e.kids.length:=by omega
   rcases (HO.out rs[n] (TQ hn)).2.below hB with hnil | ⟨bk,offk,XE,hbk,YI⟩
   ·rw [hnil] at hjl; simp at hjl
   rw [XE] at s4;have k0:=YI j hjl;clear YI;have hji:((j + 1:Nat):Int) - 1=(j:Int):=by omega
   have hj1:=bB j;have hj2:(j:Int) < (rs[n].e.kids.length:Int):=by omega
   have HG2:Hid ((if x < 0 ∨ rs[n].e.kids[j] ≠ x then -1 else if dx (aj rs) n x < 0 then -1 else di (dx (aj rs) n) (rs[n].e.kids.take j).reverse (dx (aj rs) n x - 1))=ay (aj rs) n):=by
    have:=HG.out;rw [TV hjl,List.reverse_append] at this;exact this
   rw [hji];clear HG XE t0 t1 t2 t3 t4;by_cases hxn:x < 0
   ·have HT1:Hid (ay (aj rs) n=-1):=by show _=_; rw [← HG2.out,if_pos (Or.inl hxn)]
    go_wp2;go_ret;exact ⟨by rw [HT1.out]; rfl,hB⟩
   by_cases hkx:rs[n].e.kids[j]=x
   ·obtain ⟨m,rfl⟩:∃ m:Nat,x=(m:Int):=⟨x.toNat,by omega⟩;have hF:dx (aj rs) n (m:Int)=ay (aj rs) m:=by unfold dx; rw [if_pos ⟨by omega,by simp; omega⟩]; simp
    have HF:Hid (dx (aj rs) n (m:Int)=ay (aj rs) m):=hF;have hle:=iC (aj rs) m;clear hF;go_wp2_with fail;refine (IH.out m (by omega) _ (by omega) (TP hb hB.size) (fun i hi=>(HR.out i hi).same fun o=>hB.cell (p:=⟨b,o,none⟩) hb) (fun r hr=>(HO.out r hr).below hB)).mono ?_;rintro e w1 ⟨rfl,hb1⟩;have hB1:ag w w1:=hB.trans (hb1.mono hB.size);clear hb1;by_cases hneg:ay (aj rs) m < 0
    ·have HT1:Hid (ay (aj rs) n=-1):=by show _=_; rw [← HG2.out,if_neg (by omega),HF.out,if_pos hneg]
     go_wp2;go_ret;exact ⟨by rw [HT1.out]; rfl,hB1⟩
    have XF:Hid (di (dx (aj rs) n) (rs[n].e.kids.take j).reverse (ay (aj rs) m - 1)=ay (aj rs) n):=by
     show _=_;rw [← HG2.out,if_neg (by omega),HF.out,if_neg hneg]
    go_wp2;go_roundw;case rel=>exact ⟨j,ay (aj rs) m - 1,by omega,by go_num,rfl,by omega,by omega,XF,hB1⟩
    simp [intOf] <;> omega
   have HT1:Hid (ay (aj rs) n=-1):=by show _=_; rw [← HG2.out,if_pos (Or.inr hkx)]
   go_wp2;go_ret;exact ⟨by rw [HT1.out]; rfl,hB⟩
  obtain rfl:j=0:=by omega
  have HT1:Hid (ay (aj rs) n=x + 1):=by show _=_; have:=HG.out; simp [di] at this; exact this.symm
  clear HG t0 t1 t2 t3 t4;go_wp2;go_ret;exact ⟨by rw [HT1.out]; rfl,hB⟩
theorem x8.later {w w':af} {b off:Nat} {r:ER} (h:x8 w b off r) (hb:b < w.heap.size) (hB:ag w w'):x8 w' b off r:=h.same fun o=>hB.cell (p:=⟨b,o,none⟩) hb
theorem C9 {es:List Ex} (h:¬ (1≤es.length∧es.length≤15)):aK es=false:=by
 unfold aK;by_cases h1:1≤es.length
 ·have h2:¬ es.length≤15:=fun h2=>h ⟨h1,h2⟩;simp [h2]
 simp [h1]
theorem Je {es:List Ex} (k:Nat) (h:k < es.length) (hb:av es[k]=false):aK es=false:=by simp [aK,Ck es k h hb]
theorem Jf {es:List Ex} (k:Nat) (h:k < es.length) (hb:kH es k=false):aK es=false:=by simp [aK,Nu es k h hb]
def pu (zs:List Int) (i j:Nat):Bool:=(zs.take j).all fun k=>decide (0≤k) && decide (k≤(i:Int) - 1)
theorem ED (zs:List Int) (i j:Nat) (h:j < zs.length):pu zs i (j + 1)=(pu zs i j && (decide (0≤zs[j]) && decide (zs[j]≤(i:Int) - 1))):=by
 unfold pu; rw [TV h,List.all_append]; simp
theorem Gr (zs:List Int) (i j:Nat) (h:j < zs.length) (hb:(decide (0≤zs[j]) && decide (zs[j]≤(i:Int) - 1))=false):(zs.all fun k=>decide (0≤k) && decide (k≤(i:Int) - 1))=false:=by
 rw [Bool.eq_false_iff]; intro h2; rw [Ub] at h2; have:=h2 zs[j] (TQ h); rw [hb] at this; cases this
set_option maxRecDepth 4000 in
theorem Am (b off cap:Nat) (rs:List ER) (w:af) (hlen:rs.length≤1048576) (hl:∀ r ∈ rs,r.e.light) (hf:∀ r ∈ rs,r.e.fits) (hb:b < w.heap.size) (hr:∀ (i:Nat) (h:i < rs.length),x8 w b (off + i * 5) rs[i]) (hok:∀ r ∈ rs,r.ok w) :
  Calls prog 135 #[.slice (some ⟨b,off,none⟩) rs.length cap] w fun e w'=>e=.returned (.bool (aK (aj rs)))∧ag w w':=by
 have hel:=aT rs;have V8:Hid ((aj rs).length=rs.length):=hel;have HL:=az hl;have HF:=az hf;have HR:Hid (∀ (i:Nat) (h:i < rs.length),x8 w b (off + i * 5) rs[i]):=hr;have HO:=az hok;clear hel hl hf hr hok;by_cases hn:1≤rs.length∧rs.length≤15
 ·obtain ⟨hn1,hn2⟩:=hn;go_enter func135,ntmps135;go_wp2_with fail;go_loopw [3,4] (fun o i wr=>∃ k:Nat,k≤rs.length∧i=.int .i64 k∧o=.int .i64 (gG (aj rs) k:Nat)∧Hid (jr (aj rs) k=true∧iY (aj rs) k=true)∧ag w wr) (fun _ i _=>rs.length - (intOf i).toNat);case atStart=>exact ⟨0,TW _,rfl,rfl,⟨by simp [jr],by simp [iY]⟩,TT _ _⟩
  obtain ⟨k,hk,rfl,rfl,HU,hB⟩:=hrel;by_cases hlt:k < rs.length
  ·have Wv:k < (aj rs).length:=by rw [V8.out]; exact hlt
   have hek:(aj rs)[k]=rs[k].e:=by simp [aj]
   have HEK:Hid ((aj rs)[k]=rs[k].e):=hek;obtain ⟨t0,t1,t2,t3,t4⟩:=(HR.out k hlt).later hb hB;clear hek;have hk1:=bB k;have hk2:(k:Int) < (rs.length:Int):=by omega
   have hol:=ul (aj rs) k;go_wp2_with fail;refine (Eb rs[k] _ (HF.out _ (TQ hlt)) ((HO.out _ (TQ hlt)).below hB)).mono ?_;rintro e w1 ⟨rfl,hb1⟩;cases UA:av rs[k].e;case false=>
    have HN:Hid (aK (aj rs)=false):=Je k Wv (by rw [HEK.out]; exact UA);go_wp2;go_ret;exact ⟨by rw [HN.out]; rfl,hB.trans (hb1.mono hB.size)⟩
   have hB1:ag w w1:=hB.trans (hb1.mono hB.size);have hbw:b < wr.heap.size:=TP hb hB.size;replace t0:=kept hb1 hbw t0;replace t4:=kept hb1 hbw t4;have hbw1:b < w1.heap.size:=TP hbw hb1.size;clear t1 t2 t3 hb1 hB hbw;go_wp2_with fail;go_loopw [5] (fun i w2=>∃ j:Nat,j≤rs[k].e.kids.length∧i=.int .i64 j∧Hid (pu rs[k].e.kids k j=true)∧w2=w1) (fun i _=>rs[k].e.kids.length - (intOf i).toNat);case atStart=>exact ⟨0,TW _,rfl,(by show _=_; simp [pu]),rfl⟩
   obtain ⟨j,hj,rfl,HP,rfl⟩:=hrel;by_cases hjl:j < rs[k].e.kids.length
   ·rcases (HO.out rs[k] (TQ hlt)).2.below hB1 with hnil | ⟨bk,offk,XE,hbk,YI⟩
    ·rw [hnil] at hjl; simp at hjl
    have t4':=t4;rw [XE] at t4';have k0:=YI j hjl;have hj1:=bB j;have hj2:(j:Int) < (rs[k].e.kids.length:Int):=by omega
    obtain ⟨-,lk⟩:=HL.out rs[k] (TQ hlt);clear YI XE t4;go_wp2_with fail;refine (NS _ _ _ _).mono ?_;rintro e w' ⟨rfl,rfl⟩;cases hin:(decide (0≤rs[k].e.kids[j]) && decide (rs[k].e.kids[j]≤(k:Int) - 1));case false=>
     have HN:Hid (aK (aj rs)=false):=Jf k Wv (by unfold kH; rw [pq rs k hlt]; exact Gr _ k j hjl hin);go_wp2;go_ret;exact ⟨by rw [HN.out]; rfl,hB1⟩
    have UI:Hid (pu rs[k].e.kids k (j + 1)=true):=by show _=_; rw [ED _ _ _ hjl,HP.out,hin]; rfl
    go_wp2;go_roundw;case rel=>exact ⟨j + 1,by omega,by go_num,UI,by first | rfl | trivial⟩
    simp [intOf] <;> omega
   obtain rfl:j=rs[k].e.kids.length:=by omega
   have Yw:Hid (jr (aj rs) (k + 1)=true∧iY (aj rs) (k + 1)=true):=by
    refine ⟨?_,?_⟩
    ·rw [uq _ _ Wv,HU.out.1,HEK.out,UA]; rfl
    rw [Fs,HU.out.2];unfold kH;rw [pq rs k hlt];have:=HP.out;unfold pu at this;rw [Ug] at this;rw [this]; rfl
   have HOW:Hid (gG (aj rs) (k + 1)=gG (aj rs) k + (if rs[k].e.kind=1 then 1 else 0)):=by show _=_; rw [yX _ _ Wv,HEK.out]
   by_cases Zp:rs[k].e.kind=1
   ·have X8:Hid (gG (aj rs) (k + 1)=gG (aj rs) k + 1):=by show _=_; rw [HOW.out,if_pos Zp]
    clear HOW;go_wp2;go_roundw;case rel=>exact ⟨k + 1,by omega,by go_num,by rw [X8.out]; go_num,Yw,hB1⟩
    simp [intOf] <;> omega
   have X8:Hid (gG (aj rs) (k + 1)=gG (aj rs) k):=by show _=_; rw [HOW.out,if_neg Zp]; rfl
   clear HOW;go_wp2;go_roundw;case rel=>exact ⟨k + 1,by omega,by go_num,by rw [X8.out],Yw,hB1⟩
   simp [intOf] <;> omega
  obtain rfl:k=rs.length:=by omega
  have HN:Hid ((aj rs).all av=true):=by
   have:=HU.out.1;unfold jr at this;rwa [← V8.out,Ug] at this
  have HKU:Hid (iY (aj rs) rs.length=true):=HU.out.2;have HOW:Hid (gG (aj rs) rs.length=own (aj rs)):=by show _=_; unfold gG; rw [← V8.out,Ug]
  have hol:=ul (aj rs) rs.length;by_cases ho:gG (aj rs) rs.length≤1
  ·have HS:Hid (aK (aj rs)=decide (ay (aj rs) (rs.length - 1)=0)):=by
    show _=_;have h1:own (aj rs)≤1:=by rw [← HOW.out]; exact ho
    have e1:=V8.out;unfold aK;rw [e1,HN.out,HKU.out];simp [h1,hn1,hn2]
   have hcast:((rs.length:Int) - 1)=((rs.length - 1:Nat):Int):=by omega
   have Yy:Hid (((rs.length:Int) - 1)=((rs.length - 1:Nat):Int)):=hcast;clear hcast;go_wp2_with fail;rw [Yy.out];refine (Jd b off cap rs hlen HL.out (rs.length - 1) _ (by omega) (TP hb hB.size) (fun i hi=>(HR.out i hi).later hb hB) (fun r hr=>(HO.out r hr).below hB)).mono ?_;rintro e w1 ⟨rfl,hb1⟩;go_wp2;go_ret;exact ⟨by rw [HS.out]; exact ah (by rw [Bool.eq_iff_iff]; simp),hB.trans (hb1.mono hB.size)⟩
  have HS:Hid (aK (aj rs)=false):=by
   show _=_;have h1:¬ own (aj rs)≤1:=by rw [← HOW.out]; exact ho
   simp [aK,h1]
  go_wp2;go_ret;exact ⟨by rw [HS.out]; rfl,hB⟩
 have HN:Hid (aK (aj rs)=false):=C9 (by rw [V8.out]; exact hn);go_enter func135,ntmps135;go_wp2_with fail
 all_goals go_ret
 all_goals exact ⟨by rw [HN.out]; rfl,TT _ _⟩
theorem mh (ad:Option Addr) (cap:Nat) (rs:List ER) (w:af) (hlen:rs.length≤1048576) (hl:∀ r ∈ rs,r.e.light) (hf:∀ r ∈ rs,r.e.fits) (hs:iH w ad rs) :
  Calls prog 135 #[.slice ad rs.length cap] w fun e w'=>e=.returned (.bool (aK (aj rs)))∧ag w w':=by
 rcases hs with rfl | ⟨b,off,rfl,hb,hr,hok⟩
 ·go_enter func135,ntmps135;go_wp2_with fail;go_ret;exact ⟨rfl,TT _ _⟩
 exact Am b off cap rs w hlen hl hf hb hr hok
theorem qK {a b:ByteArray} (h:a=b):Ending.returned (.string a)=.returned (.string b):=by rw [h]
theorem rJ (a:bF):(⟨#[]⟩:ByteArray) ++ a=a:=by apply jc; simp [ByteArray.data_append]
theorem xN (a:Al) (w:af) (h1:a.t.size≤12) (h2:a.s.size≤12) :
  Calls prog 251 #[.agg #[.string a.t,.string a.s]] w fun e w'=>e=.returned (.string (fG a))∧ag w w':=by
 have hB:=(TT w.heap.size w).alloc (TS _) (.cells #[.string a.t,.string a.s] 43);cases he:a.s.toList.isEmpty;case true=>
  go_enter func251,ntmps251;go_wp2;go_ret;exact ⟨qK (by simp [fG,he]),hB⟩
 go_enter func251,ntmps251;go_wp2;go_ret;exact ⟨qK (by simp [fG,he]),hB⟩
theorem mi (k:Int) (w:af) :
  Calls prog 235 #[.int .i64 k] w fun e w'=>e=.returned (.string (gH k))∧w'=w:=by
 by_cases h4:k=4
 ·subst h4;go_enter func235,ntmps235;go_wp2;go_ret;exact ⟨rfl,rfl⟩
 by_cases h5:k=5
 ·subst h5;go_enter func235,ntmps235;go_wp2;go_ret;exact ⟨rfl,rfl⟩
 have HS:Hid (gH k=⟨#[32,45,32]⟩):=by show _=_; simp [gH,h4,h5]
 go_enter func235,ntmps235;go_wp2;go_ret;exact ⟨by rw [HS.out]; rfl,rfl⟩
theorem EE {α:Type} {xs:List α} {k:Nat} (h:k≤xs.length):xs.take k=[] ↔ k=0:=by
 constructor
 ·intro e;have:=congrArg List.length e;rw [Ut,List.length_nil] at this;omega
 rintro rfl; simp
theorem mW (sep:bF) (xs:List ByteArray):fw sep (xs.take 0)=⟨#[]⟩:=by simp [Cr]
theorem Ao (sep:bF) (xs:List ByteArray) (h:0 < xs.length):fw sep (xs.take 1)=⟨#[]⟩ ++ xs[0]:=by
 rw [show (1:Nat)=0 + 1 from rfl,TV h,oN,if_pos (by simp),rJ]
theorem xO (sep:bF) (xs:List ByteArray) (k:Nat) (h:k < xs.length) (hk:0 < k):fw sep (xs.take (k + 1))=fw sep (xs.take k) ++ sep ++ xs[k]:=by
 rw [TV h,oN,if_neg];rw [EE (by omega)]; omega
theorem xP (sep:bF) (xs:List ByteArray) (b k:Nat) (hx:∀ x ∈ xs,x.size≤b):(fw sep (xs.take k)).size≤k * (b + sep.size):=by
 have h1:=oO sep b _ (xs.take k) rfl (fun x h=>hx x (List.mem_of_mem_take h));have h2:(xs.take k).length * (b + sep.size)≤k * (b + sep.size):=Nat.mul_le_mul_right _ (by simp; omega);omega
theorem Da {es:List Ex} (hes:Ro es) (n:Nat) (hn:n < es.length) (i:Bool):(iU es n i).size≤20000000000000 :=
 TZ (H9 hes n hn i) (TZ (Cs (by have:=hes.1; omega)) Qn)
set_option maxRecDepth 4000 in
theorem Jg (b off cap:Nat) (rs:List ER) (hes:Ro (aj rs)) (hl:∀ r ∈ rs,r.e.light) (n:Nat):∀ (inside:Bool) (w:af),n < rs.length→b < w.heap.size→(∀ (i:Nat) (h:i < rs.length),x8 w b (off + i * 5) rs[i])→(∀ r ∈ rs,r.ok w) →
  Calls prog 238 #[.slice (some ⟨b,off,none⟩) rs.length cap,.int .i64 (n:Int),.bool inside] w fun e w'=>e=.returned (.string (iU (aj rs) n inside))∧ag w w':=by
 have HES:=az hes;have HL:=az hl;have h15:rs.length≤15:=by have:=hes.1; rw [aT] at this; exact this
 clear hes hl
 induction n using Nat.strongRecOn with
 | ind n ih =>
  intro inside w hn hb hr hok
  have IH:Hid (∀ m,m < n→∀ (inside:Bool) (w:World),m < rs.length→b < w.heap.size→(∀ (i:Nat) (h:i < rs.length),x8 w b (off + i * 5) rs[i])→(∀ r ∈ rs,r.ok w) →
   Calls prog 238 #[.slice (some ⟨b,off,none⟩) rs.length cap,.int .i64 (m:Int),.bool inside] w fun e w'=>e=.returned (.string (iU (aj rs) m inside))∧ag w w'):=ih
  have HR:Hid (∀ (i:Nat) (h:i < rs.length),x8 w b (off + i * 5) rs[i]):=hr;have HO:=az hok;obtain ⟨t0,t1,t2,t3,t4⟩:=hr n hn;have hnE:n < (aj rs).length:=by rw [aT]; exact hn
  have heE:(aj rs)[n]=rs[n].e:=by simp [aj]
  have UA:av rs[n].e=true:=by rw [← heE]; exact HES.out.2.1 n hnE
  have hkl:=uC HES.out hnE;rw [heE] at hkl;obtain ⟨hk5,hkind⟩:=qi UA;have HT:Hid (iU (aj rs) n inside=inT rs[n].e inside (lW (jC (aj rs) n) rs[n].e)):=by show _=_; unfold iU; rw [D7 hnE,heE]
  have HN:Hid (av rs[n].e=true):=UA;have Vl:Hid (∀ k ∈ rs[n].e.kids,0≤k∧k.toNat < n):=hkl;have hn1:=bB n;have hn2:(n:Int) < (rs.length:Int):=by omega
  clear ih hr hok UA hkl heE;by_cases k1:rs[n].e.kind=1
  ·skip
   obtain ⟨W,hW⟩:∃ W,W=w.alloc (.cells #[.int .i64 1,.slice rs[n].adA rs[n].e.allow.length rs[n].capA,.string rs[n].e.over,.string rs[n].e.name,.slice rs[n].adK rs[n].e.kids.length rs[n].capK] 39):=⟨_,rfl⟩;have hB0:ag w W:=by rw [hW]; exact (TT _ _).alloc (TS _) _
   have hgl:w.heap.size < W.heap.size:=by rw [hW]; simp
   have g0:W.cell? ⟨w.heap.size,0,none⟩=some (.int .i64 1):=by rw [hW]; simp
   have g1:W.cell? ⟨w.heap.size,1,none⟩=some (.slice rs[n].adA rs[n].e.allow.length rs[n].capA):=by rw [hW]; simp
   have g2:W.cell? ⟨w.heap.size,2,none⟩=some (.string rs[n].e.over):=by rw [hW]; simp
   have g3:W.cell? ⟨w.heap.size,3,none⟩=some (.string rs[n].e.name):=by rw [hW]; simp
   have g4:W.cell? ⟨w.heap.size,4,none⟩=some (.slice rs[n].adK rs[n].e.kids.length rs[n].capK):=by rw [hW]; simp
   have HB0:=az hB0;clear hB0;have hal:ed rs[n].e.allow=true:=by
    have:=HN.out;unfold av at this;rw [if_pos k1] at this;simp only [TU] at this;exact this.1.1.1
   have hts:=jW hal;have UN:Hid (ed rs[n].e.allow=true):=hal;have HT1:Hid (iU (aj rs) n inside=uA rs[n].e.allow):=by show _=_; rw [HT.out]; simp [inT,lW,k1]
   have hl6:rs[n].e.allow.length≤6:=by unfold ed at hal; simp at hal; exact hal.1.2
   have HAS:Hid (∀ x ∈ rs[n].e.allow.map fG,x.size≤25):=fun x hx=>by
    obtain ⟨a,ha,rfl⟩:=Ue.1 hx;obtain ⟨i,hi,rfl⟩:=Uu ha;unfold ed at hal;simp only [TU] at hal;exact qh (yF hal.2 i hi hi)
   clear hal HT;go_enter func238,ntmps238;go_wp2_with fail;rw [← hW];clear hW t0 t1 t2 t3 t4;go_loopw [8,9] (fun s i wr=>∃ k:Nat,k≤rs[n].e.allow.length∧i=.int .i64 k∧s=.string (fw ⟨#[44]⟩ ((rs[n].e.allow.map fG).take k))∧ag W wr) (fun _ i _=>rs[n].e.allow.length - (intOf i).toNat);case atStart=>exact ⟨0,TW _,rfl,by rw [mW],TT _ _⟩
   obtain ⟨k,hk,rfl,rfl,hB⟩:=hrel;have hBw:ag w wr:=HB0.out.trans (hB.mono HB0.out.size);have a1:=kept hB hgl g1;have hsj:(fw ⟨#[44]⟩ ((rs[n].e.allow.map fG).take k)).size≤200:=by
    have h:=xP ⟨#[44]⟩ (rs[n].e.allow.map fG) 25 k HAS.out;have e1:(⟨#[44]⟩:ByteArray).size=1:=rfl;rw [e1] at h;omega
   by_cases hlt:k < rs[n].e.allow.length
   ·rcases (HO.out rs[n] (TQ hn)).1.below hBw with hnil | ⟨ba,Wn,Wo,Yl,hra⟩
    ·rw [hnil] at hlt; simp at hlt
    rw [Wo] at a1;obtain ⟨q0,q1⟩:=hra k hlt;have hab:Fq rs[n].e.allow[k]=true:=by
     have:=UN.out;unfold ed at this;simp only [TU] at this;exact yF this.2 k hlt hlt
    have z2:=qh hab;unfold Fq at hab;rw [TU] at hab;have z0:=bQ hab.1;have z1:=zk hab.2;have hk1:=bB k;have hk2:(k:Int) < (rs[n].e.allow.length:Int):=by omega
    clear hra Wo hab;by_cases hk0:0 < k
    ·have hk3:(0:Int) < (k:Int):=by omega
     have HJ:Hid (fw ⟨#[44]⟩ ((rs[n].e.allow.map fG).take (k + 1))=fw ⟨#[44]⟩ ((rs[n].e.allow.map fG).take k) ++ ⟨#[44]⟩ ++ fG rs[n].e.allow[k]):=by show _=_; rw [xO _ _ _ (by simpa using hlt) hk0,List.getElem_map]
     go_wp2_with fail;refine (xN rs[n].e.allow[k] _ z0 z1).mono ?_;rintro e w1 ⟨rfl,hb1⟩;have hB1:ag W w1:=hB.trans (hb1.mono hB.size);clear hb1;go_wp2;go_roundw;case rel=>exact ⟨k + 1,by omega,by go_num,by rw [HJ.out],hB1⟩
     simp [intOf] <;> omega
    skip
    have hk3:¬ (0:Int) < (k:Int):=by omega
    have HJ:Hid (fw ⟨#[44]⟩ ((rs[n].e.allow.map fG).take (k + 1))=fw ⟨#[44]⟩ ((rs[n].e.allow.map fG).take k) ++ fG rs[n].e.allow[k]):=by
     show _=_;obtain rfl:k=0:=by omega
     rw [mW,Ao _ _ (by simpa using hlt),List.getElem_map]
    go_wp2_with fail;refine (xN rs[n].e.allow[k] _ z0 z1).mono ?_;rintro e w1 ⟨rfl,hb1⟩;have hB1:ag W w1:=hB.trans (hb1.mono hB.size);clear hb1;go_wp2;go_roundw;case rel=>exact ⟨k + 1,by omega,by go_num,by rw [HJ.out],hB1⟩
    simp [intOf] <;> omega
   obtain rfl:k=rs[n].e.allow.length:=by omega
   have HE:Hid ((rs[n].e.allow.map fG).take rs[n].e.allow.length=rs[n].e.allow.map fG):=by show _=_; rw [List.take_of_length_le (by simp)]
   go_wp2;go_ret;exact ⟨by rw [HT1.out]; exact qK (by rw [HE.out]; rfl),hBw⟩
  by_cases k2:rs[n].e.kind=2
  ·have HT1:Hid (iU (aj rs) n inside=rs[n].e.name):=by show _=_; rw [HT.out]; simp [inT,lW,k2]
   clear HT;go_enter func238,ntmps238;go_wp2;go_ret;exact ⟨by rw [HT1.out]; rfl,(TT _ _).alloc (TS _) _⟩
  by_cases k3:rs[n].e.kind=3
  ·have HT1:Hid (iU (aj rs) n inside=rs[n].e.over ++ ⟨#[45,62]⟩ ++ rs[n].e.name):=by show _=_; rw [HT.out]; simp [inT,lW,k3]
   have hsz:rs[n].e.over.size≤12∧rs[n].e.name.size≤12:=by
    have:=HN.out;unfold av at this;rw [if_neg k1,if_neg k2,if_pos k3] at this;simp only [TU] at this;exact ⟨bQ this.1.1.1,bQ this.1.1.2⟩
   obtain ⟨z0,z1⟩:=hsz;clear HT;go_enter func238,ntmps238;go_wp2;go_ret;exact ⟨by rw [HT1.out]; rfl,(TT _ _).alloc (TS _) _⟩
  skip
  obtain ⟨W,hW⟩:∃ W,W=w.alloc (.cells #[.int .i64 rs[n].e.kind,.slice rs[n].adA rs[n].e.allow.length rs[n].capA,.string rs[n].e.over,.string rs[n].e.name,.slice rs[n].adK rs[n].e.kids.length rs[n].capK] 39):=⟨_,rfl⟩;have hB0:ag w W:=by rw [hW]; exact (TT _ _).alloc (TS _) _
  have hgl:w.heap.size < W.heap.size:=by rw [hW]; simp
  have g0:W.cell? ⟨w.heap.size,0,none⟩=some (.int .i64 rs[n].e.kind):=by rw [hW]; simp
  have g1:W.cell? ⟨w.heap.size,1,none⟩=some (.slice rs[n].adA rs[n].e.allow.length rs[n].capA):=by rw [hW]; simp
  have g2:W.cell? ⟨w.heap.size,2,none⟩=some (.string rs[n].e.over):=by rw [hW]; simp
  have g3:W.cell? ⟨w.heap.size,3,none⟩=some (.string rs[n].e.name):=by rw [hW]; simp
  have g4:W.cell? ⟨w.heap.size,4,none⟩=some (.slice rs[n].adK rs[n].e.kids.length rs[n].capK):=by rw [hW]; simp
  have HB0:=az hB0;clear hB0;have HT1:Hid (iU (aj rs) n inside=if inside then ⟨#[40]⟩ ++ fw (gH rs[n].e.kind) (rs[n].e.kids.map (jC (aj rs) n)) ++ ⟨#[41]⟩ else fw (gH rs[n].e.kind) (rs[n].e.kids.map (jC (aj rs) n))):=by
   show _=_; rw [HT.out]; simp [inT,lW,k1,k2,k3]
  have HTS:Hid (∀ x ∈ rs[n].e.kids.map (jC (aj rs) n),x.size≤20000000000000):=fun x hx=>by
   obtain ⟨k,hk,rfl⟩:=Ue.1 hx;have hlt:=Vl.out k hk;unfold jC;rw [if_pos hlt.2,D6];exact Da HES.out _ (by rw [aT]; omega) true
  have kb1:(rs[n].e.kind == 1)=false:=by simpa using k1
  have kb2:(rs[n].e.kind == 2)=false:=by simpa using k2
  have kb3:(rs[n].e.kind == 3)=false:=by simpa using k3
  clear HT hkind;go_enter func238,ntmps238;go_wp2_with fail;rw [← hW];clear hW t0 t1 t2 t3 t4;go_loopw [8,10] (fun s i wr=>∃ k:Nat,k≤rs[n].e.kids.length∧i=.int .i64 k∧s=.string (fw (gH rs[n].e.kind) ((rs[n].e.kids.map (jC (aj rs) n)).take k))∧ag W wr) (fun _ i _=>rs[n].e.kids.length - (intOf i).toNat);case atStart=>exact ⟨0,TW _,rfl,by rw [mW],TT _ _⟩
  obtain ⟨k,hk,rfl,rfl,hB⟩:=hrel;have hBw:ag w wr:=HB0.out.trans (hB.mono HB0.out.size);have hbw:b < wr.heap.size:=TP hb hBw.size;have a0:=kept hB hgl g0;have a4:=kept hB hgl g4;have hsg:=lV rs[n].e.kind;have hsj:(fw (gH rs[n].e.kind) ((rs[n].e.kids.map (jC (aj rs) n)).take k)).size≤100000000000100:=by
   have h:=xP (gH rs[n].e.kind) (rs[n].e.kids.map (jC (aj rs) n)) 20000000000000 k HTS.out;rw [hsg] at h;omega
  by_cases hlt:k < rs[n].e.kids.length
  ·rcases (HO.out rs[n] (TQ hn)).2.below hBw with hnil | ⟨bk,offk,U7,hbk,YI⟩
   ·rw [hnil] at hlt; simp at hlt
   rw [U7] at a4;have q0:=YI k hlt;obtain ⟨hz0,hz1⟩:=Vl.out rs[n].e.kids[k] (TQ hlt);obtain ⟨m,hm⟩:∃ m:Nat,rs[n].e.kids[k]=(m:Int):=⟨rs[n].e.kids[k].toNat,by omega⟩;rw [hm] at q0 hz1;have hmn:m < n:=by simpa using hz1
   have hmr:m < rs.length:=by omega
   have HFm:Hid (jC (aj rs) n rs[n].e.kids[k]=iU (aj rs) m true):=by show _=_; rw [hm]; unfold jC; rw [if_pos (by simpa using hmn),D6]; simp
   have hsm:=Da HES.out m (by rw [aT]; exact hmr) true;have hk1:=bB k;have hk2:(k:Int) < (rs[n].e.kids.length:Int):=by omega
   clear YI U7 hz0 hz1 hm;by_cases hk0:0 < k
   ·have hk3:(0:Int) < (k:Int):=by omega
    have HJ:Hid (fw (gH rs[n].e.kind) ((rs[n].e.kids.map (jC (aj rs) n)).take (k + 1))=fw (gH rs[n].e.kind) ((rs[n].e.kids.map (jC (aj rs) n)).take k) ++ gH rs[n].e.kind ++ iU (aj rs) m true):=by show _=_; rw [xO _ _ _ (by simpa using hlt) hk0,List.getElem_map,HFm.out]
    go_wp2_with fail;refine (mi _ _).mono ?_;rintro e w' ⟨rfl,rfl⟩;go_wp2_with fail;refine (IH.out m hmn true _ hmr hbw (fun i hi=>(HR.out i hi).later hb hBw) (fun r hr=>(HO.out r hr).below hBw)).mono ?_;rintro e w1 ⟨rfl,hb1⟩;have hB1:ag W w1:=hB.trans (hb1.mono hB.size);clear hb1;go_wp2;go_roundw;case rel=>exact ⟨k + 1,by omega,by go_num,by rw [HJ.out],hB1⟩
    simp [intOf] <;> omega
   skip
   have hk3:¬ (0:Int) < (k:Int):=by omega
   have HJ:Hid (fw (gH rs[n].e.kind) ((rs[n].e.kids.map (jC (aj rs) n)).take (k + 1))=fw (gH rs[n].e.kind) ((rs[n].e.kids.map (jC (aj rs) n)).take k) ++ iU (aj rs) m true):=by
    have h0:=HFm.out;show _=_;obtain rfl:k=0:=by omega
    rw [mW,Ao _ _ (by simpa using hlt),List.getElem_map,h0]
   go_wp2_with fail;refine (IH.out m hmn true _ hmr hbw (fun i hi=>(HR.out i hi).later hb hBw) (fun r hr=>(HO.out r hr).below hBw)).mono ?_;rintro e w1 ⟨rfl,hb1⟩;have hB1:ag W w1:=hB.trans (hb1.mono hB.size);clear hb1;go_wp2;go_roundw;case rel=>exact ⟨k + 1,by omega,by go_num,by rw [HJ.out],hB1⟩
   simp [intOf] <;> omega
  obtain rfl:k=rs[n].e.kids.length:=by omega
  have HE:Hid ((rs[n].e.kids.map (jC (aj rs) n)).take rs[n].e.kids.length=rs[n].e.kids.map (jC (aj rs) n)):=by show _=_; rw [List.take_of_length_le (by simp)]
  cases inside;case true=>
   go_wp2;go_ret;exact ⟨by rw [HT1.out]; exact qK (by rw [HE.out]; rfl),hBw⟩
  go_wp2;go_ret;exact ⟨by rw [HT1.out]; exact qK (by rw [HE.out]; rfl),hBw⟩
def gQ (es:List Ex):ByteArray:=if aK es then iU es (es.length - 1) false else ⟨#[]⟩
theorem Db {es:List Ex} (h:aK es=false):gQ es=⟨#[]⟩:=by simp [gQ,h]
theorem Ap {es:List Ex} (h:aK es=true):gQ es=iU es (es.length - 1) false:=by simp [gQ,h]
theorem oq (ad:Option Addr) (cap:Nat) (rs:List ER) (w:af) (hlen:rs.length≤1048576) (hl:∀ r ∈ rs,r.e.light) (hf:∀ r ∈ rs,r.e.fits) (hs:iH w ad rs) :
  Calls prog 220 #[.slice ad rs.length cap] w fun e w'=>e=.returned (.string (gQ (aj rs)))∧ag w w':=by
 have HS:=az hs;have HL:=az hl;have HF:=az hf;clear hs hl hf;go_enter func220,ntmps220;go_wp2_with fail;refine (mh ad cap rs _ hlen HL.out HF.out HS.out).mono ?_;rintro e w1 ⟨he,hb1⟩;have HB1:=az hb1;clear hb1;cases hE:aK (aj rs);case false=>
  rw [hE] at he;subst he;have HX:Hid (gQ (aj rs)=⟨#[]⟩):=Db hE;go_wp2;go_ret;exact ⟨by rw [HX.out]; rfl,HB1.out⟩
 rw [hE] at he;subst he;have h1:1≤rs.length:=by
  have:=hE;unfold aK at this;simp only [TU,Ud,aT] at this;exact this.1.1.1.1.1
 rcases HS.out.below HB1.out with rfl | ⟨b,off,rfl,hb,hr,hok⟩
 ·simp at h1
 have HR:Hid (∀ (i:Nat) (h:i < rs.length),x8 w1 b (off + i * 5) rs[i]):=hr;have HO:=az hok;have Vz:Hid (Ro (aj rs)):=NJ hE;have HX:Hid (gQ (aj rs)=iU (aj rs) (rs.length - 1) false):=by show _=_; rw [Ap hE,aT]
 have Yy:Hid (((rs.length:Int) - 1)=((rs.length - 1:Nat):Int)):=by show _=_; omega
 clear hr hok;go_wp2_with fail;rw [Yy.out];refine (Jg b off cap rs Vz.out HL.out (rs.length - 1) false _ (by omega) hb HR.out HO.out).mono ?_;rintro e w2 ⟨rfl,hb2⟩;have HB2:=jP HB1 hb2;clear hb2;go_wp2;go_ret;exact ⟨by rw [HX.out]; rfl,HB2.out⟩
open Go.Sort
set_option maxRecDepth 100000
theorem Gs (ad:Option Addr) (cap:Nat) (xs:List Al) (w:af) (hlen:xs.length≤1048576) (hcap:xs.length≤cap) (hf:∀ a ∈ xs,a.fits) (hs:jM w ad xs) :
  Calls prog 252 #[.slice ad xs.length cap] w fun e w'=>e=.returned (.bool (ed xs))∧ag w w':=by
 have HS:=az hs;have HF:=az hf;clear hs hf;by_cases hl:1≤xs.length∧xs.length≤6
 ·obtain ⟨hl1,hl2⟩:=hl;go_enter func252,ntmps252;go_wp2_with fail;go_loopw [15] (fun i wr=>∃ k:Nat,k≤xs.length∧i=.int .i64 k∧Hid (DT xs k=true)∧ag w wr) (fun i _=>xs.length - (intOf i).toNat);case atStart=>exact ⟨0,TW _,rfl,rfl,TT _ _⟩
  obtain ⟨k,hk,rfl,HU,hB⟩:=hrel;by_cases hlt:k < xs.length
  ·rcases HS.out.below hB with rfl | ⟨b,off,rfl,hb,hr⟩
   ·simp at hlt
   obtain ⟨t0,t1⟩:=hr k hlt;obtain ⟨z0,z1⟩:=HF.out xs[k] (TQ hlt);have hk1:=bB k;have hk2:(k:Int)≤(cap:Int):=by omega
   obtain ⟨W1,hW1⟩:∃ W1,W1=wr.alloc (.cells #[.string xs[k].t,.string xs[k].s] 43):=⟨_,rfl⟩;have hal:ag wr W1:=by rw [hW1]; exact (TT _ _).alloc (TS _) _
   have hBW1:Below w.heap.size wr W1:=hal.mono hB.size;have hWs:w.heap.size≤W1.heap.size:=TZ hB.size hal.size;have hgl:wr.heap.size < W1.heap.size:=by rw [hW1]; simp
   have g0:W1.cell? ⟨wr.heap.size,0,none⟩=some (.string xs[k].t):=by rw [hW1]; simp
   have g1:W1.cell? ⟨wr.heap.size,1,none⟩=some (.string xs[k].s):=by rw [hW1]; simp
   have HS1:Hid (jM W1 (some ⟨b,off,none⟩) xs):=(HS.out.below hB).below hal;clear hr;go_wp2_with fail;rw [← hW1];clear hW1 t0 t1 hal;have p0:=cell_regrown g0;have p1:=cell_regrown g1;have Va:Hid (∀ d os,ag w (grow (redrawn W1 d) os)):=fun d os=>hB.trans (hBW1.trans ((below_regrown W1 d os).mono hWs));have Vk:=pU (jQ (W:=W1) (fun W'=>aL xs[k].t W' z0));have HCS:=pU (jQ (W:=W1) (fun W'=>Hw xs[k].s W' z1))
   have VF:Hid (∀ d os,Calls prog 142 #[.slice (some ⟨b,off,none⟩) k cap,.agg #[.string xs[k].t,.string xs[k].s]] (grow (redrawn W1 d) os) fun e w''=>e=.returned (.bool (dF xs k xs[k]))∧∃ p:Regrown,w''=grow (redrawn W1 p.d) p.os) :=
    dm fun W' hb=>vk (some ⟨b,off,none⟩) k cap xs xs[k] _ hk hlen (HS1.out.below hb)
   cases hn:aP xs[k].t;case false=>
    have HN:Hid (DT xs xs.length=false):=oM xs k hlt (by simp [Fq,hn]) _ hlt;rw [hn] at Vk;refine wp_region_quiet_below (by kernel_rfl) (by kernel_rfl) ?_
    repeat (go_big_quiet_step (exact Vk.out _ _))
    refine wpQuiet_nil ?_;rintro _ ⟨⟨dq,osq⟩,rfl⟩;go_wp2;go_ret;exact ⟨ah (by simp [ed,HN.out]),Va.out dq osq⟩
   rw [hn] at Vk;cases hsb:ui xs[k].s;case false=>
    have HN:Hid (DT xs xs.length=false):=oM xs k hlt (by simp [Fq,hn,hsb]) _ hlt;rw [hsb] at HCS;refine wp_region_quiet_below (by kernel_rfl) (by kernel_rfl) ?_
    repeat (go_big_quiet_step (first | exact Vk.out _ _ | exact HCS.out _ _))
    refine wpQuiet_nil ?_;rintro _ ⟨⟨dq,osq⟩,rfl⟩;go_wp2;go_ret;exact ⟨ah (by simp [ed,HN.out]),Va.out dq osq⟩
   rw [hsb] at HCS;obtain ⟨p,hp⟩:∃ p,dF xs k xs[k]=p:=⟨_,rfl⟩;rw [hp] at VF;refine wp_region_quiet_below (by kernel_rfl) (by kernel_rfl) ?_
   repeat (go_big_quiet_step (first | exact Vk.out _ _ | exact HCS.out _ _ | exact VF.out _ _))
   refine wpQuiet_nil ?_;rintro _ ⟨⟨dq,osq⟩,rfl⟩;cases p;case true=>
    have HN:Hid (DT xs xs.length=false):=oM xs k hlt (by simp [hp]) _ hlt;go_wp2;go_ret;exact ⟨ah (by simp [ed,HN.out]),Va.out dq osq⟩
   have Yw:Hid (DT xs (k + 1)=true):=by show _=_; rw [yV _ _ hlt,HU.out]; simp [Fq,hn,hsb,hp]
   go_wp2;go_roundw;case rel=>exact ⟨k + 1,by omega,by go_num,Yw,Va.out dq osq⟩
   simp [intOf] <;> omega
  obtain rfl:k=xs.length:=by omega
  have ZG:Hid (ed xs=true):=by show _=_; simp [ed,hl1,hl2,HU.out]
  go_wp2;go_ret;exact ⟨by rw [ZG.out]; rfl,hB⟩
 have ZG:Hid (ed xs=false):=by
  show _=_;unfold ed;by_cases h1:1≤xs.length
  ·have h2:¬ xs.length≤6:=fun h2=>hl ⟨h1,h2⟩;simp [h2]
  simp [h1]
 go_enter func252,ntmps252;go_wp2_with fail
 all_goals go_ret
 all_goals exact ⟨by rw [ZG.out]; rfl,TT _ _⟩
set_option maxRecDepth 8000 in
theorem Gt (r:ER) (w:af) (hf:r.e.fits) (hl:r.e.light) (hok:r.ok w) (hcap:r.e.allow.length≤r.capA) (h1:r.e.kind=1) :
  Calls prog 239 #[r.val] w fun e w'=>e=.returned (.bool (av r.e))∧ag w w':=by
 obtain ⟨⟨kind,allow,over,name,kids⟩,adA,capA,adK,capK⟩:=r;obtain ⟨f1,f2,f3,f4,f5⟩:=hf;obtain ⟨hA,hK⟩:=hok;obtain ⟨l1,l2⟩:=hl;simp only at f1 f2 f3 f4 f5 h1 hA hK hcap l1 l2;subst h1;simp only [ER.val];unfold maxLen at f4 f5;have HB0:Hid (∀ n,ag w ((w.alloc (.cells #[.int .i64 1,.slice adA allow.length capA,.string over,.string name,.slice adK kids.length capK] 39)).drewN n)):=fun n=>below_drewN ((TT w.heap.size w).alloc (TS _) _) n;have HA:=az hA;have VH:=az f1;have HCAP:Hid (allow.length≤capA):=hcap;clear hA hK f1 hcap;go_enter func239,ntmps239;go_wp2_with fail;go_quiet (fail);go_wp2_with fail;refine (Gs adA capA allow _ l1 HCAP.out VH.out (HA.out.below (HB0.out _))).mono ?_;rintro e w1 ⟨rfl,hb1⟩;have c2:w1.cell? ⟨w.heap.size,2,none⟩=some (.string over):=by rw [hb1.cell (p:=⟨w.heap.size,2,none⟩) (by show _ < (w.alloc _).heap.size; simp)]; show (w.alloc _).cell? _=_; simp
 have c3:w1.cell? ⟨w.heap.size,3,none⟩=some (.string name):=by rw [hb1.cell (p:=⟨w.heap.size,3,none⟩) (by show _ < (w.alloc _).heap.size; simp)]; show (w.alloc _).cell? _=_; simp
 have HB1:Hid (ag w w1):=(HB0.out _).trans (hb1.mono (HB0.out _).size);clear hb1 HB0;go_wp2
 all_goals go_ret
 all_goals exact ⟨ah (by first | (simp [av, *]; done) | (simp [av, *]; omega) | (simp [av, *]; rw [Bool.eq_iff_iff]; simp; done) | (simp [av, *]; rw [Bool.eq_iff_iff]; simp; omega)),HB1.out⟩
theorem Jh (r:ER) (w:af) (hf:r.e.fits) (hl:r.e.light) (hok:r.ok w) (hcap:r.e.allow.length≤r.capA) :
  Calls prog 239 #[r.val] w fun e w'=>e=.returned (.bool (av r.e))∧ag w w':=by
 by_cases h:r.e.kind=1
 ·exact Gt r w hf hl hok hcap h
 exact Ey r w hf h
structure Arr (es:List Ex) (w:World) (g k:Nat):Prop where
 lt:g < w.heap.size
 told:∀ j,j < k→w.cell? ⟨g,j,none⟩=some (.int .i64 (ay es j))
 rest:∀ j,k≤j→j < 15→w.cell? ⟨g,j,none⟩=some (.int .i64 0)
 free:∀ o,w.frozen? ⟨g,o,none⟩=false
theorem Arr.later {es:List Ex} {w w':af} {g k:Nat} (h:Arr es w g k) (hb:ag w w'):Arr es w' g k where
 lt:=TP h.lt hb.size
 told j hj:=kept hb h.lt (h.told j hj)
 rest j h1 h2:=kept hb h.lt (h.rest j h1 h2)
 free o:=Nq hb h.lt (h.free o)
theorem Arr.put {es:List Ex} {w:af} {g k:Nat} (h:Arr es w g k) (hk:k < 15):Arr es (w.setCell ⟨g,k,none⟩ (.int .i64 (ay es k))) g (k + 1) where
 lt:=by simpa using h.lt
 told j hj:=by
  by_cases e:j=k
  ·subst e; exact xq (h.rest j (TS _) hk)
  rw [lN (Ne.symm e)]; exact h.told j (by omega)
 rest j h1 h2:=by rw [lN (by omega)]; exact h.rest j (by omega) h2
 free o:=by simpa using h.free o
def vv (es:List Ex):Bool:=jv es && decide (ay es (es.length - 1)=0)
theorem Dc {es:List Ex} (k:Nat) (h:k < es.length) (hb:ay es k < 0):vv es=false:=by
 have:jv es=false:=by
  rw [Bool.eq_false_iff]; intro h2; unfold jv at h2; rw [Ub] at h2; have:=h2 k (by simpa using h); simp at this; omega
 simp [vv,this]
theorem yn (b off cap:Nat) (rs:List ER) (w:af) (hn1:1≤rs.length) (hn2:rs.length≤15) (hl:∀ r ∈ rs,r.e.light) (hb:b < w.heap.size) (hr:∀ (i:Nat) (h:i < rs.length),x8 w b (off + i * 5) rs[i]) (hok:∀ r ∈ rs,r.ok w) :
  Calls prog 240 #[.slice (some ⟨b,off,none⟩) rs.length cap] w fun e w'=>e=.returned (.bool (vv (aj rs)))∧ag w w':=by
 have V8:Hid ((aj rs).length=rs.length):=aT rs;have HL:=az hl;have HR:Hid (∀ (i:Nat) (h:i < rs.length),x8 w b (off + i * 5) rs[i]):=hr;have HO:=az hok;clear hl hr hok;go_enter func240,ntmps240;go_wp2_with fail;go_loopw [10] (fun i wr=>∃ k:Nat,k≤rs.length∧i=.int .i64 k∧Hid (Nt (aj rs) k)∧Hid (Arr (aj rs) wr w.heap.size k)∧ag w wr) (fun i _=>rs.length - (intOf i).toNat);case atStart =>
  refine ⟨0,TW _,rfl,(fun j hj=>absurd hj (Uw _)),⟨by simp,(fun j hj=>absurd hj (Uw _)),fun j _ hj=>?_,fun o=>by simp⟩,(TT _ _).alloc (TS _) _⟩;have h15:j=0 ∨ j=1 ∨ j=2 ∨ j=3 ∨ j=4 ∨ j=5 ∨ j=6 ∨ j=7 ∨ j=8 ∨ j=9 ∨ j=10 ∨ j=11 ∨ j=12 ∨ j=13 ∨ j=14:=by omega
  rcases h15 with rfl | rfl | rfl | rfl | rfl | rfl | rfl | rfl | rfl | rfl | rfl | rfl | rfl | rfl | rfl <;> simp
 obtain ⟨k,hk,rfl,HGU,ZT,hB⟩:=hrel;by_cases hlt:k < rs.length
 ·have Wv:k < (aj rs).length:=by rw [V8.out]; exact hlt
  obtain ⟨t0,t1,t2,t3,t4⟩:=(HR.out k hlt).later hb hB;have hk1:=bB k;have hk2:(k:Int) < (rs.length:Int):=by omega
  have hk3:(k:Int) < 15:=by omega
  obtain ⟨-,lk⟩:=HL.out rs[k] (TQ hlt);obtain ⟨W1,hW1⟩:∃ W1,W1=wr.alloc (.cells #[.int .i64 rs[k].e.kind,.slice rs[k].adA rs[k].e.allow.length rs[k].capA,.string rs[k].e.over,.string rs[k].e.name,.slice rs[k].adK rs[k].e.kids.length rs[k].capK] 39):=⟨_,rfl⟩;have hal:ag wr W1:=by rw [hW1]; exact (TT _ _).alloc (TS _) _
  have hB1:ag w W1:=hB.trans (hal.mono hB.size);have HAR1:Hid (Arr (aj rs) W1 w.heap.size k):=ZT.out.later hal;have s4:W1.cell? ⟨wr.heap.size,4,none⟩=some (.slice rs[k].adK rs[k].e.kids.length rs[k].capK):=by rw [hW1]; simp
  have HT:Hid (di (dx (aj rs) k) (rs[k].e.kids.take rs[k].e.kids.length).reverse ((k:Int) - 1)=ay (aj rs) k):=by
   show _=_;rw [Ug,jb (aj rs) k,pq rs k hlt]
  clear ZT;go_wp2_with fail;rw [← hW1];clear hW1 t0 t1 t2 t3 t4 hal;go_loopw [6,7] (fun x i w2=>∃ (j:Nat) (y:Int),j≤rs[k].e.kids.length∧i=.int .i64 ((j:Int) - 1)∧x=.int .i64 y∧0≤y∧y≤k∧Hid (di (dx (aj rs) k) (rs[k].e.kids.take j).reverse (y - 1)=ay (aj rs) k)∧w2=W1) (fun _ i _=>(intOf i + 1).toNat);case atStart=>exact ⟨rs[k].e.kids.length,(k:Int),TS _,rfl,rfl,by omega,by omega,HT,rfl⟩
  obtain ⟨j,y,hj,rfl,rfl,hy0,hy1,HG,rfl⟩:=hrel;by_cases hj0:0 < j
  ·obtain ⟨j,rfl⟩:∃ i,j=i + 1:=⟨j - 1,by omega⟩;have hjl:j < rs[k].e.kids.length:=by omega
   rcases (HO.out rs[k] (TQ hlt)).2.below hB1 with hnil | ⟨bk,offk,XE,hbk,YI⟩
   ·rw [hnil] at hjl; simp at hjl
   have s4':=s4;rw [XE] at s4';have k0:=YI j hjl;have hji:((j + 1:Nat):Int) - 1=(j:Int):=by omega
   have hj1:=bB j;have hj2:(j:Int) < (rs[k].e.kids.length:Int):=by omega
   have HG2:Hid ((if y - 1 < 0 ∨ rs[k].e.kids[j] ≠ y - 1 then -1 else if dx (aj rs) k (y - 1) < 0 then -1 else di (dx (aj rs) k) (rs[k].e.kids.take j).reverse (dx (aj rs) k (y - 1) - 1))=ay (aj rs) k):=by
    have:=HG.out;rw [TV hjl,List.reverse_append] at this;exact this
   rw [hji];clear HG YI XE s4;by_cases hy:y=0
   ·have HN:Hid (vv (aj rs)=false):=Dc k Wv (by rw [← HG2.out,if_pos (Or.inl (by omega))]; omega);subst hy;go_wp2;go_ret;exact ⟨by rw [HN.out]; rfl,hB1⟩
   obtain ⟨m,rfl⟩:∃ m:Nat,y=(m:Int) + 1:=⟨(y - 1).toNat,by omega⟩;have em:(m:Int) + 1 - 1=(m:Int):=by omega
   by_cases hkx:rs[k].e.kids[j]=(m:Int)
   ·have hF:dx (aj rs) k ((m:Int) + 1 - 1)=ay (aj rs) m:=by rw [em]; unfold dx; rw [if_pos ⟨by omega,by simp; omega⟩]; simp
    have HF:Hid (dx (aj rs) k ((m:Int) + 1 - 1)=ay (aj rs) m):=hF;have hle:=iC (aj rs) m;have hge:0≤ay (aj rs) m:=HGU.out m (by omega);have a0:=HAR1.out.told m (by omega);have hm1:=bB m;have hm2:(m:Int) < 15:=by omega
    have XF:Hid (di (dx (aj rs) k) (rs[k].e.kids.take j).reverse (ay (aj rs) m - 1)=ay (aj rs) k):=by
     show _=_;rw [← HG2.out,if_neg (by omega),HF.out,if_neg (by omega)]
    clear hF HG2;go_wp2;go_roundw;case rel=>exact ⟨j,ay (aj rs) m,by omega,by go_num,rfl,hge,by omega,XF,by first | rfl | trivial⟩
    simp [intOf] <;> omega
   have HN:Hid (vv (aj rs)=false):=Dc k Wv (by rw [← HG2.out,if_pos (Or.inr (by rw [em]; exact hkx))]; omega);have hq:(rs[k].e.kids[j] != (m:Int))=true:=by simpa using hkx
   have hq0:((m:Int) + 1 == 0)=false:=by simp; omega
   go_wp2;go_ret;exact ⟨by rw [HN.out]; rfl,hB1⟩
  obtain rfl:j=0:=by omega
  have hX:ay (aj rs) k=y:=by have:=HG.out; simp [di] at this; omega
  have HGU2:Hid (Nt (aj rs) (k + 1)):=by
   intro m hm;by_cases e:m=k
   ·subst e; omega
   exact HGU.out m (by omega)
  have q0:=HAR1.out.rest k (TS _) (by omega);have qf:=HAR1.out.free;have HA2:=HAR1.out.put (k:=k) (by omega);rw [hX] at HA2;have HA3:Hid (Arr (aj rs) _ w.heap.size (k + 1)):=HA2;have hB2:=hB1.setCell (p:=⟨w.heap.size,k,none⟩) (TS _) (.int .i64 y);clear HG HA2 hX;go_wp2;go_roundw;case rel=>exact ⟨k + 1,by omega,by go_num,HGU2,HA3,hB2⟩
  simp [intOf] <;> omega
 obtain rfl:k=rs.length:=by omega
 have a0:=ZT.out.told (rs.length - 1) (by omega);have HKB:Hid (vv (aj rs)=decide (ay (aj rs) (rs.length - 1)=0)):=by
  show _=_;have:jv (aj rs)=true:=by
   unfold jv;rw [Ub];intro j hj;have hj':j < rs.length:=by simpa [V8.out] using hj
   simpa using HGU.out j hj'
  unfold vv;rw [this,V8.out,Bool.true_and]
 have hcast:((rs.length:Int) - 1)=((rs.length - 1:Nat):Int):=by omega
 have h15:((rs.length - 1:Nat):Int) < 15:=by omega
 have h00:(0:Int)≤((rs.length - 1:Nat):Int):=by omega
 go_wp2;go_ret;exact ⟨by rw [HKB.out]; exact ah (by rw [Bool.eq_iff_iff]; simp),hB⟩
theorem LV {es:List Ex} (h:¬ (1≤es.length∧es.length≤15)):kL es=false:=by rw [← vY]; exact C9 h
theorem Ji {es:List Ex} (k:Nat) (h:k < es.length) (hb:av es[k]=false):kL es=false:=by simp [kL,Ck es k h hb]
theorem Aq (b off cap:Nat) (rs:List ER) (w:af) (hlen:rs.length≤1048576) (hl:∀ r ∈ rs,r.e.light) (hf:∀ r ∈ rs,r.e.fits) (hcp:∀ r ∈ rs,r.e.allow.length≤r.capA) (hb:b < w.heap.size) (hr:∀ (i:Nat) (h:i < rs.length),x8 w b (off + i * 5) rs[i]) (hok:∀ r ∈ rs,r.ok w) :
  Calls prog 221 #[.slice (some ⟨b,off,none⟩) rs.length cap] w fun e w'=>e=.returned (.bool (kL (aj rs)))∧ag w w':=by
 have V8:Hid ((aj rs).length=rs.length):=aT rs;have HL:=az hl;have HF:=az hf;have HCP:Hid (∀ r ∈ rs,r.e.allow.length≤r.capA):=hcp;have HR:Hid (∀ (i:Nat) (h:i < rs.length),x8 w b (off + i * 5) rs[i]):=hr;have HO:=az hok;clear hl hf hr hok hcp;by_cases hn:1≤rs.length∧rs.length≤15
 ·obtain ⟨hn1,hn2⟩:=hn;go_enter func221,ntmps221;go_wp2_with fail;go_loopw [3,16] (fun o i wr=>∃ k:Nat,k≤rs.length∧i=.int .i64 k∧o=.int .i64 (gG (aj rs) k:Nat)∧Hid (jr (aj rs) k=true)∧ag w wr) (fun _ i _=>rs.length - (intOf i).toNat);case atStart=>exact ⟨0,TW _,rfl,rfl,(by show _=_; simp [jr]),TT _ _⟩
  obtain ⟨k,hk,rfl,rfl,HU,hB⟩:=hrel;by_cases hlt:k < rs.length
  ·have Wv:k < (aj rs).length:=by rw [V8.out]; exact hlt
   have HEK:Hid ((aj rs)[k]=rs[k].e):=by show _=_; simp [aj]
   obtain ⟨t0,t1,t2,t3,t4⟩:=(HR.out k hlt).later hb hB;have hk1:=bB k;have hk2:(k:Int) < (rs.length:Int):=by omega
   have hol:=ul (aj rs) k;have hal:ag w (wr.alloc (.cells #[.int .i64 rs[k].e.kind,.slice rs[k].adA rs[k].e.allow.length rs[k].capA,.string rs[k].e.over,.string rs[k].e.name,.slice rs[k].adK rs[k].e.kids.length rs[k].capK] 39)):=hB.alloc hB.size _;have UN:=az hal;clear hal;go_wp2_with fail;refine (Jh rs[k] _ (HF.out _ (TQ hlt)) (HL.out _ (TQ hlt)) ((HO.out _ (TQ hlt)).below UN.out) (HCP.out _ (TQ hlt))).mono ?_;rintro e w1 ⟨rfl,hb1⟩;have hB1:ag w w1:=UN.out.trans (hb1.mono UN.out.size);have g0:w1.cell? ⟨wr.heap.size,0,none⟩=some (.int .i64 rs[k].e.kind):=by rw [hb1.cell (p:=⟨wr.heap.size,0,none⟩) (by simp)]; simp
   clear hb1 t0 t1 t2 t3 t4 UN;cases UA:av rs[k].e;case false=>
    have HN:Hid (kL (aj rs)=false):=Ji k Wv (by rw [HEK.out]; exact UA);go_wp2;go_ret;exact ⟨by rw [HN.out]; rfl,hB1⟩
   have Yw:Hid (jr (aj rs) (k + 1)=true):=by show _=_; rw [uq _ _ Wv,HU.out,HEK.out,UA]; rfl
   have HOW:Hid (gG (aj rs) (k + 1)=gG (aj rs) k + (if rs[k].e.kind=1 then 1 else 0)):=by show _=_; rw [yX _ _ Wv,HEK.out]
   by_cases Zp:rs[k].e.kind=1
   ·have X8:Hid (gG (aj rs) (k + 1)=gG (aj rs) k + 1):=by show _=_; rw [HOW.out,if_pos Zp]
    clear HOW;go_wp2;go_roundw;case rel=>exact ⟨k + 1,by omega,by go_num,by rw [X8.out]; go_num,Yw,hB1⟩
    simp [intOf] <;> omega
   have X8:Hid (gG (aj rs) (k + 1)=gG (aj rs) k):=by show _=_; rw [HOW.out,if_neg Zp]; rfl
   clear HOW;go_wp2;go_roundw;case rel=>exact ⟨k + 1,by omega,by go_num,by rw [X8.out],Yw,hB1⟩
   simp [intOf] <;> omega
  obtain rfl:k=rs.length:=by omega
  have HN:Hid ((aj rs).all av=true):=by
   have:=HU.out;unfold jr at this;rwa [← V8.out,Ug] at this
  have HOW:Hid (gG (aj rs) rs.length=own (aj rs)):=by show _=_; unfold gG; rw [← V8.out,Ug]
  have hol:=ul (aj rs) rs.length;by_cases ho:gG (aj rs) rs.length≤1
  ·have HS:Hid (kL (aj rs)=vv (aj rs)):=by
    show _=_;have h1:own (aj rs)≤1:=by rw [← HOW.out]; exact ho
    have e1:=V8.out;unfold kL vv;rw [e1,HN.out];simp [h1,hn1,hn2]
   go_wp2_with fail;refine (yn b off cap rs _ hn1 hn2 HL.out (TP hb hB.size) (fun i hi=>(HR.out i hi).later hb hB) (fun r hr=>(HO.out r hr).below hB)).mono ?_;rintro e w1 ⟨rfl,hb1⟩;go_wp2;go_ret;exact ⟨by rw [HS.out]; rfl,hB.trans (hb1.mono hB.size)⟩
  have HS:Hid (kL (aj rs)=false):=by
   show _=_;have h1:¬ own (aj rs)≤1:=by rw [← HOW.out]; exact ho
   simp [kL,h1]
  go_wp2;go_ret;exact ⟨by rw [HS.out]; rfl,hB⟩
 have HN:Hid (kL (aj rs)=false):=LV (by rw [V8.out]; exact hn);go_enter func221,ntmps221;go_wp2_with fail
 all_goals go_ret
 all_goals exact ⟨by rw [HN.out]; rfl,TT _ _⟩
theorem Ar (ad:Option Addr) (cap:Nat) (rs:List ER) (w:af) (hlen:rs.length≤1048576) (hl:∀ r ∈ rs,r.e.light) (hf:∀ r ∈ rs,r.e.fits) (hcp:∀ r ∈ rs,r.e.allow.length≤r.capA) (hs:iH w ad rs) :
  Calls prog 221 #[.slice ad rs.length cap] w fun e w'=>e=.returned (.bool (kL (aj rs)))∧ag w w':=by
 rcases hs with rfl | ⟨b,off,rfl,hb,hr,hok⟩
 ·go_enter func221,ntmps221;go_wp2_with fail;go_ret;exact ⟨rfl,TT _ _⟩
 exact Aq b off cap rs w hlen hl hf hcp hb hr hok
set_option linter.unusedVariables false
structure KpO (b l:Nat) (W W':World):Prop where
 size:W.heap.size≤W'.heap.size
 cells:∀ (g:Nat) (cs:Array Value) (T:TypeId) (m:Nat × Nat),W.heap[g]?=some (.cells cs T m)→T ≠ 29→T ≠ 40→W'.heap[g]?=some (.cells cs T m)
 other:∀ (g:Nat) (o:Obj),W.heap[g]?=some o→o.isCells=false→g ≠ l→g ≠ b→W'.heap[g]?=some o
structure KpI (W W':World):Prop where
 size:W.heap.size≤W'.heap.size
 cells:∀ (g:Nat) (cs:Array Value) (T:TypeId) (m:Nat × Nat),W.heap[g]?=some (.cells cs T m)→T=27 ∨ T=147→W'.heap[g]?=some (.cells cs T m)
theorem KpO.trans {b l:Nat} {X Y Z:af} (h:KpO b l X Y) (k:KpO b l Y Z):KpO b l X Z :=
 ⟨TZ h.size k.size,fun g cs T m hg h1 h2=>k.cells g cs T m (h.cells g cs T m hg h1 h2) h1 h2,fun g o hg hc h1 h2=>k.other g o (h.other g o hg hc h1 h2) hc h1 h2⟩
theorem KpI.trans {X Y Z:af} (h:KpI X Y) (k:KpI Y Z):KpI X Z :=
 ⟨TZ h.size k.size,fun g cs T m hg h1=>k.cells g cs T m (h.cells g cs T m hg h1) h1⟩
theorem ow {W:af} {l g:Nat} {o':Obj} (h:g ≠ l):(W.putObj l o').heap[g]?=W.heap[g]?:=World.putObj_heap_other h
theorem KpO.put {b l:Nat} {W:af} {o o':Obj} (h:W.heap[l]?=some o) (hc:o.isCells=false):KpO b l W (W.putObj l o') where
 size:=by simp
 cells g cs T m hg _ _:=by
  have:g ≠ l:=fun e=>by subst e; rw [h] at hg; injection hg with hg; subst hg; cases hc
  rw [ow this]; exact hg
 other g x hg _ h1 _:=by rw [ow h1]; exact hg
theorem KpI.put {l:Nat} {W:af} {o o':Obj} (h:W.heap[l]?=some o) (hc:o.isCells=false):KpI W (W.putObj l o') where
 size:=by simp
 cells g cs T m hg _:=by
  have:g ≠ l:=fun e=>by subst e; rw [h] at hg; injection hg with hg; subst hg; cases hc
  rw [ow this]; exact hg
theorem KpO.below {b l:Nat} {W W':af} (h:ag W W'):KpO b l W W' :=
 ⟨h.size,fun g cs T m hg _ _=>(h.block g (Array.getElem?_eq_some_iff.1 hg).1).trans hg,fun g o hg _ _ _=>(h.block g (Array.getElem?_eq_some_iff.1 hg).1).trans hg⟩
theorem KpI.below {W W':af} (h:ag W W'):KpI W W' :=
 ⟨h.size,fun g cs T m hg _=>(h.block g (Array.getElem?_eq_some_iff.1 hg).1).trans hg⟩
theorem KpO.toI {b l:Nat} {W W':af} (h:KpO b l W W'):KpI W W' :=
 ⟨h.size,fun g cs T m hg hT=>h.cells g cs T m hg (by rcases hT with e | e <;> (rw [e]; decide)) (by rcases hT with e | e <;> (rw [e]; decide))⟩
theorem Au {W W':af} (h:ag W W'):W.grownBy W' none:=⟨h.os,h.tape,h.output,h.size,fun k hk _=>h.block k hk⟩
theorem mX {β:Type} {B:Nat} {I:β→World→Prop} (h:OwnFrom B I) {s:β} {W W':af} (hs:I s W) (hb:ag W W'):I s W':=h s W W' none hs (Au hb) (fun r e=>by cases e)
open Go.Maps
def aH (fs:List Fc):List Value:=fs.flatMap Fc.row
theorem lF:∀ fs:List Fc,(aH fs).length=fs.length * 5
 | []=>rfl
 | f::fs=>by have:=lF fs; simp only [aH,List.flatMap_cons,T9,List.length_cons,Fc.row,List.length_nil] at this ⊢; omega
theorem Av (fs:List Fc) (f:Fc):aH (fs ++ [f])=aH fs ++ f.row:=by simp [aH]
theorem qL:∀ (fs:List Fc) (i:Nat) (h:i < fs.length) (c:Nat),c < 5→(aH fs)[i * 5 + c]?=fs[i].row[c]?
 | [],i,h,_,_=>by simp at h
 | f::fs,0,_,c,hc=>by
  simp only [aH,List.flatMap_cons,Nat.zero_mul,Um,List.getElem_cons_zero];rw [List.getElem?_append_left (by simp [Fc.row]; omega)]
 | f::fs,i + 1,h,c,hc=>by
  have ih:=qL fs i (by simpa using h) c hc;simp only [aH,List.flatMap_cons,List.getElem_cons_succ] at ih ⊢;rw [List.getElem?_append_right (by simp [Fc.row]; omega)];have:(i + 1) * 5 + c - f.row.length=i * 5 + c:=by simp [Fc.row]; omega
  rw [this]; exact ih
theorem mY {w:af} {base:Nat} {v:Value} {fs:List Fc} (h:w.ownsRow base 29 5 v fs.length (aH fs)):∃ ad cap,v=.slice ad fs.length cap∧Bu w ad fs:=by
 rcases h.2 with ⟨rfl,h0⟩ | ⟨g,cap,cur,rfl,hbg,hg,hnc,-⟩
 ·exact ⟨none,0,by rw [h0],.inl (Ui.1 h0)⟩
 refine ⟨_,cap,rfl,.inr ⟨g,0,rfl,(h.lt g rfl).2,fun i hi=>?_⟩⟩;have hl:=lF fs;have hc:∀ c,c < 5→w.cell? ⟨g,0 + i * 5 + c,none⟩=fs[i].row[c]?:=fun c hc=>by
  rw [h.cellAt (0 + i * 5 + c) (by omega),Um]; exact qL fs i hi c hc
 exact ⟨hc 0 (by omega),hc 1 (by omega),hc 2 (by omega),hc 3 (by omega),hc 4 (by omega)⟩
theorem EF:∃ i,prog.info? 29=some i∧i.zero=some (.agg #[.string ⟨#[]⟩,.string ⟨#[]⟩,.string ⟨#[]⟩,.string ⟨#[]⟩,.string ⟨#[]⟩])∧i.size=5∧i.bytes=80 :=
 info_parts (P:=prog) (e:=29) (z:=.agg #[.string ⟨#[]⟩,.string ⟨#[]⟩,.string ⟨#[]⟩,.string ⟨#[]⟩,.string ⟨#[]⟩]) (size:=5) (bytes:=80) (by kernel_rfl)
theorem Kw (w:af) (f:Fc):∀ j u,f.row[j]?=some u→(w.alloc (.cells #[.string f.a,.string f.b,.string f.r,.string f.c,.string f.d] 29)).cell? ((⟨w.heap.size,0,none⟩:Addr).add j)=some u:=fun j u hu=>by
 match j,hu with
 | 0,hu=>simp [Fc.row] at hu; subst hu; simp [Addr.add]
 | 1,hu=>simp [Fc.row] at hu; subst hu; simp [Addr.add]
 | 2,hu=>simp [Fc.row] at hu; subst hu; simp [Addr.add]
 | 3,hu=>simp [Fc.row] at hu; subst hu; simp [Addr.add]
 | 4,hu=>simp [Fc.row] at hu; subst hu; simp [Addr.add]
structure OutI (w W wr:World) (v:Value) (out:List Fc):Prop where
 row:wr.ownsRow w.heap.size 29 5 v out.length (aH out)
 keep:∀ g o x,W.cell? ⟨g,o,none⟩=some x→wr.cell? ⟨g,o,none⟩=some x
 size:W.heap.size≤wr.heap.size
 bel:ag w wr
 free:∀ g,v.ownBlock=some g→∀ o,W.cell? ⟨g,o,none⟩=none
theorem aF {w:af} {g o:Nat} {x:Value} (h:w.cell? ⟨g,o,none⟩=some x):g < w.heap.size:=by
 unfold World.cell? at h;cases ho:w.heap[g]? with
 | none=>simp [ho] at h
 | some o=>exact (Array.getElem?_eq_some_iff.1 ho).1
theorem QD {w:af} {g o:Nat} (h:w.heap.size≤g):w.cell? ⟨g,o,none⟩=none:=by
 cases e:w.cell? ⟨g,o,none⟩ with
 | none=>rfl
 | some x=>have:=aF e; omega
theorem OutI.below {w W wr w':af} {v:Value} {out:List Fc} (h:OutI w W wr v out) (hb:ag wr w'):OutI w W w' v out where
 row:=cO h.row hb
 keep g o x hx:=(hb.cell (p:=⟨g,o,none⟩) (aF (h.keep g o x hx))).trans (h.keep g o x hx)
 size:=TZ h.size hb.size
 bel:=h.bel.trans (hb.mono h.bel.size)
 free:=h.free
theorem OutI.app {w W wr w':af} {v v':Value} {out:List Fc} {f:Fc} (h:OutI w W wr v out) (hown:w'.ownsRow w.heap.size 29 5 v' (out.length + 1) (aH out ++ f.row)) (hgr:wr.grownBy w' v.ownBlock) (hat:v'.ownBlock=v.ownBlock ∨ v'.ownBlock=some wr.heap.size):OutI w W w' v' (out ++ [f]) where
 row:=by rw [Av,T9]; exact hown
 keep g o x hx:=by
  have h1:=h.keep g o x hx;refine (Ul (w:=wr) (a:=⟨g,o,none⟩) (hgr.block g (aF h1) fun e=>?_)).trans h1;rw [h.free g e.symm o] at hx;cases hx
 size:=TZ h.size hgr.size
 bel:=h.bel.grown hgr h.bel.size (fun g hg=>(h.row.lt g hg).1)
 free g hg o:=by
  rcases hat with e | e
  ·rw [e] at hg; exact h.free g hg o
  rw [hg] at e; injection e with e; rw [e]; exact QD h.size
theorem jM.keepC {w w':af} {ad:Option Addr} {xs:List Al} (h:jM w ad xs) (hs:w.heap.size≤w'.heap.size) (hk:∀ g o x,w.cell? ⟨g,o,none⟩=some x→w'.cell? ⟨g,o,none⟩=some x):jM w' ad xs:=by
 rcases h with h | ⟨b,off,e,hb,hr⟩
 ·exact .inl h
 exact .inr ⟨b,off,e,TP hb hs,fun i hi=>⟨hk _ _ _ (hr i hi).1,hk _ _ _ (hr i hi).2⟩⟩
theorem Ik.keepC {w w':af} {ad:Option Addr} {xs:List St} (h:Ik w ad xs) (hs:w.heap.size≤w'.heap.size) (hk:∀ g o x,w.cell? ⟨g,o,none⟩=some x→w'.cell? ⟨g,o,none⟩=some x):Ik w' ad xs:=by
 rcases h with h | ⟨b,off,e,hb,hr⟩
 ·exact .inl h
 exact .inr ⟨b,off,e,TP hb hs,fun i hi=>⟨hk _ _ _ (hr i hi).1,hk _ _ _ (hr i hi).2.1,hk _ _ _ (hr i hi).2.2⟩⟩
theorem Ik.at0 {w:af} {ad:Option Addr} {xs:List St} (h:Ik w ad xs) {k:Nat} (hk:k < xs.length):∃ b off,ad=some ⟨b,off,none⟩∧S9 w b (off + k * 3) xs[k]∧b < w.heap.size:=by
 rcases h with h | ⟨b',off',e,hb,hr⟩
 ·rw [h] at hk; simp at hk
 exact ⟨b',off',e,hr k hk,hb⟩
def Sv:Value→Nat
 | .slice _ n _=>n
 | _=>0
def TG:Value→Nat
 | .bool true=>1
 | _=>0
end Go.Proofs.YtajkkeikihhejaaGreat
