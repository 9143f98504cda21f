/- The contract of the document's walk over a tree, and of its look at a whole expression. -/
import Derived.Test.YtajkkeikihhejaaGreatSq
import Derived.Test.YtajkkeikihhejaaGreatJ18
open Go.Proofs.Tryz
set_option maxHeartbeats 80000000
namespace Go.Proofs.YtajkkeikihhejaaGreat
open Go.ChangeShapes Go.WideShapes Go.ChangeAt Go.RowKit
open Pl
theorem pg (rs:List ER) (n:Nat) (h:n < rs.length):dC (aj rs) n=rs[n].e.kids:=by simp [dC,aj,h]
theorem Jh (b off cap:Nat) (rs:List ER) (hlen:rs.length≤1048576) (hl:∀ r ∈ rs,r.e.light) (n:Nat):∀ (w:af),n < rs.length→b < w.heap.size→(∀ (i:Nat) (h:i < rs.length),x8 w b (off + i * 5) rs[i])→(∀ r ∈ rs,r.ok w) →
  Calls prog 191 #[.slice (some ⟨b,off,none⟩) rs.length cap,.int .i64 (n:Int)] w fun e w'=>e=.returned (.int .i64 (ay (aj rs) n))∧ag w w':=by
 induction n using Nat.strongRecOn with
 | ind n ih =>
  intro w hn hb hr hok
  have IH:Hid (∀ m,m < n→∀ (w:World),m < rs.length→b < w.heap.size→(∀ (i:Nat) (h:i < rs.length),x8 w b (off + i * 5) rs[i])→(∀ r ∈ rs,r.ok w) →
   Calls prog 191 #[.slice (some ⟨b,off,none⟩) rs.length cap,.int .i64 (m:Int)] w fun e w'=>e=.returned (.int .i64 (ay (aj rs) m))∧ag w w'):=ih
  have HR:Hid (∀ (i:Nat) (h:i < rs.length),x8 w b (off + i * 5) rs[i]):=hr;have HO:=az hok;obtain ⟨t0,t1,t2,t3,t4⟩:=hr n hn;obtain ⟨l1,l2⟩:=hl rs[n] (TQ hn);have hn1:=bB n;have hn2:(n:Int) < (rs.length:Int):=by omega
  have HT:Hid (ay (aj rs) n=di (dx (aj rs) n) rs[n].e.kids.reverse ((n:Int) - 1)):=by show _=_; rw [jb,pg rs n hn]
  have HL:=az hl;clear ih hr hok hl l1;go_enter func191,ntmps191;go_wp2_with fail;go_loopw [5,6] (fun a i wr=>∃ (j:Nat) (x:Int),j≤rs[n].e.kids.length∧i=.int .i64 ((j:Int) - 1)∧a=.int .i64 x∧-1≤x∧x < n∧Hid (di (dx (aj rs) n) (rs[n].e.kids.take j).reverse x=ay (aj rs) n)∧ag w wr) (fun _ i _=>(intOf i + 1).toNat);case atStart=>exact ⟨rs[n].e.kids.length,(n:Int) - 1,TS _,rfl,rfl,by omega,by omega,(by show _=_; rw [Ug]; exact HT.out.symm),TT _ _⟩
  obtain ⟨j,x,hj,rfl,rfl,hx0,hx1,HG,hB⟩:=hrel;have s4:=kept hB hb t4;by_cases hj0:0 < j
  ·obtain ⟨j,rfl⟩:∃ i,j=i + 1:=⟨j - 1,by omega⟩;have hjl:j < rs[n].e.kids.length:=by omega
   rcases (HO.out rs[n] (TQ hn)).2.below hB with hnil | ⟨bk,offk,XH,hbk,YK⟩
   ·rw [hnil] at hjl; simp at hjl
   rw [XH] at s4;have k0:=YK j hjl;clear YK;have hji:((j + 1:Nat):Int) - 1=(j:Int):=by omega
   have hj1:=bB j;have hj2:(j:Int) < (rs[n].e.kids.length:Int):=by omega
   have HG2:Hid ((if x < 0 ∨ rs[n].e.kids[j] ≠ x then -1 else if dx (aj rs) n x < 0 then -1 else di (dx (aj rs) n) (rs[n].e.kids.take j).reverse (dx (aj rs) n x - 1))=ay (aj rs) n):=by
    have:=HG.out;rw [TV hjl,List.reverse_append] at this;exact this
   rw [hji];clear HG XH t0 t1 t2 t3 t4;by_cases hxn:x < 0
   ·have HT1:Hid (ay (aj rs) n=-1):=by show _=_; rw [← HG2.out,if_pos (Or.inl hxn)]
    go_wp2;go_ret;exact ⟨by rw [HT1.out]; rfl,hB⟩
   by_cases hkx:rs[n].e.kids[j]=x
   ·obtain ⟨m,rfl⟩:∃ m:Nat,x=(m:Int):=⟨x.toNat,by omega⟩;have hF:dx (aj rs) n (m:Int)=ay (aj rs) m:=by unfold dx; rw [if_pos ⟨by omega,by simp; omega⟩]; simp
    have HF:Hid (dx (aj rs) n (m:Int)=ay (aj rs) m):=hF;have hle:=iB (aj rs) m;clear hF;go_wp2_with fail;refine (IH.out m (by omega) _ (by omega) (TP hb hB.size) (fun i hi=>(HR.out i hi).same fun o=>hB.cell (p:=⟨b,o,none⟩) hb) (fun r hr=>(HO.out r hr).below hB)).mono ?_;rintro e w1 ⟨rfl,hb1⟩;have hB1:ag w w1:=hB.trans (hb1.mono hB.size);clear hb1;by_cases hneg:ay (aj rs) m < 0
    ·have HT1:Hid (ay (aj rs) n=-1):=by show _=_; rw [← HG2.out,if_neg (by omega),HF.out,if_pos hneg]
     go_wp2;go_ret;exact ⟨by rw [HT1.out]; rfl,hB1⟩
    have Xv:Hid (di (dx (aj rs) n) (rs[n].e.kids.take j).reverse (ay (aj rs) m - 1)=ay (aj rs) n):=by
     show _=_;rw [← HG2.out,if_neg (by omega),HF.out,if_neg hneg]
    go_wp2;go_roundw;case rel=>exact ⟨j,ay (aj rs) m - 1,by omega,by go_num,rfl,by omega,by omega,Xv,hB1⟩
    simp [intOf] <;> omega
   have HT1:Hid (ay (aj rs) n=-1):=by show _=_; rw [← HG2.out,if_pos (Or.inr hkx)]
   go_wp2;go_ret;exact ⟨by rw [HT1.out]; rfl,hB⟩
  obtain rfl:j=0:=by omega
  have HT1:Hid (ay (aj rs) n=x + 1):=by show _=_; have:=HG.out; simp [di] at this; exact this.symm
  clear HG t0 t1 t2 t3 t4;go_wp2;go_ret;exact ⟨by rw [HT1.out]; rfl,hB⟩
theorem x8.later {w w':af} {b off:Nat} {r:ER} (h:x8 w b off r) (hb:b < w.heap.size) (hB:ag w w'):x8 w' b off r:=h.same fun o=>hB.cell (p:=⟨b,o,none⟩) hb
theorem Dc {es:List Ex} (h:¬ (1≤es.length∧es.length≤15)):aK es=false:=by
 unfold aK;by_cases h1:1≤es.length
 ·have h2:¬ es.length≤15:=fun h2=>h ⟨h1,h2⟩;simp [h2]
 simp [h1]
theorem Ji {es:List Ex} (k:Nat) (h:k < es.length) (hb:av es[k]=false):aK es=false:=by simp [aK,Cf es k h hb]
theorem Jj {es:List Ex} (k:Nat) (h:k < es.length) (hb:kH es k=false):aK es=false:=by simp [aK,Ni es k h hb]
def pq (zs:List Int) (i j:Nat):Bool:=(zs.take j).all fun k=>decide (0≤k) && decide (k≤(i:Int) - 1)
theorem Ey (zs:List Int) (i j:Nat) (h:j < zs.length):pq zs i (j + 1)=(pq zs i j && (decide (0≤zs[j]) && decide (zs[j]≤(i:Int) - 1))):=by
 unfold pq; rw [TV h,List.all_append]; simp
theorem Gj (zs:List Int) (i j:Nat) (h:j < zs.length) (hb:(decide (0≤zs[j]) && decide (zs[j]≤(i:Int) - 1))=false):(zs.all fun k=>decide (0≤k) && decide (k≤(i:Int) - 1))=false:=by
 rw [Bool.eq_false_iff]; intro h2; rw [Ub] at h2; have:=h2 zs[j] (TQ h); rw [hb] at this; cases this
set_option maxRecDepth 4000 in
theorem Ap (b off cap:Nat) (rs:List ER) (w:af) (hlen:rs.length≤1048576) (hl:∀ r ∈ rs,r.e.light) (hf:∀ r ∈ rs,r.e.fits) (hb:b < w.heap.size) (hr:∀ (i:Nat) (h:i < rs.length),x8 w b (off + i * 5) rs[i]) (hok:∀ r ∈ rs,r.ok w) :
  Calls prog 135 #[.slice (some ⟨b,off,none⟩) rs.length cap] w fun e w'=>e=.returned (.bool (aK (aj rs)))∧ag w w':=by
 have hel:=aT rs;have V6:Hid ((aj rs).length=rs.length):=hel;have HL:=az hl;have HF:=az hf;have HR:Hid (∀ (i:Nat) (h:i < rs.length),x8 w b (off + i * 5) rs[i]):=hr;have HO:=az hok;clear hel hl hf hr hok;by_cases hn:1≤rs.length∧rs.length≤15
 ·obtain ⟨hn1,hn2⟩:=hn;go_enter func135,ntmps135;go_wp2_with fail;go_loopw [3,4] (fun o i wr=>∃ k:Nat,k≤rs.length∧i=.int .i64 k∧o=.int .i64 (gF (aj rs) k:Nat)∧Hid (jr (aj rs) k=true∧iY (aj rs) k=true)∧ag w wr) (fun _ i _=>rs.length - (intOf i).toNat);case atStart=>exact ⟨0,TW _,rfl,rfl,⟨by simp [jr],by simp [iY]⟩,TT _ _⟩
  obtain ⟨k,hk,rfl,rfl,HU,hB⟩:=hrel;by_cases hlt:k < rs.length
  ·have Ww:k < (aj rs).length:=by rw [V6.out]; exact hlt
   have hek:(aj rs)[k]=rs[k].e:=by simp [aj]
   have HEK:Hid ((aj rs)[k]=rs[k].e):=hek;obtain ⟨t0,t1,t2,t3,t4⟩:=(HR.out k hlt).later hb hB;clear hek;have hk1:=bB k;have hk2:(k:Int) < (rs.length:Int):=by omega
   have hol:=uk (aj rs) k;go_wp2_with fail;refine (Eb rs[k] _ (HF.out _ (TQ hlt)) ((HO.out _ (TQ hlt)).below hB)).mono ?_;rintro e w1 ⟨rfl,hb1⟩;cases UA:av rs[k].e;case false=>
    have HN:Hid (aK (aj rs)=false):=Ji k Ww (by rw [HEK.out]; exact UA);go_wp2;go_ret;exact ⟨by rw [HN.out]; rfl,hB.trans (hb1.mono hB.size)⟩
   have hB1:ag w w1:=hB.trans (hb1.mono hB.size);have hbw:b < wr.heap.size:=TP hb hB.size;replace t0:=kept hb1 hbw t0;replace t4:=kept hb1 hbw t4;have hbw1:b < w1.heap.size:=TP hbw hb1.size;clear t1 t2 t3 hb1 hB hbw;go_wp2_with fail;go_loopw [5] (fun i w2=>∃ j:Nat,j≤rs[k].e.kids.length∧i=.int .i64 j∧Hid (pq rs[k].e.kids k j=true)∧w2=w1) (fun i _=>rs[k].e.kids.length - (intOf i).toNat);case atStart=>exact ⟨0,TW _,rfl,(by show _=_; simp [pq]),rfl⟩
   obtain ⟨j,hj,rfl,HP,rfl⟩:=hrel;by_cases hjl:j < rs[k].e.kids.length
   ·rcases (HO.out rs[k] (TQ hlt)).2.below hB1 with hnil | ⟨bk,offk,XH,hbk,YK⟩
    ·rw [hnil] at hjl; simp at hjl
    have t4':=t4;rw [XH] at t4';have k0:=YK j hjl;have hj1:=bB j;have hj2:(j:Int) < (rs[k].e.kids.length:Int):=by omega
    obtain ⟨-,lk⟩:=HL.out rs[k] (TQ hlt);clear YK XH t4;go_wp2_with fail;refine (NZ _ _ _ _).mono ?_;rintro e w' ⟨rfl,rfl⟩;cases hin:(decide (0≤rs[k].e.kids[j]) && decide (rs[k].e.kids[j]≤(k:Int) - 1));case false=>
     have HN:Hid (aK (aj rs)=false):=Jj k Ww (by unfold kH; rw [pg rs k hlt]; exact Gj _ k j hjl hin);go_wp2;go_ret;exact ⟨by rw [HN.out]; rfl,hB1⟩
    have UI:Hid (pq rs[k].e.kids k (j + 1)=true):=by show _=_; rw [Ey _ _ _ hjl,HP.out,hin]; rfl
    go_wp2;go_roundw;case rel=>exact ⟨j + 1,by omega,by go_num,UI,by first | rfl | trivial⟩
    simp [intOf] <;> omega
   obtain rfl:j=rs[k].e.kids.length:=by omega
   have Yx:Hid (jr (aj rs) (k + 1)=true∧iY (aj rs) (k + 1)=true):=by
    refine ⟨?_,?_⟩
    ·rw [ul _ _ Ww,HU.out.1,HEK.out,UA]; rfl
    rw [Fj,HU.out.2];unfold kH;rw [pg rs k hlt];have:=HP.out;unfold pq at this;rw [Ug] at this;rw [this]; rfl
   have HOW:Hid (gF (aj rs) (k + 1)=gF (aj rs) k + (if rs[k].e.kind=1 then 1 else 0)):=by show _=_; rw [yS _ _ Ww,HEK.out]
   by_cases Zr:rs[k].e.kind=1
   ·have Yb:Hid (gF (aj rs) (k + 1)=gF (aj rs) k + 1):=by show _=_; rw [HOW.out,if_pos Zr]
    clear HOW;go_wp2;go_roundw;case rel=>exact ⟨k + 1,by omega,by go_num,by rw [Yb.out]; go_num,Yx,hB1⟩
    simp [intOf] <;> omega
   have Yb:Hid (gF (aj rs) (k + 1)=gF (aj rs) k):=by show _=_; rw [HOW.out,if_neg Zr]; rfl
   clear HOW;go_wp2;go_roundw;case rel=>exact ⟨k + 1,by omega,by go_num,by rw [Yb.out],Yx,hB1⟩
   simp [intOf] <;> omega
  obtain rfl:k=rs.length:=by omega
  have HN:Hid ((aj rs).all av=true):=by
   have:=HU.out.1;unfold jr at this;rwa [← V6.out,Ug] at this
  have HKU:Hid (iY (aj rs) rs.length=true):=HU.out.2;have HOW:Hid (gF (aj rs) rs.length=own (aj rs)):=by show _=_; unfold gF; rw [← V6.out,Ug]
  have hol:=uk (aj rs) rs.length;by_cases ho:gF (aj rs) rs.length≤1
  ·have HS:Hid (aK (aj rs)=decide (ay (aj rs) (rs.length - 1)=0)):=by
    show _=_;have h1:own (aj rs)≤1:=by rw [← HOW.out]; exact ho
    have e1:=V6.out;unfold aK;rw [e1,HN.out,HKU.out];simp [h1,hn1,hn2]
   have hcast:((rs.length:Int) - 1)=((rs.length - 1:Nat):Int):=by omega
   have Yy:Hid (((rs.length:Int) - 1)=((rs.length - 1:Nat):Int)):=hcast;clear hcast;go_wp2_with fail;rw [Yy.out];refine (Jh b off cap rs hlen HL.out (rs.length - 1) _ (by omega) (TP hb hB.size) (fun i hi=>(HR.out i hi).later hb hB) (fun r hr=>(HO.out r hr).below hB)).mono ?_;rintro e w1 ⟨rfl,hb1⟩;go_wp2;go_ret;exact ⟨by rw [HS.out]; exact ah (by rw [Bool.eq_iff_iff]; simp),hB.trans (hb1.mono hB.size)⟩
  have HS:Hid (aK (aj rs)=false):=by
   show _=_;have h1:¬ own (aj rs)≤1:=by rw [← HOW.out]; exact ho
   simp [aK,h1]
  go_wp2;go_ret;exact ⟨by rw [HS.out]; rfl,hB⟩
 have HN:Hid (aK (aj rs)=false):=Dc (by rw [V6.out]; exact hn);go_enter func135,ntmps135;go_wp2_with fail
 all_goals go_ret
 all_goals exact ⟨by rw [HN.out]; rfl,TT _ _⟩
theorem mh (ad:Option Addr) (cap:Nat) (rs:List ER) (w:af) (hlen:rs.length≤1048576) (hl:∀ r ∈ rs,r.e.light) (hf:∀ r ∈ rs,r.e.fits) (hs:iH w ad rs) :
  Calls prog 135 #[.slice ad rs.length cap] w fun e w'=>e=.returned (.bool (aK (aj rs)))∧ag w w':=by
 rcases hs with rfl | ⟨b,off,rfl,hb,hr,hok⟩
 ·go_enter func135,ntmps135;go_wp2_with fail;go_ret;exact ⟨rfl,TT _ _⟩
 exact Ap b off cap rs w hlen hl hf hb hr hok
theorem qL {a b:ByteArray} (h:a=b):Ending.returned (.string a)=.returned (.string b):=by rw [h]
theorem rH (a:bH):(⟨#[]⟩:ByteArray) ++ a=a:=by apply jc; simp [ByteArray.data_append]
theorem xN (a:Al) (w:af) (h1:a.t.size≤12) (h2:a.s.size≤12) :
  Calls prog 251 #[.agg #[.string a.t,.string a.s]] w fun e w'=>e=.returned (.string (fG a))∧ag w w':=by
 have hB:=(TT w.heap.size w).alloc (TS _) (.cells #[.string a.t,.string a.s] 43);cases he:a.s.toList.isEmpty;case true=>
  go_enter func251,ntmps251;go_wp2;go_ret;exact ⟨qL (by simp [fG,he]),hB⟩
 go_enter func251,ntmps251;go_wp2;go_ret;exact ⟨qL (by simp [fG,he]),hB⟩
theorem mi (k:Int) (w:af) :
  Calls prog 235 #[.int .i64 k] w fun e w'=>e=.returned (.string (gG k))∧w'=w:=by
 by_cases h4:k=4
 ·subst h4;go_enter func235,ntmps235;go_wp2;go_ret;exact ⟨rfl,rfl⟩
 by_cases h5:k=5
 ·subst h5;go_enter func235,ntmps235;go_wp2;go_ret;exact ⟨rfl,rfl⟩
 have HS:Hid (gG k=⟨#[32,45,32]⟩):=by show _=_; simp [gG,h4,h5]
 go_enter func235,ntmps235;go_wp2;go_ret;exact ⟨by rw [HS.out]; rfl,rfl⟩
theorem Ez {α:Type} {xs:List α} {k:Nat} (h:k≤xs.length):xs.take k=[] ↔ k=0:=by
 constructor
 ·intro e;have:=congrArg List.length e;rw [Ut,List.length_nil] at this;omega
 rintro rfl; simp
theorem mY (sep:bH) (xs:List ByteArray):fu sep (xs.take 0)=⟨#[]⟩:=by simp [Cg]
theorem Aq (sep:bH) (xs:List ByteArray) (h:0 < xs.length):fu sep (xs.take 1)=⟨#[]⟩ ++ xs[0]:=by
 rw [show (1:Nat)=0 + 1 from rfl,TV h,oL,if_pos (by simp),rH]
theorem xO (sep:bH) (xs:List ByteArray) (k:Nat) (h:k < xs.length) (hk:0 < k):fu sep (xs.take (k + 1))=fu sep (xs.take k) ++ sep ++ xs[k]:=by
 rw [TV h,oL,if_neg];rw [Ez (by omega)]; omega
theorem xP (sep:bH) (xs:List ByteArray) (b k:Nat) (hx:∀ x ∈ xs,x.size≤b):(fu sep (xs.take k)).size≤k * (b + sep.size):=by
 have h1:=oM sep b _ (xs.take k) rfl (fun x h=>hx x (List.mem_of_mem_take h));have h2:(xs.take k).length * (b + sep.size)≤k * (b + sep.size):=Nat.mul_le_mul_right _ (by simp; omega);omega
theorem De {es:List Ex} (hes:Rn es) (n:Nat) (hn:n < es.length) (i:Bool):(iN es n i).size≤20000000000000 :=
 TZ (Hz hes n hn i) (TZ (Ch (by have:=hes.1; omega)) Qc)
set_option maxRecDepth 4000 in
theorem Jk (b off cap:Nat) (rs:List ER) (hes:Rn (aj rs)) (hl:∀ r ∈ rs,r.e.light) (n:Nat):∀ (inside:Bool) (w:af),n < rs.length→b < w.heap.size→(∀ (i:Nat) (h:i < rs.length),x8 w b (off + i * 5) rs[i])→(∀ r ∈ rs,r.ok w) →
  Calls prog 238 #[.slice (some ⟨b,off,none⟩) rs.length cap,.int .i64 (n:Int),.bool inside] w fun e w'=>e=.returned (.string (iN (aj rs) n inside))∧ag w w':=by
 have HES:=az hes;have HL:=az hl;have h15:rs.length≤15:=by have:=hes.1; rw [aT] at this; exact this
 clear hes hl
 induction n using Nat.strongRecOn with
 | ind n ih =>
  intro inside w hn hb hr hok
  have IH:Hid (∀ m,m < n→∀ (inside:Bool) (w:World),m < rs.length→b < w.heap.size→(∀ (i:Nat) (h:i < rs.length),x8 w b (off + i * 5) rs[i])→(∀ r ∈ rs,r.ok w) →
   Calls prog 238 #[.slice (some ⟨b,off,none⟩) rs.length cap,.int .i64 (m:Int),.bool inside] w fun e w'=>e=.returned (.string (iN (aj rs) m inside))∧ag w w'):=ih
  have HR:Hid (∀ (i:Nat) (h:i < rs.length),x8 w b (off + i * 5) rs[i]):=hr;have HO:=az hok;obtain ⟨t0,t1,t2,t3,t4⟩:=hr n hn;have hnE:n < (aj rs).length:=by rw [aT]; exact hn
  have heE:(aj rs)[n]=rs[n].e:=by simp [aj]
  have UA:av rs[n].e=true:=by rw [← heE]; exact HES.out.2.1 n hnE
  have hkl:=ut HES.out hnE;rw [heE] at hkl;obtain ⟨hk5,hkind⟩:=p8 UA;have HT:Hid (iN (aj rs) n inside=inT rs[n].e inside (lT (jw (aj rs) n) rs[n].e)):=by show _=_; unfold iN; rw [DU hnE,heE]
  have HN:Hid (av rs[n].e=true):=UA;have Vm:Hid (∀ k ∈ rs[n].e.kids,0≤k∧k.toNat < n):=hkl;have hn1:=bB n;have hn2:(n:Int) < (rs.length:Int):=by omega
  clear ih hr hok UA hkl heE;by_cases k1:rs[n].e.kind=1
  ·skip
   obtain ⟨W,hW⟩:∃ W,W=w.alloc (.cells #[.int .i64 1,.slice rs[n].adA rs[n].e.allow.length rs[n].capA,.string rs[n].e.over,.string rs[n].e.name,.slice rs[n].adK rs[n].e.kids.length rs[n].capK] 39):=⟨_,rfl⟩;have hB0:ag w W:=by rw [hW]; exact (TT _ _).alloc (TS _) _
   have hgl:w.heap.size < W.heap.size:=by rw [hW]; simp
   have g0:W.cell? ⟨w.heap.size,0,none⟩=some (.int .i64 1):=by rw [hW]; simp
   have g1:W.cell? ⟨w.heap.size,1,none⟩=some (.slice rs[n].adA rs[n].e.allow.length rs[n].capA):=by rw [hW]; simp
   have g2:W.cell? ⟨w.heap.size,2,none⟩=some (.string rs[n].e.over):=by rw [hW]; simp
   have g3:W.cell? ⟨w.heap.size,3,none⟩=some (.string rs[n].e.name):=by rw [hW]; simp
   have g4:W.cell? ⟨w.heap.size,4,none⟩=some (.slice rs[n].adK rs[n].e.kids.length rs[n].capK):=by rw [hW]; simp
   have HB0:=az hB0;clear hB0;have hal:ed rs[n].e.allow=true:=by
    have:=HN.out;unfold av at this;rw [if_pos k1] at this;simp only [TU] at this;exact this.1.1.1
   have hts:=jW hal;have UN:Hid (ed rs[n].e.allow=true):=hal;have HT1:Hid (iN (aj rs) n inside=uq rs[n].e.allow):=by show _=_; rw [HT.out]; simp [inT,lT,k1]
   have hl6:rs[n].e.allow.length≤6:=by unfold ed at hal; simp at hal; exact hal.1.2
   have HAS:Hid (∀ x ∈ rs[n].e.allow.map fG,x.size≤25):=fun x hx=>by
    obtain ⟨a,ha,rfl⟩:=Ue.1 hx;obtain ⟨i,hi,rfl⟩:=Uu ha;unfold ed at hal;simp only [TU] at hal;exact pY (yD hal.2 i hi hi)
   clear hal HT;go_enter func238,ntmps238;go_wp2_with fail;rw [← hW];clear hW t0 t1 t2 t3 t4;go_loopw [8,9] (fun s i wr=>∃ k:Nat,k≤rs[n].e.allow.length∧i=.int .i64 k∧s=.string (fu ⟨#[44]⟩ ((rs[n].e.allow.map fG).take k))∧ag W wr) (fun _ i _=>rs[n].e.allow.length - (intOf i).toNat);case atStart=>exact ⟨0,TW _,rfl,by rw [mY],TT _ _⟩
   obtain ⟨k,hk,rfl,rfl,hB⟩:=hrel;have hBw:ag w wr:=HB0.out.trans (hB.mono HB0.out.size);have a1:=kept hB hgl g1;have hsj:(fu ⟨#[44]⟩ ((rs[n].e.allow.map fG).take k)).size≤200:=by
    have h:=xP ⟨#[44]⟩ (rs[n].e.allow.map fG) 25 k HAS.out;have e1:(⟨#[44]⟩:ByteArray).size=1:=rfl;rw [e1] at h;omega
   by_cases hlt:k < rs[n].e.allow.length
   ·rcases (HO.out rs[n] (TQ hn)).1.below hBw with hnil | ⟨ba,Wp,Wq,Yl,hra⟩
    ·rw [hnil] at hlt; simp at hlt
    rw [Wq] at a1;obtain ⟨q0,q1⟩:=hra k hlt;have hab:Fh rs[n].e.allow[k]=true:=by
     have:=UN.out;unfold ed at this;simp only [TU] at this;exact yD this.2 k hlt hlt
    have z2:=pY hab;unfold Fh at hab;rw [TU] at hab;have z0:=bQ hab.1;have z1:=yU hab.2;have hk1:=bB k;have hk2:(k:Int) < (rs[n].e.allow.length:Int):=by omega
    clear hra Wq hab;by_cases hk0:0 < k
    ·have hk3:(0:Int) < (k:Int):=by omega
     have HJ:Hid (fu ⟨#[44]⟩ ((rs[n].e.allow.map fG).take (k + 1))=fu ⟨#[44]⟩ ((rs[n].e.allow.map fG).take k) ++ ⟨#[44]⟩ ++ fG rs[n].e.allow[k]):=by show _=_; rw [xO _ _ _ (by simpa using hlt) hk0,List.getElem_map]
     go_wp2_with fail;refine (xN rs[n].e.allow[k] _ z0 z1).mono ?_;rintro e w1 ⟨rfl,hb1⟩;have hB1:ag W w1:=hB.trans (hb1.mono hB.size);clear hb1;go_wp2;go_roundw;case rel=>exact ⟨k + 1,by omega,by go_num,by rw [HJ.out],hB1⟩
     simp [intOf] <;> omega
    skip
    have hk3:¬ (0:Int) < (k:Int):=by omega
    have HJ:Hid (fu ⟨#[44]⟩ ((rs[n].e.allow.map fG).take (k + 1))=fu ⟨#[44]⟩ ((rs[n].e.allow.map fG).take k) ++ fG rs[n].e.allow[k]):=by
     show _=_;obtain rfl:k=0:=by omega
     rw [mY,Aq _ _ (by simpa using hlt),List.getElem_map]
    go_wp2_with fail;refine (xN rs[n].e.allow[k] _ z0 z1).mono ?_;rintro e w1 ⟨rfl,hb1⟩;have hB1:ag W w1:=hB.trans (hb1.mono hB.size);clear hb1;go_wp2;go_roundw;case rel=>exact ⟨k + 1,by omega,by go_num,by rw [HJ.out],hB1⟩
    simp [intOf] <;> omega
   obtain rfl:k=rs[n].e.allow.length:=by omega
   have HE:Hid ((rs[n].e.allow.map fG).take rs[n].e.allow.length=rs[n].e.allow.map fG):=by show _=_; rw [List.take_of_length_le (by simp)]
   go_wp2;go_ret;exact ⟨by rw [HT1.out]; exact qL (by rw [HE.out]; rfl),hBw⟩
  by_cases k2:rs[n].e.kind=2
  ·have HT1:Hid (iN (aj rs) n inside=rs[n].e.name):=by show _=_; rw [HT.out]; simp [inT,lT,k2]
   clear HT;go_enter func238,ntmps238;go_wp2;go_ret;exact ⟨by rw [HT1.out]; rfl,(TT _ _).alloc (TS _) _⟩
  by_cases k3:rs[n].e.kind=3
  ·have HT1:Hid (iN (aj rs) n inside=rs[n].e.over ++ ⟨#[45,62]⟩ ++ rs[n].e.name):=by show _=_; rw [HT.out]; simp [inT,lT,k3]
   have hsz:rs[n].e.over.size≤12∧rs[n].e.name.size≤12:=by
    have:=HN.out;unfold av at this;rw [if_neg k1,if_neg k2,if_pos k3] at this;simp only [TU] at this;exact ⟨bQ this.1.1.1,bQ this.1.1.2⟩
   obtain ⟨z0,z1⟩:=hsz;clear HT;go_enter func238,ntmps238;go_wp2;go_ret;exact ⟨by rw [HT1.out]; rfl,(TT _ _).alloc (TS _) _⟩
  skip
  obtain ⟨W,hW⟩:∃ W,W=w.alloc (.cells #[.int .i64 rs[n].e.kind,.slice rs[n].adA rs[n].e.allow.length rs[n].capA,.string rs[n].e.over,.string rs[n].e.name,.slice rs[n].adK rs[n].e.kids.length rs[n].capK] 39):=⟨_,rfl⟩;have hB0:ag w W:=by rw [hW]; exact (TT _ _).alloc (TS _) _
  have hgl:w.heap.size < W.heap.size:=by rw [hW]; simp
  have g0:W.cell? ⟨w.heap.size,0,none⟩=some (.int .i64 rs[n].e.kind):=by rw [hW]; simp
  have g1:W.cell? ⟨w.heap.size,1,none⟩=some (.slice rs[n].adA rs[n].e.allow.length rs[n].capA):=by rw [hW]; simp
  have g2:W.cell? ⟨w.heap.size,2,none⟩=some (.string rs[n].e.over):=by rw [hW]; simp
  have g3:W.cell? ⟨w.heap.size,3,none⟩=some (.string rs[n].e.name):=by rw [hW]; simp
  have g4:W.cell? ⟨w.heap.size,4,none⟩=some (.slice rs[n].adK rs[n].e.kids.length rs[n].capK):=by rw [hW]; simp
  have HB0:=az hB0;clear hB0;have HT1:Hid (iN (aj rs) n inside=if inside then ⟨#[40]⟩ ++ fu (gG rs[n].e.kind) (rs[n].e.kids.map (jw (aj rs) n)) ++ ⟨#[41]⟩ else fu (gG rs[n].e.kind) (rs[n].e.kids.map (jw (aj rs) n))):=by
   show _=_; rw [HT.out]; simp [inT,lT,k1,k2,k3]
  have HTS:Hid (∀ x ∈ rs[n].e.kids.map (jw (aj rs) n),x.size≤20000000000000):=fun x hx=>by
   obtain ⟨k,hk,rfl⟩:=Ue.1 hx;have hlt:=Vm.out k hk;unfold jw;rw [if_pos hlt.2,DT];exact De HES.out _ (by rw [aT]; omega) true
  have kb1:(rs[n].e.kind == 1)=false:=by simpa using k1
  have kb2:(rs[n].e.kind == 2)=false:=by simpa using k2
  have kb3:(rs[n].e.kind == 3)=false:=by simpa using k3
  clear HT hkind;go_enter func238,ntmps238;go_wp2_with fail;rw [← hW];clear hW t0 t1 t2 t3 t4;go_loopw [8,10] (fun s i wr=>∃ k:Nat,k≤rs[n].e.kids.length∧i=.int .i64 k∧s=.string (fu (gG rs[n].e.kind) ((rs[n].e.kids.map (jw (aj rs) n)).take k))∧ag W wr) (fun _ i _=>rs[n].e.kids.length - (intOf i).toNat);case atStart=>exact ⟨0,TW _,rfl,by rw [mY],TT _ _⟩
  obtain ⟨k,hk,rfl,rfl,hB⟩:=hrel;have hBw:ag w wr:=HB0.out.trans (hB.mono HB0.out.size);have hbw:b < wr.heap.size:=TP hb hBw.size;have a0:=kept hB hgl g0;have a4:=kept hB hgl g4;have hsg:=lQ rs[n].e.kind;have hsj:(fu (gG rs[n].e.kind) ((rs[n].e.kids.map (jw (aj rs) n)).take k)).size≤100000000000100:=by
   have h:=xP (gG rs[n].e.kind) (rs[n].e.kids.map (jw (aj rs) n)) 20000000000000 k HTS.out;rw [hsg] at h;omega
  by_cases hlt:k < rs[n].e.kids.length
  ·rcases (HO.out rs[n] (TQ hn)).2.below hBw with hnil | ⟨bk,offk,U7,hbk,YK⟩
   ·rw [hnil] at hlt; simp at hlt
   rw [U7] at a4;have q0:=YK k hlt;obtain ⟨hz0,hz1⟩:=Vm.out rs[n].e.kids[k] (TQ hlt);obtain ⟨m,hm⟩:∃ m:Nat,rs[n].e.kids[k]=(m:Int):=⟨rs[n].e.kids[k].toNat,by omega⟩;rw [hm] at q0 hz1;have hmn:m < n:=by simpa using hz1
   have hmr:m < rs.length:=by omega
   have HFm:Hid (jw (aj rs) n rs[n].e.kids[k]=iN (aj rs) m true):=by show _=_; rw [hm]; unfold jw; rw [if_pos (by simpa using hmn),DT]; simp
   have hsm:=De HES.out m (by rw [aT]; exact hmr) true;have hk1:=bB k;have hk2:(k:Int) < (rs[n].e.kids.length:Int):=by omega
   clear YK U7 hz0 hz1 hm;by_cases hk0:0 < k
   ·have hk3:(0:Int) < (k:Int):=by omega
    have HJ:Hid (fu (gG rs[n].e.kind) ((rs[n].e.kids.map (jw (aj rs) n)).take (k + 1))=fu (gG rs[n].e.kind) ((rs[n].e.kids.map (jw (aj rs) n)).take k) ++ gG rs[n].e.kind ++ iN (aj rs) m true):=by show _=_; rw [xO _ _ _ (by simpa using hlt) hk0,List.getElem_map,HFm.out]
    go_wp2_with fail;refine (mi _ _).mono ?_;rintro e w' ⟨rfl,rfl⟩;go_wp2_with fail;refine (IH.out m hmn true _ hmr hbw (fun i hi=>(HR.out i hi).later hb hBw) (fun r hr=>(HO.out r hr).below hBw)).mono ?_;rintro e w1 ⟨rfl,hb1⟩;have hB1:ag W w1:=hB.trans (hb1.mono hB.size);clear hb1;go_wp2;go_roundw;case rel=>exact ⟨k + 1,by omega,by go_num,by rw [HJ.out],hB1⟩
    simp [intOf] <;> omega
   skip
   have hk3:¬ (0:Int) < (k:Int):=by omega
   have HJ:Hid (fu (gG rs[n].e.kind) ((rs[n].e.kids.map (jw (aj rs) n)).take (k + 1))=fu (gG rs[n].e.kind) ((rs[n].e.kids.map (jw (aj rs) n)).take k) ++ iN (aj rs) m true):=by
    have h0:=HFm.out;show _=_;obtain rfl:k=0:=by omega
    rw [mY,Aq _ _ (by simpa using hlt),List.getElem_map,h0]
   go_wp2_with fail;refine (IH.out m hmn true _ hmr hbw (fun i hi=>(HR.out i hi).later hb hBw) (fun r hr=>(HO.out r hr).below hBw)).mono ?_;rintro e w1 ⟨rfl,hb1⟩;have hB1:ag W w1:=hB.trans (hb1.mono hB.size);clear hb1;go_wp2;go_roundw;case rel=>exact ⟨k + 1,by omega,by go_num,by rw [HJ.out],hB1⟩
   simp [intOf] <;> omega
  obtain rfl:k=rs[n].e.kids.length:=by omega
  have HE:Hid ((rs[n].e.kids.map (jw (aj rs) n)).take rs[n].e.kids.length=rs[n].e.kids.map (jw (aj rs) n)):=by show _=_; rw [List.take_of_length_le (by simp)]
  cases inside;case true=>
   go_wp2;go_ret;exact ⟨by rw [HT1.out]; exact qL (by rw [HE.out]; rfl),hBw⟩
  go_wp2;go_ret;exact ⟨by rw [HT1.out]; exact qL (by rw [HE.out]; rfl),hBw⟩
def gQ (es:List Ex):ByteArray:=if aK es then iN es (es.length - 1) false else ⟨#[]⟩
theorem Df {es:List Ex} (h:aK es=false):gQ es=⟨#[]⟩:=by simp [gQ,h]
theorem Ar {es:List Ex} (h:aK es=true):gQ es=iN es (es.length - 1) false:=by simp [gQ,h]
theorem oq (ad:Option Addr) (cap:Nat) (rs:List ER) (w:af) (hlen:rs.length≤1048576) (hl:∀ r ∈ rs,r.e.light) (hf:∀ r ∈ rs,r.e.fits) (hs:iH w ad rs) :
  Calls prog 220 #[.slice ad rs.length cap] w fun e w'=>e=.returned (.string (gQ (aj rs)))∧ag w w':=by
 have HS:=az hs;have HL:=az hl;have HF:=az hf;clear hs hl hf;go_enter func220,ntmps220;go_wp2_with fail;refine (mh ad cap rs _ hlen HL.out HF.out HS.out).mono ?_;rintro e w1 ⟨he,hb1⟩;have HB1:=az hb1;clear hb1;cases hE:aK (aj rs);case false=>
  rw [hE] at he;subst he;have HX:Hid (gQ (aj rs)=⟨#[]⟩):=Df hE;go_wp2;go_ret;exact ⟨by rw [HX.out]; rfl,HB1.out⟩
 rw [hE] at he;subst he;have h1:1≤rs.length:=by
  have:=hE;unfold aK at this;simp only [TU,Ud,aT] at this;exact this.1.1.1.1.1
 rcases HS.out.below HB1.out with rfl | ⟨b,off,rfl,hb,hr,hok⟩
 ·simp at h1
 have HR:Hid (∀ (i:Nat) (h:i < rs.length),x8 w1 b (off + i * 5) rs[i]):=hr;have HO:=az hok;have Vz:Hid (Rn (aj rs)):=Nj hE;have HX:Hid (gQ (aj rs)=iN (aj rs) (rs.length - 1) false):=by show _=_; rw [Ar hE,aT]
 have Yy:Hid (((rs.length:Int) - 1)=((rs.length - 1:Nat):Int)):=by show _=_; omega
 clear hr hok;go_wp2_with fail;rw [Yy.out];refine (Jk b off cap rs Vz.out HL.out (rs.length - 1) false _ (by omega) hb HR.out HO.out).mono ?_;rintro e w2 ⟨rfl,hb2⟩;have HB2:=jP HB1 hb2;clear hb2;go_wp2;go_ret;exact ⟨by rw [HX.out]; rfl,HB2.out⟩
set_option maxRecDepth 100000
theorem vz (k:Int):gG k=aW k:=by
 unfold gG aW;rfl
def gT (s:ByteArray) (p:Nat) (j:Nat):Int :=
 if 4 < j∧dW s (aW 4) p=true then 4 else if 5 < j∧dW s (aW 5) p=true then 5 else if 6 < j∧dW s (aW 6) p=true then 6 else 0
theorem OJ (s:bH) (p:Nat):gT s p 4=0:=by simp [gT]
theorem OL (s:bH) (p:Nat):gT s p 7=dE s p:=by simp [gT,dE]
theorem Gl {s:ByteArray} {p j:Nat} (h4:4≤j) (h7:j < 7) (h:gT s p j ≠ 0):gT s p (j + 1)=gT s p j:=by
 have hj:j=4 ∨ j=5 ∨ j=6:=by omega
 unfold gT at h ⊢;rcases hj with rfl | rfl | rfl <;> cases h1:dW s (aW 4) p <;> cases h2:dW s (aW 5) p <;> cases h3:dW s (aW 6) p <;> simp_all
theorem Dg {s:ByteArray} {p j:Nat} (h4:4≤j) (h7:j < 7) (h:gT s p j=0) (hl:dW s (aW j) p=false):gT s p (j + 1)=0:=by
 have hj:j=4 ∨ j=5 ∨ j=6:=by omega
 unfold gT at h ⊢;rcases hj with rfl | rfl | rfl <;> cases h1:dW s (aW 4) p <;> cases h2:dW s (aW 5) p <;> cases h3:dW s (aW 6) p <;> simp_all
theorem Jl {s:ByteArray} {p j:Nat} (h4:4≤j) (h7:j < 7) (h:gT s p j=0) (hl:dW s (aW j) p=true):gT s p (j + 1)=(j:Int):=by
 have hj:j=4 ∨ j=5 ∨ j=6:=by omega
 unfold gT at h ⊢;rcases hj with rfl | rfl | rfl <;> cases h1:dW s (aW 4) p <;> cases h2:dW s (aW 5) p <;> cases h3:dW s (aW 6) p <;> simp_all
theorem mo (k:Int):(aW k).size=3:=by
 unfold aW;split
 ·rfl
 split <;> rfl
theorem Au {s:ByteArray} {p:Nat} (k:Int) (h:p + 3≤s.size):dW s (aW k) p=((s.extract p (p + 3)).toList == (gG k).toList):=by
 unfold dW;rw [mo,vz];simp [h]
theorem LQ {s:ByteArray} {p:Nat} (k:Int) (h:¬ p + 3≤s.size):dW s (aW k) p=false:=by
 unfold dW;rw [mo];simp [h]
def rowP (s:ByteArray) (it:RS→Int × RS) (x:Int × RS):Int × RS :=
 if dE s x.2.p=0 ∨ x.2.bad=true then x
 else (((ib s it (dE s x.2.p) (s.size + 1) [x.1] x.2).2.out.length:Int),rT ⟨dE s x.2.p,[],⟨#[]⟩,⟨#[]⟩,(ib s it (dE s x.2.p) (s.size + 1) [x.1] x.2).1⟩ (ib s it (dE s x.2.p) (s.size + 1) [x.1] x.2).2)
theorem Av {s:ByteArray} {it:RS→Int × RS} {x:Int × RS} (h:dE s x.2.p=0 ∨ x.2.bad=true):rowP s it x=x:=if_pos h
theorem LU {s:ByteArray} {it:RS→Int × RS} {x:Int × RS} (h:¬ (dE s x.2.p=0 ∨ x.2.bad=true)) {zs:List Int} {st:RS} (hk:ib s it (dE s x.2.p) (s.size + 1) [x.1] x.2=(zs,st)):rowP s it x=((st.out.length:Int),rT ⟨dE s x.2.p,[],⟨#[]⟩,⟨#[]⟩,zs⟩ st):=by
 unfold rowP;rw [if_neg h,hk]
theorem OM {s:ByteArray} {it:RS→Int × RS} {k:Int} {n:Nat} {zs:List Int} {st:RS} (h:mJ s (aW k) st.p st.bad=false):ib s it k n zs st=(zs,st):=by
 have e:kY s (aW k) st=false:=h;cases n with
 | zero=>rfl
 | succ n=>unfold ib; rw [e]; rfl
theorem LV {s:ByteArray} {it:RS→Int × RS} {k:Int} {n:Nat} {zs:List Int} {st:RS} (h:mJ s (aW k) st.p st.bad=true):ib s it k (n + 1) zs st=ib s it k n (zs ++ [(it (j5 (aW k) st)).1]) (it (j5 (aW k) st)).2:=by
 have e:kY s (aW k) st=true:=h
 conv=>lhs; unfold ib
 rw [e]; rfl
theorem RdC.heap {w w':af} {R:Nat} {s:ByteArray} {p:Nat} {bad:Bool} {v:Value} (h:RdC w R s p bad v) (hs:w.heap.size≤w'.heap.size) (hh:w'.heap[R]?=w.heap[R]?):RdC w' R s p bad v :=
 ⟨TP h.lt hs,(Ul (w:=w) (a:=⟨R,0,none⟩) hh).trans h.c0,(Ul (w:=w) (a:=⟨R,1,none⟩) hh).trans h.c1,(Ul (w:=w) (a:=⟨R,2,none⟩) hh).trans h.c2,(Ul (w:=w) (a:=⟨R,3,none⟩) hh).trans h.c3,df h.fr hh⟩
theorem RdF.heap {w w':af} {R:Nat} {s:ByteArray} {st:RS} {base:Nat} {v:Value} {qs:List ER} (h:RdF w R s st base v qs) (hs:w.heap.size≤w'.heap.size) (h1:w'.heap[R]?=w.heap[R]?) (h2:∀ g,v.ownBlock=some g→w'.heap[g]?=w.heap[g]?) (h3:∀ q ∈ qs,∀ g,oJ q g→w'.heap[g]?=w.heap[g]?):RdF w' R s st base v qs where
 rd:=h.rd.heap hs h1
 own:=jE h.own h2
 out:=h.out
 zA:=h.zA
 zK:=h.zK
 ok q hq:=ru (h.ok q hq) hs (h.zA q hq) (h.zK q hq) (h3 q hq)
 lie q hq g hg:=by
  obtain ⟨a1,a2,a3,a4⟩:=h.lie q hq g hg;exact ⟨a1,TP a2 hs,df a3 (h3 q hq g hg),a4⟩
 one:=h.one
 two:=h.two
 cA:=h.cA
 cK q hq:=(h.cK q hq).heap (h.zK q hq) (h3 q hq)
structure KLr (w wr:World) (R:Nat) (s:ByteArray) (st:RS) (base:Nat) (v v':Value) (qs ns:List ER) (zs:List Int) (vK:Value):Prop where
 rd:RdF wr R s st base v' (qs ++ ns)
 went:Went R v w v' wr
 new:∀ q ∈ ns,∀ g,oJ q g→w.heap.size≤g
 own:wr.ownsRow w.heap.size 2 1 vK zs.length (ints zs)
 far:∀ g,vK.ownBlock=some g→v'.ownBlock ≠ some g∧∀ q ∈ qs ++ ns,¬ oJ q g
 ne:zs ≠ []
theorem KLr.is {w wr w':af} {R:Nat} {s:ByteArray} {st st':RS} {base:Nat} {v v':Value} {qs ns:List ER} {zs:List Int} {vK:Value} (h:KLr w wr R s st base v v' qs ns zs vK) (hR:R < w.heap.size) (hg:wr.grownBy w' (some R)) (hF:RdF w' R s st' base v' (qs ++ ns)):KLr w w' R s st' base v v' qs ns zs vK :=
 ⟨hF,h.went.trans ((Onl.of_grown hg).any v'),h.new,h.own.kept hg (.inr (fun e=>by have:=(h.own.lt R e).1; omega)),h.far,h.ne⟩
theorem KLr.more {w wr w':af} {R:Nat} {s:ByteArray} {st st':RS} {base:Nat} {v v' v2:Value} {qs ns ms:List ER} {zs:List Int} {vK:Value} (h:KLr w wr R s st base v v' qs ns zs vK) (hR:R < w.heap.size) (hF:RdF w' R s st' base v2 ((qs ++ ns) ++ ms)) (hW:Went R v' wr v2 w') (hm:∀ q ∈ ms,∀ g,oJ q g→wr.heap.size≤g):KLr w w' R s st' base v v2 qs (ns ++ ms) zs vK:=by
 have hl:∀ g,vK.ownBlock=some g→w.heap.size≤g∧g < wr.heap.size:=fun g hg=>h.own.lt g hg;refine ⟨by rw [← List.append_assoc]; exact hF,h.went.trans hW,fun q hq g hg=>?_,jE h.own fun g hg=>hW.onl.block g (hl g hg).2 (by have:=(hl g hg).1; omega) (h.far g hg).1,fun g hg=>⟨hW.apart (hl g hg).2 (h.far g hg).1,fun q hq hi=>?_⟩,h.ne⟩
 ·rcases Uc.1 hq with h1 | h1
  ·exact h.new q h1 g hg
  exact TZ h.went.onl.size (hm q h1 g hg)
 rw [← List.append_assoc] at hq;rcases Uc.1 hq with h1 | h1
 ·exact (h.far g hg).2 q h1 hi
 have:=hm q h1 g hi; have:=(hl g hg).2; omega
theorem OO (zs:List Int) (z:Int):ints (zs ++ [z])=ints zs ++ [.int .i64 z]:=by simp [ints]
theorem KLr.app {w wr w':af} {R:Nat} {s:ByteArray} {st:RS} {base:Nat} {v v':Value} {qs ns:List ER} {zs:List Int} {vK vN:Value} (h:KLr w wr R s st base v v' qs ns zs vK) (hR:R < w.heap.size) (z:Int) (o:Obj) (hown:w'.ownsRow w.heap.size 2 1 vN (zs.length + 1) (ints zs ++ [.int .i64 z])) (hg:(wr.alloc o).grownBy w' vK.ownBlock) (hat:vN.ownBlock=vK.ownBlock ∨ vN.ownBlock=some (wr.alloc o).heap.size):KLr w w' R s st base v v' qs ns (zs ++ [z]) vN:=by
 have hg0:=World.grownBy_alloc wr o none;have keep:∀ k,k < wr.heap.size→vK.ownBlock ≠ some k→w'.heap[k]?=wr.heap[k]?:=fun k hk hne=>(hg.block k (TP hk hg0.size) (Ne.symm hne)).trans (hg0.block k hk (by simp));have hl:∀ g,vK.ownBlock=some g→w.heap.size≤g∧g < wr.heap.size:=fun g hg=>h.own.lt g hg;have hs:wr.heap.size≤w'.heap.size:=TZ hg0.size hg.size;refine ⟨h.rd.heap hs (keep R h.rd.rd.lt (fun e=>by have:=(hl R e).1; omega)) (fun g hg=>keep g (h.rd.own.lt g hg).2 (fun e=>(h.far g e).1 hg)) (fun q hq g hi=>keep g (h.rd.lie q hq g hi).2.1 (fun e=>(h.far g e).2 q hq hi)),?_,h.new,by rw [OO,T9,List.length_singleton]; exact hown,fun g hgn=>?_,by simp⟩
 ·refine ⟨⟨hg.os.trans (hg0.os.trans h.went.onl.os),hg.tape.trans (hg0.tape.trans h.went.onl.tape),hg.output.trans (hg0.output.trans h.went.onl.output),TZ h.went.onl.size hs,fun k hk h1 h2=>(keep k (TP hk h.went.onl.size) (fun e=>by have:=(hl k e).1; omega)).trans (h.went.onl.block k hk h1 h2)⟩,h.went.own⟩
 rcases hat with e | e
 ·exact h.far g (by rw [← e]; exact hgn)
 rw [e] at hgn;injection hgn with hgn;have hsz:wr.heap.size≤g:=by rw [← hgn]; exact hg0.size
 exact ⟨fun e2=>by have:=(h.rd.own.lt g e2).2; omega,fun q hq hi=>by have:=(h.rd.lie q hq g hi).2.1; omega⟩
theorem KLr.node {w wr:af} {R:Nat} {s:ByteArray} {st:RS} {base:Nat} {v v':Value} {qs ns:List ER} {zs:List Int} {vK:Value} (h:KLr w wr R s st base v v' qs ns zs vK) (hb:base≤w.heap.size) (k:Int):∃ ad cap,vK=.slice ad zs.length cap∧NewQ base wr ⟨⟨k,[],⟨#[]⟩,⟨#[]⟩,zs⟩,none,0,ad,cap⟩∧∀ g,oJ ⟨⟨k,[],⟨#[]⟩,⟨#[]⟩,zs⟩,none,0,ad,cap⟩ g→w.heap.size≤g∧v'.ownBlock ≠ some g∧∀ q ∈ qs ++ ns,¬ oJ q g:=by
 obtain ⟨ad,cap,e,h2,h3,h4⟩:=Rs h.own rfl;have hA:∀ g,¬ bA ⟨⟨k,[],⟨#[]⟩,⟨#[]⟩,zs⟩,none,0,ad,cap⟩ g:=fun g hg=>hg.1 rfl;have hK:∀ g,oJ ⟨⟨k,[],⟨#[]⟩,⟨#[]⟩,zs⟩,none,0,ad,cap⟩ g→(w.heap.size≤g∧g < wr.heap.size∧gY wr g)∧vK.ownBlock=some g:=by
  rintro g (hg | hg)
  ·exact absurd hg (hA g)
  exact ⟨h4 g hg.1 hg.2,by rw [e,show ad=some ⟨g,0,none⟩ from hg.2]; rfl⟩
 refine ⟨ad,cap,e,⟨fun h=>absurd rfl h,h3,⟨.inl rfl,h2⟩,fun g hg=>⟨TZ hb (hK g hg).1.1,(hK g hg).1.2⟩,fun g hg=>absurd hg (hA g),TW _⟩,fun g hg=>⟨(hK g hg).1.1,h.far g (hK g hg).2⟩⟩
theorem KLr.kid {w wr:af} {R:Nat} {s:ByteArray} {st:RS} {base:Nat} {v v':Value} {qs ns:List ER} {zs:List Int} {ad:Option Addr} {cap:Nat} (h:KLr w wr R s st base v v' qs ns zs (.slice ad zs.length cap)) (hb:base≤w.heap.size) (k:Int):Bz wr base ⟨⟨k,[],⟨#[]⟩,⟨#[]⟩,zs⟩,none,0,ad,cap⟩:=Bz.mono (base:=w.heap.size) (.inr ⟨h.ne,h.own⟩) hb
theorem OP (w:af) (z:Int) (g:Nat) (hg:w.heap.size=g):∀ j u,[Value.int .i64 z][j]?=some u→(w.alloc (.cells #[.int .i64 z] 2)).cell? ((⟨g,0,none⟩:Addr).add j)=some u:=by
 intro j u hu;subst hg;rw [show (⟨w.heap.size,0,none⟩:Addr).add j=⟨w.heap.size,0 + j,none⟩ by simp [Addr.add]; omega,Um];have:=World.cell?_alloc_mark w #[.int .i64 z] 2 (0,0) j;rw [this];simpa using hu
theorem QB (R:Nat) (s:bH) (st:RS) (base:Nat) (v:Value) (qs:List ER) (w:af) (h:RdF w R s st base v qs) (hR:R < base) (hB:base≤w.heap.size) (hs:s.size≤1000) (x:Int × RS) (hx:x.2.p≤s.size)
  (Zt:Calls prog 234 #[.pointer (some ⟨R,0,none⟩)] w (uI R s base v qs w x))
  (it:RS→Int × RS) (hlen:x.2.out.length + (s.size - x.2.p)≤5001)
  (hit:∀ (st':RS) (v':Value) (qs':List ER) (w':World),RdF w' R s st' base v' qs'→base≤w'.heap.size→x.2.p + 3≤st'.p→st'.p≤s.size→st'.out.length + (s.size - st'.p)≤5000→Calls prog 234 #[.pointer (some ⟨R,0,none⟩)] w' (uI R s base v' qs' w' (it st')))
  (hmono:∀ st':RS,x.2.p + 3≤st'.p→st'.p≤s.size→st'.p≤(it st').2.p∧(it st').2.p≤s.size∧(it st').2.out.length + st'.p≤st'.out.length + 1 + (it st').2.p) :
  Calls prog 219 #[.pointer (some ⟨R,0,none⟩)] w (uI R s base v qs w (rowP s it x)):=by
 obtain ⟨iI,hiI,zI0,zI1,zI2⟩:=info_parts (P:=prog) (e:=2) (z:=.int .i64 0) (size:=1) (bytes:=8) (by kernel_rfl);have HII:Hid (prog.info? 2=some iI∧iI.zero=some (.int .i64 0)∧iI.size=1∧iI.bytes=8):=⟨hiI,zI0,zI1,zI2⟩;have HLEN:=ai hlen;have HITM:=ai hit;have HMONO:=ai hmono;clear hiI zI0 zI1 zI2 hlen hit hmono;have H:=ai h;have HX:=ai hx;have HIT:=ai Zt;clear h hx Zt;go_enter func219,ntmps219;go_wp2_with fail;refine HIT.out.mono ?_;rintro e w1 ⟨v1,ns,rfl,hF1,hW1,hns⟩;have VH:=ai hF1;have HW1:=ai hW1;have HNS:=ai hns;clear hF1 hW1 hns HIT;go_wp2_with fail;go_loopw [4,5] (fun kd k wr=>∃ (j nn:Nat),4≤j∧j≤7∧k=.int .i64 j∧kd=.int .i64 (gT s x.2.p j)∧Hid (wr=w1.drewN nn)) (fun _ k _=>7 - (intOf k).toNat);case atStart=>exact ⟨4,0,by omega,by omega,rfl,by rw [OJ],rfl⟩
 obtain ⟨j,nn,hj4,hj7,rfl,rfl,WO⟩:=hrel;have hrd:RdC wr R s x.2.p x.2.bad v1:=by rw [WO.out]; exact VH.out.rd.drewN nn
 have Zc:=ai hrd;have c0:=Zc.out.c0;have c1:=Zc.out.c1;have c2:=Zc.out.c2;clear hrd;by_cases hlt:j < 7
 ·have hle:decide ((j:Int)≤6)=true:=by simp; omega
  have hle2:(j:Int)≤6:=by omega
  have hwr:IntKind.i64.wrap ((x.2.p:Int) + 3)=(x.2.p:Int) + 3:=by have:=HX.out; simp [IntKind.wrap,IntKind.bits,IntKind.signed]; omega
  by_cases hK:gT s x.2.p j=0
  ·have hK0:(gT s x.2.p j == 0)=true:=by simp [hK]
   by_cases Xl:x.2.p + 3≤s.size
   ·have hd:decide ((x.2.p:Int) + 3≤(s.size:Int))=true:=by simp; omega
    have hd2:(x.2.p:Int) + 3≤(s.size:Int):=by omega
    have hnn:(0:Int)≤(x.2.p:Int):=by omega
    have hp1:(x.2.p:Int)≤(x.2.p:Int) + 3:=by omega
    rw [hK];cases he:(s.extract x.2.p (x.2.p + 3)).toList == (gG j).toList
    case' true =>
     have EQ:=ai (Jl hj4 hlt hK (by rw [Au _ Xl]; exact he))
    case' false =>
     have EQ:=ai (Dg hj4 hlt hK (by rw [Au _ Xl]; exact he))
    all_goals
     clear hK hK0;go_wp2_with fail;go_quiet ((go_at_call 235; exact Calls.quiet_of_same (mi _ _)));go_wp2;go_roundw;case rel=>exact ⟨j + 1,nn + nq,by omega,by omega,by go_num,by rw [EQ.out],by show _=_; rw [WO.out,World.drewN_drewN]⟩
     simp [intOf] <;> omega
   have hd:decide ((x.2.p:Int) + 3≤(s.size:Int))=false:=by simp; omega
   have EQ:=ai (Dg hj4 hlt hK (LQ _ Xl));rw [hK];clear hK hK0;go_wp2_with fail;go_quiet ((go_at_call 235; exact Calls.quiet_of_same (mi _ _)));go_wp2;go_roundw;case rel=>exact ⟨j + 1,nn + nq,by omega,by omega,by go_num,by rw [EQ.out],by show _=_; rw [WO.out,World.drewN_drewN]⟩
   simp [intOf] <;> omega
  have hK0:(gT s x.2.p j == 0)=false:=by simp [hK]
  have EQ:=ai (Gl hj4 hlt hK);clear hK;go_wp2_with fail;go_quiet ((go_at_call 235; exact Calls.quiet_of_same (mi _ _)));go_wp2;go_roundw;case rel=>exact ⟨j + 1,nn + nq,by omega,by omega,by go_num,by rw [EQ.out],by show _=_; rw [WO.out,World.drewN_drewN]⟩
  simp [intOf] <;> omega
 obtain rfl:j=7:=by omega
 rw [OL,show ((7:Nat):Int)=(7:Int) from rfl];have hle:decide ((7:Int)≤6)=false:=by decide
 obtain ⟨kd,hkd⟩:∃ kd,kd=dE s x.2.p:=⟨_,rfl⟩;have HKD:=ai hkd;rw [← hkd];clear hkd;by_cases hk:kd=0
 ·have hk0:(kd == 0)=true:=by simp [hk]
  have EQ:=ai (Av (it:=it) (.inl (HKD.out.symm.trans hk)));subst hk;have HF:=ai (VH.out.heap (w':=wr) (by rw [WO.out]; exact TS _) (by rw [WO.out]; rfl) (fun g _=>by rw [WO.out]; rfl) (fun q _ g _=>by rw [WO.out]; rfl));have HW:Hid (Went R v w v1 wr):=by rw [WO.out]; exact ⟨⟨HW1.out.onl.os,HW1.out.onl.tape,HW1.out.onl.output,HW1.out.onl.size,HW1.out.onl.block⟩,HW1.out.own⟩
  go_wp2;exact bodyPost_ret (v:=.int .i64 x.1) (by simp [results,Tryz.results219,go_sem]) rfl (by rw [EQ.out]; exact ⟨v1,ns,rfl,HF.out,HW.out,HNS.out⟩)
 have hk0:(kd == 0)=false:=by simp [hk]
 cases hb:x.2.bad;case true=>
  have EQ:=ai (Av (it:=it) (x:=x) (s:=s) (.inr hb));rw [hb] at c2;have HF:=ai (VH.out.heap (w':=wr) (by rw [WO.out]; exact TS _) (by rw [WO.out]; rfl) (fun g _=>by rw [WO.out]; rfl) (fun q _ g _=>by rw [WO.out]; rfl));have HW:Hid (Went R v w v1 wr):=by rw [WO.out]; exact ⟨⟨HW1.out.onl.os,HW1.out.onl.tape,HW1.out.onl.output,HW1.out.onl.size,HW1.out.onl.block⟩,HW1.out.own⟩
  go_wp2;exact bodyPost_ret (v:=.int .i64 x.1) (by simp [results,Tryz.results219,go_sem]) rfl (by rw [EQ.out]; exact ⟨v1,ns,rfl,HF.out,HW.out,HNS.out⟩)
 rw [hb] at c2;have Wt:Hid (¬ (dE s x.2.p=0 ∨ x.2.bad=true)):=by
  rintro (e | e)
  ·exact hk (HKD.out.trans e)
  rw [hb] at e; cases e
 have HF:=ai (VH.out.heap (w':=wr) (by rw [WO.out]; exact TS _) (by rw [WO.out]; rfl) (fun g _=>by rw [WO.out]; rfl) (fun q _ g _=>by rw [WO.out]; rfl));have HW:Hid (Went R v w v1 wr):=by rw [WO.out]; exact ⟨⟨HW1.out.onl.os,HW1.out.onl.tape,HW1.out.onl.output,HW1.out.onl.size,HW1.out.onl.block⟩,HW1.out.own⟩
 have HWB:Hid (R < w.heap.size):=H.out.rd.lt;have HKL0:Hid (KLr w (wr.alloc (.cells #[.int .i64 x.1] 2)) R s x.2 base v v1 qs ns [x.1] (.slice (some ⟨wr.heap.size,0,none⟩) 1 1)):=by
  have hg0:=World.grownBy_alloc wr (.cells #[.int .i64 x.1] 2) none;refine ⟨HF.out.heap hg0.size (hg0.block R HF.out.rd.lt (by simp)) (fun g hg=>hg0.block g (HF.out.own.lt g hg).2 (by simp)) (fun q hq g hi=>hg0.block g (HF.out.lie q hq g hi).2.1 (by simp)),HW.out.trans ((Onl.of_below ((TT _ _).alloc (TS _) _)).any v1),HNS.out,World.ownsRow_lit wr #[.int .i64 x.1] 1 HW.out.onl.size (by unfold maxLen; omega) (by simp),fun g hg=>?_,by simp⟩;simp [Value.ownBlock] at hg;subst hg;exact ⟨fun e=>by have:=(HF.out.own.lt _ e).2; omega,fun q hq hi=>by have:=(HF.out.lie q hq _ hi).2.1; omega⟩
 clear HF HW Zc WO VH HW1 HNS;go_wp2_with fail;clear c0 c1 c2;go_loopw [6] (fun vK wq=>∃ (n:Nat) (zs:List Int) (st':RS) (v':Value) (ms:List ER),Hid (st'.p≤s.size∧x.2.p≤st'.p∧s.size - st'.p < n∧zs.length≤st'.p + 1∧st'.out.length + (s.size - st'.p)≤5001)∧Hid (ib s it kd n zs st'=ib s it kd (s.size + 1) [x.1] x.2)∧Hid (KLr w wq R s st' base v v' qs ms zs vK)) (fun _ wq=>s.size - wat R wq);case atStart=>exact ⟨s.size + 1,[x.1],x.2,v1,ns,⟨HX.out,TS _,by omega,by simp,HLEN.out⟩,rfl,HKL0.out⟩
 obtain ⟨n,zs,st',v',ms,HB,HQ,Vm⟩:=hrel;clear HKL0;go_wp2_with fail;refine (mi _ _).mono ?_;rintro e w' ⟨rfl,rfl⟩;go_wp2_with fail;refine (lW R s (gG kd) st'.p st'.bad v' _ Vm.out.rd.rd hs HB.out.1 (by simp [lQ])).mono ?_;rintro e w5 ⟨rfl,Y4,hg5⟩;cases hc:mJ s (gG kd) st'.p st'.bad;case false=>
  have Y6:=ai (Vm.out.is HWB.out hg5 (Vm.out.rd.is_no hR hc Y4 hg5));rw [vz] at hc;have EQ:=ai (LU (zs:=zs) (st:=st') Wt.out (by rw [← HKD.out]; exact HQ.out.symm.trans (OM hc)));obtain ⟨ad,cap,rfl,hnq,hin⟩:=Y6.out.node hB kd;have HNQ:=ai hnq;have HIN:=ai hin;have X7:(qs ++ ms).length≤100000:=by have h1:=Y6.out.rd.out; have h2:=congrArg List.length h1; simp only [aj,Uy] at h2; have:=HB.out.2.2.2.2; omega
  clear Y4 hg5 hc hnq hin Vm;go_wp2_with fail;refine (K7 R s st' base v' (qs ++ ms) ⟨⟨kd,[],⟨#[]⟩,⟨#[]⟩,zs⟩,none,0,ad,cap⟩ w5 Y6.out.rd hR (TZ hB Y6.out.went.onl.size) X7 HNQ.out (Y6.out.kid hB kd) (fun g hg=>(HIN.out g hg).2)).mono ?_;rintro e w6 ⟨v6,rfl,hF6,Zj⟩;have XG:=ai hF6;have HW6:=ai (Y6.out.went.trans Zj);clear hF6 Zj;have HNEW:Hid (∀ q ∈ ms ++ [(⟨⟨kd,[],⟨#[]⟩,⟨#[]⟩,zs⟩,none,0,ad,cap⟩:ER)],∀ g,oJ q g→w.heap.size≤g):=by
   intro q hq g hg;rcases Uc.1 hq with h1 | h1
   ·exact Y6.out.new q h1 g hg
   rw [Ua] at h1; subst h1; exact (HIN.out g hg).1
  replace XG:Hid (RdF w6 R s (rT ⟨kd,[],⟨#[]⟩,⟨#[]⟩,zs⟩ st') base v6 (qs ++ (ms ++ [(⟨⟨kd,[],⟨#[]⟩,⟨#[]⟩,zs⟩,none,0,ad,cap⟩:ER)]))):=by rw [← List.append_assoc]; exact XG.out
  go_wp2;exact bodyPost_ret (v:=.int .i64 (st'.out.length:Int)) (by simp [results,Tryz.results219,go_sem]) rfl (by rw [EQ.out,← HKD.out]; exact ⟨v6,_,rfl,XG.out,HW6.out,HNEW.out⟩)
 have hk5:=Vm.out.is HWB.out hg5 (Vm.out.rd.is_yes hR hc Y4 hg5);rw [vz] at hk5;have Y6:=ai hk5;have WT:Hid (st'.p + 3≤s.size):=by have:=zy hc; rw [lQ] at this; exact this
 have HPL:=ai Vm.out.rd.rd.place;obtain ⟨m,hm⟩:∃ m,n=m + 1:=⟨n - 1,by have:=HB.out.2.2.1; omega⟩;subst hm;rw [vz] at hc;have EQ:=ai ((LV (it:=it) (n:=m) (zs:=zs) hc).symm.trans HQ.out);have eP:(j5 (aW kd) st').p=st'.p + 3:=by unfold j5; rw [mo]
 have eO:(j5 (aW kd) st').out=st'.out:=rfl;have a1:x.2.p + 3≤(j5 (aW kd) st').p:=by rw [eP]; have:=HB.out.2.1; omega
 have a2:(j5 (aW kd) st').p≤s.size:=by rw [eP]; exact WT.out
 have a3:(j5 (aW kd) st').out.length + (s.size - (j5 (aW kd) st').p)≤5000:=by rw [eP,eO]; have:=HB.out.2.2.2.2; have:=WT.out; omega
 have hmo:=HMONO.out (j5 (aW kd) st') a1 a2;rw [eP,eO] at hmo;have hcall:=HITM.out (j5 (aW kd) st') v' (qs ++ ms) w5 Y6.out.rd (TZ hB Y6.out.went.onl.size) a1 a2 a3;obtain ⟨y,hy⟩:∃ y,y=it (j5 (aW kd) st'):=⟨_,rfl⟩;rw [← hy] at hmo hcall EQ;have ZW:=ai hmo;have VG:=ai hcall;clear Y4 hg5 hk5 hc Vm eP eO a1 a2 a3 hmo hcall hy;go_wp2_with fail;refine VG.out.mono ?_;rintro e w6 ⟨v6,ns6,rfl,hF6,Zj,hn6⟩;have HK6:=ai (Y6.out.more HWB.out hF6 Zj hn6);clear hF6 Zj hn6 VG Y6;obtain ⟨W7,Y5⟩:∃ W7,W7=w6.alloc (.cells #[.int .i64 y.1] 2):=⟨_,rfl⟩;have WN:Hid (W7.ownsRow w.heap.size 2 1 u6 zs.length (ints zs)):=by rw [Y5]; exact HK6.out.own.alloc _
 have HN7:Hid (∀ j u,[Value.int .i64 y.1][j]?=some u→W7.cell? ((⟨w6.heap.size,0,none⟩:Addr).add j)=some u):=by rw [Y5]; exact OP w6 _ _ rfl
 have HS7:Hid (w.heap.size≤W7.heap.size):=by show _≤_; rw [Y5]; exact TZ HK6.out.went.onl.size (World.grownBy_alloc w6 _ none).size
 have HW7:=ai Y5;have hzl:zs.length≤1001:=by have:=HB.out.2.2.2.1; have:=HB.out.1; omega
 go_wp2_with (at_builtin; rw [← Y5]; clear Y5; refine wpList_append_own_at _ rfl _ _ 37 rfl w.heap.size 2 iI (.int .i64 0) 1 8 underlying37 HII.out.1 HII.out.2.1 HII.out.2.2.1 HII.out.2.2.2 rfl (by decide) u6 zs.length (ints zs) rfl WN.out ⟨w6.heap.size,0,none⟩ 1 1 [Value.int .i64 y.1] rfl rfl HN7.out (by intro u hu; simp at hu; subst hu; rfl) (by unfold maxLen; omega) (by omega) HS7.out ?_);intro vN w8 Xz hgr8 _ hat8;have HK8:Hid (KLr w w8 R s y.2 base v v6 qs (ms ++ ns6) (zs ++ [y.1]) vN):=by
  rw [HW7.out] at hgr8 hat8;exact HK6.out.app HWB.out y.1 _ Xz hgr8 hat8
 have HM:Hid (s.size - wat R w8 < s.size - wat R w'):=by
  show _ < _;rw [HK8.out.rd.rd.place,HPL.out];have:=ZW.out.1;have:=ZW.out.2.1;have:=WT.out;omega
 clear Xz hgr8 hat8 WN HN7 HS7 HW7 HK6;go_wp2;go_roundw;case rel=>exact ⟨m,zs ++ [y.1],y.2,v6,ms ++ ns6,⟨ZW.out.2.1,by have:=ZW.out.1; have:=HB.out.2.1; omega,by have:=HB.out.2.2.1; have:=ZW.out.1; have:=ZW.out.2.1; omega,by have:=HB.out.2.2.2.1; have:=ZW.out.1; rw [T9,List.length_singleton]; omega,by have:=HB.out.2.2.2.2; have:=ZW.out; omega⟩,EQ.out,HK8.out⟩
 exact HM.out
theorem Dh {s:ByteArray} {st:RS} (h:st.p≤s.size):st.p≤(bz s st).p∧(bz s st).p≤s.size:=⟨Nat.le_add_right _ _,j6 s st.p h⟩
theorem ED {s:ByteArray} {st:RS} (h:st.p≤s.size):st.p≤(aV s st).p∧(aV s st).p≤s.size∧(aV s st).out=st.out:=by
 unfold aV;cases e:kY s uu st;case false=>exact ⟨TS _,h,rfl⟩
 have h1:st.p + 1≤s.size:=kI e;have:=j6 s (st.p + 1) h1;exact ⟨by show st.p≤st.p + 1 + au s (st.p + 1); omega,this,rfl⟩
theorem Di {s:ByteArray}:∀ (n:Nat) (xs:List Al) (st:RS),st.p≤s.size→st.p≤(dD s n xs st).2.p∧(dD s n xs st).2.p≤s.size∧(dD s n xs st).2.out=st.out:=by
 intro n
 induction n with
 | zero=>intro xs st h; exact ⟨TS _,h,rfl⟩
 | succ n ih =>
  intro xs st h;have h1:=Dh h;have h2:=ED h1.2;have h3:(aV s (bz s st)).out=st.out:=h2.2.2;unfold dD;by_cases hb:st.bad=true
  ·rw [if_pos hb]; exact ⟨TS _,h,rfl⟩
  rw [if_neg hb];by_cases hc:kY s fe (aV s (bz s st))=true
  ·rw [if_pos hc];have h4:(aV s (bz s st)).p + 1≤s.size:=kI hc;exact ⟨by show st.p≤(aV s (bz s st)).p + 1; omega,h4,h3⟩
  rw [if_neg hc];by_cases hm:kY s lV (aV s (bz s st))=true
  ·rw [if_pos hm];have h4:(aV s (bz s st)).p + 1≤s.size:=kI hm;obtain ⟨a,b,c⟩:=ih (xs ++ [⟨ax s st.p,x9 s (bz s st)⟩]) (j5 lV (aV s (bz s st))) h4;have a':(aV s (bz s st)).p + 1≤_:=a;exact ⟨by omega,b,c.trans h3⟩
  rw [if_neg hm];obtain ⟨a,b,c⟩:=ih (xs ++ [⟨ax s st.p,x9 s (bz s st)⟩]) (uw (aV s (bz s st))) h2.2.1;have a':(aV s (bz s st)).p≤_:=a;exact ⟨by omega,b,c.trans h3⟩
def Aw (s:ByteArray) (k:Nat) (st st':RS):Prop:=st.p≤st'.p∧st'.p≤s.size∧st'.out.length + st.p≤st.out.length + k + st'.p
theorem LW {s:ByteArray} {st:RS} (h:kY s fQ st=true):Aw s 1 st (qK s st).2:=by
 have h1:(j5 fQ st).p≤s.size:=kI h;obtain ⟨a,b,c⟩:=Di (s:=s) (s.size + 1) [] (j5 fQ st) h1;have a':st.p + 5≤_:=a;have c':_=st.out:=c;unfold qK Aw;cases e:dD s (s.size + 1) [] (j5 fQ st) with
 | mk o st' =>
  rw [e] at a' b c';replace a':st.p + 5≤st'.p:=a';replace b:st'.p≤s.size:=b;replace c':st'.out=st.out:=c';cases o with
  | none=>exact ⟨by show st.p≤st'.p; omega,b,by show st'.out.length + _≤_ + _ + st'.p; rw [c']; omega⟩
  | some xs=>exact ⟨by show st.p≤st'.p; omega,b,by show (st'.out ++ _).length + _≤_ + _ + st'.p; rw [c',T9,List.length_singleton]; omega⟩
theorem OQ {s:ByteArray} {st:RS} (h:st.p≤s.size):Aw s 1 st (rT (eY s st) (judged (eY s st) (aI s st))):=by
 have h1:=Dh h;have key:st.p≤(aI s st).p∧(aI s st).p≤s.size∧(aI s st).out=st.out:=by
  unfold aI;cases e:kY s oN (bz s st);case false=>exact ⟨h1.1,h1.2,rfl⟩
  have h2:st.p + au s st.p + 2≤s.size:=kI e;have:=j6 s _ h2;exact ⟨by show st.p≤st.p + au s st.p + 2 + au s (st.p + au s st.p + 2); omega,this,rfl⟩
 have key2:(judged (eY s st) (aI s st)).p=(aI s st).p∧(judged (eY s st) (aI s st)).out=st.out:=by
  unfold judged;split
  ·exact ⟨rfl,key.2.2⟩
  exact ⟨rfl,key.2.2⟩
 refine ⟨?_,?_,?_⟩
 ·show st.p≤(judged (eY s st) (aI s st)).p;rw [key2.1]; exact key.1
 ·show (judged (eY s st) (aI s st)).p≤_;rw [key2.1]; exact key.2.1
 show ((judged (eY s st) (aI s st)).out ++ _).length + _≤_ + 1 + (judged (eY s st) (aI s st)).p;rw [key2.1,key2.2,T9,List.length_singleton];have:=key.1;omega
theorem LX {s:ByteArray} {st:RS} {x:Int × RS} (h:Aw s 1 (j5 jy st) x.2):Aw s 1 st (sV s x).2:=by
 obtain ⟨a,b,c⟩:=h;replace a:st.p + 1≤x.2.p:=a;replace c:x.2.out.length + (st.p + 1)≤st.out.length + 1 + x.2.p:=c;unfold sV;cases e:kY s fe x.2;case false=>exact ⟨by show st.p≤x.2.p; omega,b,by show x.2.out.length + st.p≤_ + 1 + x.2.p; omega⟩
 have h2:x.2.p + 1≤s.size:=kI e;exact ⟨by show st.p≤x.2.p + 1; omega,h2,by show x.2.out.length + st.p≤_ + 1 + (x.2.p + 1); omega⟩
theorem LY {s:ByteArray} {it:RS→Int × RS} {k:Int} (hit:∀ st,st.p≤s.size→Aw s 1 st (it st).2):∀ (n:Nat) (zs:List Int) (st:RS),st.p≤s.size→Aw s 0 st (ib s it k n zs st).2∧(0 < n→kY s (aW k) st=true→(ib s it k n zs st).2.out.length + st.p + 2≤st.out.length + (ib s it k n zs st).2.p):=by
 intro n
 induction n with
 | zero=>intro zs st h; exact ⟨⟨TS _,h,TS _⟩,fun h=>absurd h (by omega)⟩
 | succ n ih =>
  intro zs st h;unfold ib;cases e:kY s (aW k) st;case false=>exact ⟨⟨TS _,h,TS _⟩,fun _ h=>by cases h⟩
  have h1:st.p + 3≤s.size:=by have:=kI e; rw [mo] at this; exact this
  have eP:(j5 (aW k) st).p=st.p + 3:=by unfold j5; rw [mo]
  have eO:(j5 (aW k) st).out=st.out:=rfl;obtain ⟨a,b,c⟩:=hit (j5 (aW k) st) (by rw [eP]; exact h1);rw [eP] at a c;rw [eO] at c;obtain ⟨⟨a2,b2,c2⟩,-⟩:=ih (zs ++ [(it (j5 (aW k) st)).1]) (it (j5 (aW k) st)).2 b;simp only [if_true];exact ⟨⟨by omega,b2,by omega⟩,fun _ _=>by omega⟩
theorem Jm {s:ByteArray} {p:Nat} (h:dE s p ≠ 0):dW s (aW (dE s p)) p=true:=by
 unfold dE at h ⊢;cases h1:dW s (aW 4) p;case true=>simpa using h1
 cases h2:dW s (aW 5) p;case true=>simpa [h1] using h2
 cases h3:dW s (aW 6) p;case true=>simpa [h1,h2] using h3
 simp [h1,h2,h3] at h
theorem QC {s:ByteArray} {it:RS→Int × RS} (hit:∀ st,st.p≤s.size→Aw s 1 st (it st).2) {st:RS} {x:Int × RS} (h:Aw s 1 st x.2):Aw s 1 st (rowP s it x).2:=by
 unfold rowP;by_cases hc:dE s x.2.p=0 ∨ x.2.bad=true
 ·rw [if_pos hc]; exact h
 rw [if_neg hc];have hsg:dE s x.2.p ≠ 0:=fun e=>hc (.inl e)
 have hbd:x.2.bad=false:=by cases e:x.2.bad with
  | false=>rfl
  | true=>exact absurd (.inr e) hc
 have hyes:kY s (aW (dE s x.2.p)) x.2=true:=by unfold kY; rw [hbd,Jm hsg]; rfl
 obtain ⟨⟨a,b,c⟩,d⟩:=LY hit (k:=dE s x.2.p) (s.size + 1) [x.1] x.2 h.2.1;have d:=d (by omega) hyes;obtain ⟨a1,b1,c1⟩:=h;refine ⟨?_,b,?_⟩
 ·show st.p≤(ib s it (dE s x.2.p) (s.size + 1) [x.1] x.2).2.p;omega
 show ((ib s it (dE s x.2.p) (s.size + 1) [x.1] x.2).2.out ++ _).length + _≤_ + 1 + (ib s it (dE s x.2.p) (s.size + 1) [x.1] x.2).2.p;rw [T9,List.length_singleton];omega
theorem Ay {s:ByteArray} {n:Nat} {st:RS} (h:kY s fQ st=true):yX s (n + 1) false st=qK s st:=by
 unfold yX qK;rw [if_pos h];cases dD s (s.size + 1) [] (j5 fQ st) with
 | mk o st'=>cases o <;> rfl
theorem Az {s:ByteArray} {n:Nat} {st:RS} (h:kY s fQ st=false) (h2:kY s jy st=true):yX s (n + 1) false st=sV s (yX s n true (j5 jy st)):=by
 conv=>lhs; unfold yX
 rw [if_neg (by rw [h]; decide),if_pos h2];rfl
theorem AA {s:ByteArray} {n:Nat} {st:RS} (h:kY s fQ st=false) (h2:kY s jy st=false):yX s (n + 1) false st=((st.out.length:Int),rT (eY s st) (judged (eY s st) (aI s st))):=by
 unfold yX;rw [if_neg (by rw [h]; decide),if_neg (by rw [h2]; decide)]
theorem EE {s:ByteArray} {n:Nat} {st:RS}:yX s (n + 1) true st=rowP s (yX s n false) (yX s n false st):=by
 conv=>lhs; unfold yX
 rfl
theorem rJ {s:ByteArray}:∀ (n:Nat) (b:Bool) (st:RS),st.p≤s.size→Aw s 1 st (yX s n b st).2:=by
 intro n
 induction n with
 | zero=>intro b st h; cases b <;> exact ⟨TS _,h,by show st.out.length + st.p≤st.out.length + 1 + st.p; omega⟩
 | succ n ih =>
  intro b st h;cases b;case true=>rw [EE]; exact QC (fun st' h'=>ih false st' h') (ih false st h)
  cases h1:kY s fQ st;case true=>rw [Ay h1]; exact LW h1
  cases h2:kY s jy st;case true=>rw [Az h1 h2]; exact LX (ih true (j5 jy st) (kI h2))
  rw [AA h1 h2]; exact OQ h
theorem OT (R:Nat) (s:bH) (base:Nat) (hR:R < base) (hs:s.size≤1000):∀ n:Nat,
  (∀ (st:RS) (v:Value) (qs:List ER) (w:World),RdF w R s st base v qs→base≤w.heap.size→st.p≤s.size→st.out.length + (s.size - st.p)≤5000→2 * (s.size - st.p) < n →
   Calls prog 234 #[.pointer (some ⟨R,0,none⟩)] w (uI R s base v qs w (yX s n false st))) ∧
  (∀ (st:RS) (v:Value) (qs:List ER) (w:World),RdF w R s st base v qs→base≤w.heap.size→st.p≤s.size→st.out.length + (s.size - st.p)≤5000→2 * (s.size - st.p) + 1 < n →
   Calls prog 219 #[.pointer (some ⟨R,0,none⟩)] w (uI R s base v qs w (yX s n true st))):=by
 intro n
 induction n with
 | zero=>exact ⟨fun _ _ _ _ _ _ _ _ h=>absurd h (by omega),fun _ _ _ _ _ _ _ _ h=>absurd h (by omega)⟩
 | succ n ih =>
  refine ⟨fun st v qs w h hB hp hb hn=>?_,fun st v qs w h hB hp hb hn=>?_⟩
  ·have hlen:qs.length=st.out.length:=by rw [← h.out]; simp [aj]
   cases h1:kY s fQ st;case true=>rw [Ay h1]; exact LM R s st base v qs w h hR hB hs hp (by omega) h1
   cases h2:kY s jy st;case true=>
    rw [Az h1 h2];have h3:st.p + 1≤s.size:=kI h2;have h4:(j5 jy st).p=st.p + 1:=rfl;exact NY R s st base v qs w h hR hs hp h1 h2 _ (rJ n true (j5 jy st) h3).2.1 fun w1 hw1 hsz=>ih.2 (j5 jy st) v qs w1 hw1 (TZ hB hsz) h3 (by rw [h4]; show st.out.length + _≤_; omega) (by rw [h4]; omega)
   rw [AA h1 h2]; exact LF R s st base v qs w h hR hB hs hp (by omega) h1 h2
  rw [EE];obtain ⟨a,b,c⟩:=rJ (s:=s) n false st hp;refine QB R s st base v qs w h hR hB hs _ b (ih.1 st v qs w h hB hp hb (by omega)) _ (by omega) (fun st' v' qs' w' h' hB' h1 h2 h3=>ih.1 st' v' qs' w' h' hB' h2 h3 (by omega)) (fun st' h1 h2=>?_);obtain ⟨a2,b2,c2⟩:=rJ (s:=s) n false st' h2;exact ⟨a2,b2,c2⟩
def Tu (s:ByteArray) (a:Al):Prop:=a.t.size≤s.size∧a.s.size≤s.size
def Hr (s:ByteArray) (e:Ex):Prop:=e.allow.length≤s.size + 1∧(∀ a ∈ e.allow,Tu s a)∧e.over.size≤s.size∧e.name.size≤s.size∧e.kids.length≤s.size + 2
theorem qM (s:bH) (p:Nat):(ax s p).size≤s.size:=by
 unfold ax;rw [ByteArray.size_extract];omega
theorem QD (s:bH) (st:RS):(x9 s st).size≤s.size:=by
 unfold x9;split
 ·exact qM s _
 exact TW _
theorem LZ {s:ByteArray}:∀ (n:Nat) (xs:List Al) (st:RS) (ys:List Al),(∀ a ∈ xs,Tu s a)→(dD s n xs st).1=some ys→ys.length≤xs.length + n∧∀ a ∈ ys,Tu s a:=by
 intro n
 induction n with
 | zero=>intro xs st ys _ h; cases h
 | succ n ih =>
  intro xs st ys hx h;have hx2:∀ a ∈ xs ++ [(⟨ax s st.p,x9 s (bz s st)⟩:Al)],Tu s a:=by
   intro a ha;rcases Uc.1 ha with h1 | h1
   ·exact hx a h1
   rw [Ua] at h1; subst h1; exact ⟨qM s _,QD s _⟩
  unfold dD at h;by_cases hb:st.bad=true
  ·rw [if_pos hb] at h; cases h
  rw [if_neg hb] at h;by_cases hc:kY s fe (aV s (bz s st))=true
  ·rw [if_pos hc] at h;injection h with h;subst h;exact ⟨by rw [T9,List.length_singleton]; omega,hx2⟩
  rw [if_neg hc] at h;have fin:∀ st',(dD s n (xs ++ [⟨ax s st.p,x9 s (bz s st)⟩]) st').1=some ys→ys.length≤xs.length + (n + 1)∧∀ a ∈ ys,Tu s a:=fun st' h'=>by
   obtain ⟨a,b⟩:=ih _ st' ys hx2 h';rw [T9,List.length_singleton] at a;exact ⟨by omega,b⟩
  by_cases hm:kY s lV (aV s (bz s st))=true
  ·rw [if_pos hm] at h; exact fin _ h
  rw [if_neg hm] at h; exact fin _ h
theorem EF {s:ByteArray} {x:Ex} {st:RS} (h:∀ e ∈ st.out,Hr s e) (hx:Hr s x):∀ e ∈ (rT x st).out,Hr s e:=by
 intro e he;rcases Uc.1 he with h1 | h1
 ·exact h e h1
 rw [Ua] at h1; subst h1; exact hx
theorem OU {s:ByteArray} {st:RS} (hp:st.p + 5≤s.size) (h:∀ e ∈ st.out,Hr s e):∀ e ∈ (qK s st).2.out,Hr s e:=by
 have hc:=(Di (s:=s) (s.size + 1) [] (j5 fQ st) hp).2.2;have hs:=LZ (s:=s) (s.size + 1) [] (j5 fQ st);unfold qK;cases e:dD s (s.size + 1) [] (j5 fQ st) with
 | mk o st' =>
  rw [e] at hc hs;have hc':st'.out=st.out:=hc;cases o with
  | none=>show ∀ e ∈ st'.out,Hr s e; rw [hc']; exact h
  | some xs =>
   obtain ⟨a,b⟩:=hs xs (fun a ha=>by cases ha) rfl;exact EF (by rw [hc']; exact h) ⟨by simpa using a,b,TW _,TW _,TW _⟩
theorem QE {s:ByteArray} {st:RS} (h:∀ e ∈ st.out,Hr s e):∀ e ∈ (rT (eY s st) (judged (eY s st) (aI s st))).out,Hr s e:=by
 have h1:(judged (eY s st) (aI s st)).out=st.out:=by
  have h2:(aI s st).out=st.out:=by unfold aI; split <;> rfl
  unfold judged; split <;> exact h2
 refine EF (by rw [h1]; exact h) ?_;unfold eY;split
 ·exact ⟨TW _,fun a ha=>(by cases ha),qM s _,qM s _,TW _⟩
 exact ⟨TW _,fun a ha=>(by cases ha),TW _,qM s _,TW _⟩
theorem OV {s:ByteArray} {it:RS→Int × RS} {k:Int} (hit:∀ st,(∀ e ∈ st.out,Hr s e)→st.p≤s.size→(∀ e ∈ (it st).2.out,Hr s e)∧(it st).2.p≤s.size):∀ (n:Nat) (zs:List Int) (st:RS),(∀ e ∈ st.out,Hr s e)→st.p≤s.size→(∀ e ∈ (ib s it k n zs st).2.out,Hr s e)∧(ib s it k n zs st).1.length≤zs.length + n:=by
 intro n
 induction n with
 | zero=>intro zs st h _; exact ⟨h,TS _⟩
 | succ n ih =>
  intro zs st h hp;unfold ib;cases e:kY s (aW k) st;case false=>exact ⟨h,Nat.le_add_right _ _⟩
  have h1:(j5 (aW k) st).p≤s.size:=kI e;obtain ⟨a,b⟩:=hit (j5 (aW k) st) h h1;obtain ⟨a2,b2⟩:=ih (zs ++ [(it (j5 (aW k) st)).1]) _ a b;rw [T9,List.length_singleton] at b2;exact ⟨a2,by simp only [if_true]; omega⟩
theorem OW {s:ByteArray}:∀ (n:Nat) (b:Bool) (st:RS),st.p≤s.size→(∀ e ∈ st.out,Hr s e)→∀ e ∈ (yX s n b st).2.out,Hr s e:=by
 intro n
 induction n with
 | zero=>intro b st _ h; cases b <;> exact h
 | succ n ih =>
  intro b st hp h;cases b;case true=>
   rw [EE];unfold rowP;have hx:=ih false st hp h;have hxp:=(rJ (s:=s) n false st hp).2.1;split
   ·exact hx
   obtain ⟨a,b⟩:=OV (s:=s) (it:=yX s n false) (k:=dE s (yX s n false st).2.p) (fun st' h1 h2=>⟨ih false st' h2 h1,(rJ (s:=s) n false st' h2).2.1⟩) (s.size + 1) [(yX s n false st).1] (yX s n false st).2 hx hxp;exact EF a ⟨TW _,fun a ha=>(by cases ha),TW _,TW _,TZ b (by simp only [List.length_singleton]; omega)⟩
  cases h1:kY s fQ st;case true=>rw [Ay h1]; exact OU (kI h1) h
  cases h2:kY s jy st;case true=>
   rw [Az h1 h2];have hx:=ih true (j5 jy st) (kI h2) h;unfold sV;split
   ·exact hx
   exact hx
  rw [AA h1 h2]; exact QE h
theorem Hr.light {s:ByteArray} {e:Ex} (h:Hr s e) (hs:s.size≤1000):e.light∧e.fits:=by
 obtain ⟨h1,h2,h3,h4,h5⟩:=h;refine ⟨⟨by omega,by omega⟩,⟨fun a ha=>⟨?_,?_⟩,?_,?_,?_,?_⟩⟩ <;> unfold maxLen
 ·have:=(h2 a ha).1; omega
 ·have:=(h2 a ha).2; omega
 all_goals omega
def kD (s:ByteArray):RS:=(yX s (2 * s.size + 2) true ⟨0,false,[]⟩).2
def mq (s:ByteArray):Bool:=decide (s.size≤1000) && !(kD s).bad && !decide ((kD s).p < s.size) && aK (kD s).out && ((gQ (kD s).out).toList == s.toList)
def Tv (s:ByteArray) (w:World) (e:Ending) (w':World):Prop :=
 ag w w'∧((mq s=false∧e=.returned (.tuple #[.slice none 0 0,.bool false])) ∨ (mq s=true∧∃ (v:Value) (R:Nat) (qs:List ER),e=.returned (.tuple #[v,.bool true])∧RdF w' R s (kD s) (w.heap.size + 1) v qs))
theorem OX (w:af) (s:bH):RdF (w.alloc (.cells #[.string s,.int .i64 0,.bool false,.slice none 0 0] 303)) w.heap.size s ⟨0,false,[]⟩ (w.heap.size + 1) (.slice none 0 0) []:=by
 refine ⟨⟨by simp,by simp,by simp,by simp,by simp,fun j=>by simp⟩,World.ownsRow_nil _ _ _ _,rfl,?_,?_,?_,?_,?_,?_,?_,?_⟩
 ·intro q hq; cases hq
 ·intro q hq; cases hq
 ·intro q hq; cases hq
 ·intro q hq; cases hq
 ·intro q hq; cases hq
 ·intro x y hx; exact absurd hx (by simp)
 ·intro q hq; cases hq
 intro q hq; cases hq
theorem RdF.slE {w:af} {R:Nat} {s:ByteArray} {st:RS} {base:Nat} {v:Value} {qs:List ER} (h:RdF w R s st base v qs):∃ ad cap,v=.slice ad qs.length cap∧iH w ad qs:=Rt h.own rfl h.ok
theorem RdF.later {w w':af} {R:Nat} {s:ByteArray} {st:RS} {base:Nat} {v:Value} {qs:List ER} (h:RdF w R s st base v qs) (hb:ag w w'):RdF w' R s st base v qs :=
 h.heap hb.size (hb.block R h.rd.lt) (fun g hg=>hb.block g (h.own.lt g hg).2) (fun q hq g hi=>hb.block g (h.lie q hq g hi).2.1)
theorem wM (s:bH) (w:af):Calls prog 178 #[.string s] w (Tv s w):=by
 by_cases hs:s.size≤1000
 ·have hd0:decide ((1000:Int) < (s.size:Int))=false:=by simp; omega
  have Zc:=ai (OX w s);have VG:=ai ((OT w.heap.size s (w.heap.size + 1) (by omega) hs (2 * s.size + 2)).2 ⟨0,false,[]⟩ (.slice none 0 0) [] _ Zc.out (by simp) (TW _) (by simp; omega) (by simp));have ZI:Hid (∀ e ∈ (kD s).out,e.light∧e.fits):=fun e he=>(OW (s:=s) _ true ⟨0,false,[]⟩ (TW _) (fun e he=>by cases he) e he).light hs;have HFEW:=ai (rJ (s:=s) (2 * s.size + 2) true ⟨0,false,[]⟩ (TW _));go_enter func178,ntmps178;go_wp2_with fail;refine VG.out.mono ?_;rintro e w1 ⟨v1,qs,rfl,hF1,hW1,-⟩;replace hF1:RdF w1 w.heap.size s (kD s) (w.heap.size + 1) v1 qs:=hF1;have VH:=ai hF1;have HB1:Hid (ag w w1):=⟨hW1.onl.os,hW1.onl.tape,hW1.onl.output,by have:=hW1.onl.size; simp at this; omega,fun k hk=>(hW1.onl.block k (by simp; omega) (by omega) (by simp [Value.ownBlock])).trans ((World.grownBy_alloc w _ none).block k hk (by simp))⟩;obtain ⟨ad,cap,rfl,hsl⟩:=hF1.slE;have WG:=ai hsl;have Yc:=ai hF1.out;have X7:qs.length≤1048576:=by
   have h2:=congrArg List.length hF1.out;simp only [aj,Uy] at h2;have h3:(kD s).out.length + 0≤0 + 1 + (kD s).p:=HFEW.out.2.2;have h4:(kD s).p≤s.size:=HFEW.out.2.1;omega
  have HL:Hid (∀ r ∈ qs,r.e.light):=fun r hr=>(ZI.out r.e (by rw [← Yc.out]; exact Ue.2 ⟨r,hr,rfl⟩)).1;have HF:Hid (∀ r ∈ qs,r.e.fits):=fun r hr=>(ZI.out r.e (by rw [← Yc.out]; exact Ue.2 ⟨r,hr,rfl⟩)).2;have Xr:Hid (mq s=(!(kD s).bad && !decide ((kD s).p < s.size) && aK (kD s).out && ((gQ (kD s).out).toList == s.toList))):=by show _=_; unfold mq; simp [hs]
  have c1:=hF1.rd.c1;have c2:=hF1.rd.c2;have c3:=hF1.rd.c3;clear hF1 hW1 hsl VG Zc ZI HFEW;cases hb:(kD s).bad;case true=>
   rw [hb] at c2;have EQ:Hid (mq s=false):=by show _=_; rw [Xr.out,hb]; rfl
   go_wp2;exact bodyPost_ret (v:=.tuple #[.slice none 0 0,.bool false]) (by simp [results,Tryz.results178,go_sem]) rfl ⟨HB1.out,.inl ⟨EQ.out,rfl⟩⟩
  rw [hb] at c2;by_cases hlt:(kD s).p < s.size
  ·have hd1:decide (((kD s).p:Int) < (s.size:Int))=true:=by simp; omega
   have EQ:Hid (mq s=false):=by show _=_; rw [Xr.out,hb,decide_eq_true hlt]; rfl
   go_wp2;exact bodyPost_ret (v:=.tuple #[.slice none 0 0,.bool false]) (by simp [results,Tryz.results178,go_sem]) rfl ⟨HB1.out,.inl ⟨EQ.out,rfl⟩⟩
  have hd1:decide (((kD s).p:Int) < (s.size:Int))=false:=by simp; omega
  go_wp2_with fail;refine (mh ad cap qs w1 X7 HL.out HF.out WG.out).mono ?_;rintro e w2 ⟨rfl,hB2⟩;have VI:=ai (VH.out.later hB2);have HB2:=ai (HB1.out.trans (hB2.mono HB1.out.size));have HSL2:=ai (WG.out.below hB2);have k3:=VI.out.rd.c3;rw [Yc.out];clear hB2;cases he:aK (kD s).out;case false=>
   have EQ:Hid (mq s=false):=by show _=_; rw [Xr.out,hb,decide_eq_false hlt,he]; rfl
   go_wp2;exact bodyPost_ret (v:=.tuple #[.slice none 0 0,.bool false]) (by simp [results,Tryz.results178,go_sem]) rfl ⟨HB2.out,.inl ⟨EQ.out,rfl⟩⟩
  go_wp2_with fail;refine (oq ad cap qs w2 X7 HL.out HF.out HSL2.out).mono ?_;rintro e w3 ⟨rfl,hB3⟩;have Zd:=ai (VI.out.later hB3);have HB3:=ai (HB2.out.trans (hB3.mono HB2.out.size));have q3:=Zd.out.rd.c3;rw [Yc.out];clear hB3;cases ht:(gQ (kD s).out).toList == s.toList;case false=>
   have ht2:(!(gQ (kD s).out).toList == s.toList)=true:=by rw [ht]; rfl
   have EQ:Hid (mq s=false):=by show _=_; rw [Xr.out,ht,Bool.and_false]
   go_wp2;exact bodyPost_ret (v:=.tuple #[.slice none 0 0,.bool false]) (by simp [results,Tryz.results178,go_sem]) rfl ⟨HB3.out,.inl ⟨EQ.out,rfl⟩⟩
  have ht2:(!(gQ (kD s).out).toList == s.toList)=false:=by rw [ht]; rfl
  have EQ:Hid (mq s=true):=by show _=_; rw [Xr.out,hb,decide_eq_false hlt,he,ht]; rfl
  go_wp2;exact bodyPost_ret (v:=.tuple #[.slice ad qs.length cap,.bool true]) (by simp [results,Tryz.results178,go_sem]) rfl ⟨HB3.out,.inr ⟨EQ.out,_,_,qs,rfl,Zd.out⟩⟩
 have hd0:decide ((1000:Int) < (s.size:Int))=true:=by simp; omega
 have EQ:Hid (mq s=false):=by show _=_; unfold mq; rw [decide_eq_false hs]; rfl
 go_enter func178,ntmps178;go_wp2;exact bodyPost_ret (v:=.tuple #[.slice none 0 0,.bool false]) (by simp [results,Tryz.results178,go_sem]) rfl ⟨TT _ _,.inl ⟨EQ.out,rfl⟩⟩
end Go.Proofs.YtajkkeikihhejaaGreat
namespace Go.Proofs.YtajkkeikihhejaaGreat
open Go.Sort
open Go.ChangeShapes Go.WideShapes Go.ChangeAt Go.RowKit
open Pl
attribute [local go_sem ↓] Go.wp_at_zero Go.wp_at_succ
theorem wN (b off cap:Nat) (ts:List Tp) (w:af) (hlen:ts.length≤maxLen) (hr:kJ w b off ts) (hb:b < w.heap.size) (hf:∀ t ∈ ts,t.fits) :
    Calls prog 99 #[.slice (some ⟨b,off,none⟩) ts.length cap] w fun e w'=>e=.returned (.bool (dJ ts))∧ag w w':=by
  unfold maxLen at hlen;by_cases hbig:40 < ts.length
  · have HT:Hid (dJ ts=false):=by show _=_; simp [dJ]; omega
    go_enter func99,ntmps99;go_wp2;go_ret;exact ⟨ah HT.out.symm,TT _ _⟩
  · go_enter func99,ntmps99;go_wp2;go_loopw [10] (fun i wr=>∃ k:Nat,k≤ts.length∧i=.int .i64 k∧Hid (tH ts k=true)∧ag w wr) (fun i _=>ts.length - (intOf i).toNat);case atStart=>exact ⟨0,TW _,rfl,rfl,TT _ _⟩
    obtain ⟨k,hk,rfl,hu,hB⟩:=hrel;by_cases hlt:k < ts.length
    · have Xr:=pU (hr.below hB hb);have UL:=pU hf;obtain ⟨t0,t1,t2,t3,t4,t5⟩:=Xr.out k hlt;have hk1:=bB k;have hk2:(k:Int) < (ts.length:Int):=by omega
      clear hr hf;obtain ⟨W1,hW1⟩:∃ W1,W1=wr.alloc (.cells #[.string ts[k].a,.string ts[k].b,.string ts[k].r,.string ts[k].c,.string ts[k].d,.string ts[k].s] 46):=⟨_,rfl⟩;have hal:ag wr W1:=by rw [hW1]; exact (TT _ _).alloc (TS _) _
      have c0:∀ d os,(grow (redrawn W1 d) os).cell? ⟨wr.heap.size,0,none⟩=some (.string ts[k].a):=cell_regrown (by rw [hW1]; simp);have c1:∀ d os,(grow (redrawn W1 d) os).cell? ⟨wr.heap.size,1,none⟩=some (.string ts[k].b):=cell_regrown (by rw [hW1]; simp);have c2:∀ d os,(grow (redrawn W1 d) os).cell? ⟨wr.heap.size,2,none⟩=some (.string ts[k].r):=cell_regrown (by rw [hW1]; simp);have c3:∀ d os,(grow (redrawn W1 d) os).cell? ⟨wr.heap.size,3,none⟩=some (.string ts[k].c):=cell_regrown (by rw [hW1]; simp);have c4:∀ d os,(grow (redrawn W1 d) os).cell? ⟨wr.heap.size,4,none⟩=some (.string ts[k].d):=cell_regrown (by rw [hW1]; simp);have c5:∀ d os,(grow (redrawn W1 d) os).cell? ⟨wr.heap.size,5,none⟩=some (.string ts[k].s):=cell_regrown (by rw [hW1]; simp);have U9:Hid (∀ d os,ag w (grow (redrawn W1 d) os)):=fun d os=>hB.trans ((hal.mono hB.size).trans ((below_regrown W1 d os).mono (TZ hB.size hal.size)));have HK:Hid (∀ p v,wr.cell? p=some v→W1.cell? p=some v):=fun p v h=>cell_later hal h;clear hal;go_wp2_with fail;rw [← hW1];clear hW1 t0 t1 t2 t3 t4 t5;have WS:Hid (∀ d os,Calls prog 108 #[.agg #[.string ts[k].a,.string ts[k].b,.string ts[k].r,.string ts[k].c,.string ts[k].d,.string ts[k].s]] (grow (redrawn W1 d) os) fun e w''=>e=.returned (.bool ts[k].ok)∧∃ p:Regrown,w''=grow (redrawn W1 p.d) p.os):=by
        obtain ⟨f0,f1,f2,f3,f4,f5⟩:=UL.out ts[k] (TQ hlt);exact dm fun W' _=>gm _ _ _ _ _ _ _ f0 f1 f2 f3 f4 f5
      cases hok:ts[k].ok;case false=>
        have HT:Hid (dJ ts=false):=uP hlt (Kq hlt hok);rw [hok] at WS;clear hok;refine wp_region_quiet_below (by kernel_rfl) (by kernel_rfl) ?_
        repeat (go_big_quiet_step (exact WS.out _ _))
        refine wpQuiet_nil ?_;rintro _ ⟨⟨dq,osq⟩,rfl⟩;go_wp2;go_ret;exact ⟨ah HT.out.symm,U9.out dq osq⟩
      rw [hok] at WS;by_cases hz:k=0
      · have HU:Hid (tH ts (k + 1)=true):=by show _=_; rw [rz,hu.out]; subst hz; rw [wB hlt,hok]; rfl
        have hk8:decide ((0:Int) < (k:Int))=false:=by simp; omega
        have Z4:decide (0 < k)=false:=by simp; omega
        clear hok hz;refine wp_region_quiet_below (by kernel_rfl) (by kernel_rfl) ?_
        repeat (go_big_quiet_step (exact WS.out _ _))
        refine wpQuiet_nil ?_;rintro _ ⟨⟨dq,osq⟩,rfl⟩;go_wp2;go_roundw;case rel=>exact ⟨k + 1,by omega,by go_num,HU,U9.out dq osq⟩
        simp [intOf]; omega
      · obtain ⟨m,hm⟩:∃ m:Nat,k=m + 1:=⟨k - 1,by omega⟩;have U5:m < ts.length:=by omega
        obtain ⟨q0,q1,q2,q3,q4,q5⟩:=Xr.out m U5;replace q0:=cell_regrown (HK.out _ _ q0);replace q1:=cell_regrown (HK.out _ _ q1);replace q2:=cell_regrown (HK.out _ _ q2);replace q3:=cell_regrown (HK.out _ _ q3);replace q4:=cell_regrown (HK.out _ _ q4);replace q5:=cell_regrown (HK.out _ _ q5);have hkm:(k:Int) - 1=(m:Int):=by omega
        have hm1:=bB m;have hm2:(m:Int) < (ts.length:Int):=by omega
        have hpos:(0:Int) < (k:Int):=by omega
        have hposN:0 < k:=by omega
        have hwm:IntKind.i64.wrap (m:Int)=(m:Int):=by rw [IntKind.wrap_i64]; omega
        have HA:Hid (uO ts k=ts[m].ahead ts[k]):=by show _=_; subst hm; rw [rA hlt,hok]; rfl
        have Yy:Hid (∀ d os,Calls prog 141 #[.agg #[.string ts[m].a,.string ts[m].b,.string ts[m].r,.string ts[m].c,.string ts[m].d,.string ts[m].s],.agg #[.string ts[k].a,.string ts[k].b,.string ts[k].r,.string ts[k].c,.string ts[k].d,.string ts[k].s]] (grow (redrawn W1 d) os) fun e w''=>e=.returned (.bool (ts[m].ahead ts[k]))∧∃ p:Regrown,w''=grow (redrawn W1 p.d) p.os):=by
          obtain ⟨f0,f1,f2,f3,f4,f5⟩:=UL.out ts[k] (TQ hlt);obtain ⟨g0,g1,g2,g3,g4,g5⟩:=UL.out ts[m] (TQ U5);exact dm fun W' _=>BB _ _ _ _ _ _ _ _ _ _ _ _ _ g0 g1 g2 g3 g4 g5 f0 f1 f2 f3 f4 f5
        clear hm hz hok;cases ha:ts[m].ahead ts[k];case false=>
          have HT:Hid (dJ ts=false):=uP hlt (by rw [HA.out,ha]);rw [ha] at Yy;clear ha HA;refine wp_region_quiet_below (by kernel_rfl) (by kernel_rfl) ?_
          repeat (go_big_quiet_step (first | exact WS.out _ _ | exact Yy.out _ _))
          refine wpQuiet_nil ?_;rintro _ ⟨⟨dq,osq⟩,rfl⟩;go_wp2;go_ret;exact ⟨ah HT.out.symm,U9.out dq osq⟩
        have HU:Hid (tH ts (k + 1)=true):=by show _=_; rw [rz,hu.out,HA.out,ha]; rfl
        rw [ha] at Yy;clear ha HA;refine wp_region_quiet_below (by kernel_rfl) (by kernel_rfl) ?_
        repeat (go_big_quiet_step (first | exact WS.out _ _ | exact Yy.out _ _))
        refine wpQuiet_nil ?_;rintro _ ⟨⟨dq,osq⟩,rfl⟩;go_wp2;go_roundw;case rel=>exact ⟨k + 1,by omega,by go_num,HU,U9.out dq osq⟩
        simp [intOf]; omega
    · go_wp2;go_ret;exact ⟨ah (by have e:k=ts.length:=(by omega);subst e;simp [dJ,hu.out]; omega),hB⟩
end Go.Proofs.YtajkkeikihhejaaGreat
namespace Go.Proofs.YtajkkeikihhejaaGreat
open Go.Sort
open Go.ChangeShapes Go.WideShapes Go.ChangeAt Go.RowKit
open Pl
attribute [local go_sem ↓] Go.wp_at_zero Go.wp_at_succ
theorem wO (ad:Option Addr) (cap:Nat) (w:af) :
  Calls prog 93 #[.slice ad 0 cap] w fun e w'=>e=.returned (.bool (dJ []))∧ag w w':=by
 go_enter func93,ntmps93;go_wp2;go_loopw [3] (fun i wr=>∃ k:Nat,k=0∧i=.int .i64 k∧ag w wr) (fun i _=>(intOf i).toNat);case atStart=>exact ⟨0,rfl,rfl,TT _ _⟩
 obtain ⟨k,rfl,rfl,hB⟩:=hrel;go_wp2;go_ret;exact ⟨rfl,hB⟩
theorem wP (ad:Option Addr) (cap:Nat) (w:af) :
  Calls prog 99 #[.slice ad 0 cap] w fun e w'=>e=.returned (.bool (dJ []))∧ag w w':=by
 go_enter func99,ntmps99;go_wp2;go_loopw [10] (fun i wr=>∃ k:Nat,k=0∧i=.int .i64 k∧ag w wr) (fun i _=>(intOf i).toNat);case atStart=>exact ⟨0,rfl,rfl,TT _ _⟩
 obtain ⟨k,rfl,rfl,hB⟩:=hrel;go_wp2;go_ret;exact ⟨rfl,hB⟩
theorem ow (ad:Option Addr) (cap:Nat) (ts:List Tp) (w:af) (hlen:ts.length≤maxLen) (hs:Sl w ad ts) (hf:∀ t ∈ ts,t.fits) :
  Calls prog 93 #[.slice ad ts.length cap] w fun e w'=>e=.returned (.bool (dJ ts))∧ag w w':=by
 rcases hs with rfl | ⟨b,off,rfl,hb,hr⟩
 ·exact wO ad cap w
 exact wC b off cap ts w hlen hr hb hf
theorem wQ (ad:Option Addr) (cap:Nat) (ts:List Tp) (w:af) (hlen:ts.length≤maxLen) (hs:Sl w ad ts) (hf:∀ t ∈ ts,t.fits) :
  Calls prog 99 #[.slice ad ts.length cap] w fun e w'=>e=.returned (.bool (dJ ts))∧ag w w':=by
 rcases hs with rfl | ⟨b,off,rfl,hb,hr⟩
 ·exact wP ad cap w
 exact wN b off cap ts w hlen hr hb hf
end Go.Proofs.YtajkkeikihhejaaGreat
