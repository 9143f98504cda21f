/- The contract of the document's walk over a tree, and of its look at a whole expression. -/
import Derived.Test.YtajkkeikihhejaaGreatSq
import Derived.Test.YtajkkeikihhejaaGreatJ9
open Go.Proofs.Tryz
set_option maxHeartbeats 80000000
namespace Go.Proofs.YtajkkeikihhejaaGreat
open Go.ChangeShapes Go.WideShapes Go.ChangeAt Go.RowKit
open Pl
theorem oJ (rs:List ER) (n:Nat) (h:n < rs.length):lN (ak rs) n=rs[n].e.kids:=by simp [lN,ak,h]
theorem GQ (b off cap:Nat) (rs:List ER) (hlen:rs.length≤1048576) (hl:∀ r ∈ rs,r.e.light) (n:Nat):∀ (w:ae),n < rs.length→b < w.heap.size→(∀ (i:Nat) (h:i < rs.length),xQ w b (off + i * 5) rs[i])→(∀ r ∈ rs,r.ok w) →
  Calls prog 191 #[.slice (some ⟨b,off,none⟩) rs.length cap,.int .i64 (n:Int)] w fun e w'=>e=.returned (.int .i64 (aH (ak rs) n))∧af w w':=by
 induction n using Nat.strongRecOn with
 | ind n ih =>
  intro w hn hb hr hok
  have IH:Hid (∀ m,m < n→∀ (w:ae),m < rs.length→b < w.heap.size→(∀ (i:Nat) (h:i < rs.length),xQ w b (off + i * 5) rs[i])→(∀ r ∈ rs,r.ok w) →
   Calls prog 191 #[.slice (some ⟨b,off,none⟩) rs.length cap,.int .i64 (m:Int)] w fun e w'=>e=.returned (.int .i64 (aH (ak rs) m))∧af w w'):=ih
  have HR:Hid (∀ (i:Nat) (h:i < rs.length),xQ w b (off + i * 5) rs[i]):=hr;have HO:=az hok;obtain ⟨t0,t1,t2,t3,t4⟩:=hr n hn;obtain ⟨l1,l2⟩:=hl rs[n] (Sw hn);have hn1:=bq n;have hn2:(n:Int) < (rs.length:Int):=by omega
  have HT:Hid (aH (ak rs) n=dE (dQ (ak rs) n) rs[n].e.kids.reverse ((n:Int) - 1)):=by show _=_; rw [jO,oJ rs n hn]
  have HL:=az hl;clear ih hr hok hl l1;go_enter func191,ntmps191;go_wp2_with fail;go_loopw [5,6] (fun a i wr=>∃ (j:Nat) (x:Int),j≤rs[n].e.kids.length∧i=.int .i64 ((j:Int) - 1)∧a=.int .i64 x∧-1≤x∧x < n∧Hid (dE (dQ (ak rs) n) (rs[n].e.kids.take j).reverse x=aH (ak rs) n)∧af w wr) (fun _ i _=>(intOf i + 1).toNat);case atStart=>exact ⟨rs[n].e.kids.length,(n:Int) - 1,Sy _,rfl,rfl,by omega,by omega,(by show _=_; rw [SS]; exact HT.out.symm),Sz _ _⟩
  obtain ⟨j,x,hj,rfl,rfl,hx0,hx1,HG,hB⟩:=hrel;have s4:=kept hB hb t4;by_cases hj0:0 < j
  ·obtain ⟨j,rfl⟩:∃ i,j=i + 1:=⟨j - 1,by omega⟩;have hjl:j < rs[n].e.kids.length:=by omega
   rcases (HO.out rs[n] (Sw hn)).2.below hB with hnil | ⟨bk,offk,WH,hbk,Yx⟩
   ·rw [hnil] at hjl; simp at hjl
   rw [WH] at s4;have k0:=Yx j hjl;clear Yx;have hji:((j + 1:Nat):Int) - 1=(j:Int):=by omega
   have hj1:=bq j;have hj2:(j:Int) < (rs[n].e.kids.length:Int):=by omega
   have HG2:Hid ((if x < 0 ∨ rs[n].e.kids[j] ≠ x then -1 else if dQ (ak rs) n x < 0 then -1 else dE (dQ (ak rs) n) (rs[n].e.kids.take j).reverse (dQ (ak rs) n x - 1))=aH (ak rs) n):=by
    have:=HG.out;rw [SA hjl,List.reverse_append] at this;exact this
   rw [hji];clear HG WH t0 t1 t2 t3 t4;by_cases hxn:x < 0
   ·have HT1:Hid (aH (ak rs) n=-1):=by show _=_; rw [← HG2.out,if_pos (Or.inl hxn)]
    go_wp2;go_ret;exact ⟨by rw [HT1.out]; rfl,hB⟩
   by_cases hkx:rs[n].e.kids[j]=x
   ·obtain ⟨m,rfl⟩:∃ m:Nat,x=(m:Int):=⟨x.toNat,by omega⟩;have hF:dQ (ak rs) n (m:Int)=aH (ak rs) m:=by unfold dQ; rw [if_pos ⟨by omega,by simp; omega⟩]; simp
    have HF:Hid (dQ (ak rs) n (m:Int)=aH (ak rs) m):=hF;have hle:=nD (ak rs) m;clear hF;go_wp2_with fail;refine (IH.out m (by omega) _ (by omega) (Sv hb hB.size) (fun i hi=>(HR.out i hi).same fun o=>hB.cell (p:=⟨b,o,none⟩) hb) (fun r hr=>(HO.out r hr).below hB)).mono ?_;rintro e w1 ⟨rfl,hb1⟩;have hB1:af w w1:=hB.trans (hb1.mono hB.size);clear hb1;by_cases hneg:aH (ak rs) m < 0
    ·have HT1:Hid (aH (ak rs) n=-1):=by show _=_; rw [← HG2.out,if_neg (by omega),HF.out,if_pos hneg]
     go_wp2;go_ret;exact ⟨by rw [HT1.out]; rfl,hB1⟩
    have VY:Hid (dE (dQ (ak rs) n) (rs[n].e.kids.take j).reverse (aH (ak rs) m - 1)=aH (ak rs) n):=by
     show _=_;rw [← HG2.out,if_neg (by omega),HF.out,if_neg hneg]
    go_wp2;go_roundw;case rel=>exact ⟨j,aH (ak rs) m - 1,by omega,by go_num,rfl,by omega,by omega,VY,hB1⟩
    simp [intOf] <;> omega
   have HT1:Hid (aH (ak rs) n=-1):=by show _=_; rw [← HG2.out,if_pos (Or.inr hkx)]
   go_wp2;go_ret;exact ⟨by rw [HT1.out]; rfl,hB⟩
  obtain rfl:j=0:=by omega
  have HT1:Hid (aH (ak rs) n=x + 1):=by show _=_; have:=HG.out; simp [dE] at this; exact this.symm
  clear HG t0 t1 t2 t3 t4;go_wp2;go_ret;exact ⟨by rw [HT1.out]; rfl,hB⟩
theorem xQ.later {w w':ae} {b off:Nat} {r:ER} (h:xQ w b off r) (hb:b < w.heap.size) (hB:af w w'):xQ w' b off r:=h.same fun o=>hB.cell (p:=⟨b,o,none⟩) hb
theorem BJ {es:List Ex} (h:¬ (1≤es.length∧es.length≤15)):aN es=false:=by
 unfold aN;by_cases h1:1≤es.length
 ·have h2:¬ es.length≤15:=fun h2=>h ⟨h1,h2⟩;simp [h2]
 simp [h1]
theorem GR {es:List Ex} (k:Nat) (h:k < es.length) (hb:ay es[k]=false):aN es=false:=by simp [aN,BF es k h hb]
theorem GU {es:List Ex} (k:Nat) (h:k < es.length) (hb:kM es k=false):aN es=false:=by simp [aN,MB es k h hb]
def oK (zs:List Int) (i j:Nat):Bool:=(zs.take j).all fun k=>decide (0≤k) && decide (k≤(i:Int) - 1)
theorem Dt (zs:List Int) (i j:Nat) (h:j < zs.length):oK zs i (j + 1)=(oK zs i j && (decide (0≤zs[j]) && decide (zs[j]≤(i:Int) - 1))):=by
 unfold oK; rw [SA h,List.all_append]; simp
theorem EL (zs:List Int) (i j:Nat) (h:j < zs.length) (hb:(decide (0≤zs[j]) && decide (zs[j]≤(i:Int) - 1))=false):(zs.all fun k=>decide (0≤k) && decide (k≤(i:Int) - 1))=false:=by
 rw [Bool.eq_false_iff]; intro h2; rw [SQ] at h2; have:=h2 zs[j] (Sw h); rw [hb] at this; cases this
set_option maxRecDepth 4000 in
theorem yT (b off cap:Nat) (rs:List ER) (w:ae) (hlen:rs.length≤1048576) (hl:∀ r ∈ rs,r.e.light) (hf:∀ r ∈ rs,r.e.fits) (hb:b < w.heap.size) (hr:∀ (i:Nat) (h:i < rs.length),xQ w b (off + i * 5) rs[i]) (hok:∀ r ∈ rs,r.ok w) :
  Calls prog 135 #[.slice (some ⟨b,off,none⟩) rs.length cap] w fun e w'=>e=.returned (.bool (aN (ak rs)))∧af w w':=by
 have hel:=bi rs;have Vo:Hid ((ak rs).length=rs.length):=hel;have HL:=az hl;have HF:=az hf;have HR:Hid (∀ (i:Nat) (h:i < rs.length),xQ w b (off + i * 5) rs[i]):=hr;have HO:=az hok;clear hel hl hf hr hok;by_cases hn:1≤rs.length∧rs.length≤15
 ·obtain ⟨hn1,hn2⟩:=hn;go_enter func135,ntmps135;go_wp2_with fail;go_loopw [3,4] (fun o i wr=>∃ k:Nat,k≤rs.length∧i=.int .i64 k∧o=.int .i64 (gF (ak rs) k:Nat)∧Hid (jq (ak rs) k=true∧iZ (ak rs) k=true)∧af w wr) (fun _ i _=>rs.length - (intOf i).toNat);case atStart=>exact ⟨0,SC _,rfl,rfl,⟨by simp [jq],by simp [iZ]⟩,Sz _ _⟩
  obtain ⟨k,hk,rfl,rfl,HU,hB⟩:=hrel;by_cases hlt:k < rs.length
  ·have Vz:k < (ak rs).length:=by rw [Vo.out]; exact hlt
   have hek:(ak rs)[k]=rs[k].e:=by simp [ak]
   have HEK:Hid ((ak rs)[k]=rs[k].e):=hek;obtain ⟨t0,t1,t2,t3,t4⟩:=(HR.out k hlt).later hb hB;clear hek;have hk1:=bq k;have hk2:(k:Int) < (rs.length:Int):=by omega
   have hol:=ug (ak rs) k;go_wp2_with fail;refine (Dr rs[k] _ (HF.out _ (Sw hlt)) ((HO.out _ (Sw hlt)).below hB)).mono ?_;rintro e w1 ⟨rfl,hb1⟩;cases Tw:ay rs[k].e;case false=>
    have HN:Hid (aN (ak rs)=false):=GR k Vz (by rw [HEK.out]; exact Tw);go_wp2;go_ret;exact ⟨by rw [HN.out]; rfl,hB.trans (hb1.mono hB.size)⟩
   have hB1:af w w1:=hB.trans (hb1.mono hB.size);have hbw:b < wr.heap.size:=Sv hb hB.size;replace t0:=kept hb1 hbw t0;replace t4:=kept hb1 hbw t4;have hbw1:b < w1.heap.size:=Sv hbw hb1.size;clear t1 t2 t3 hb1 hB hbw;go_wp2_with fail;go_loopw [5] (fun i w2=>∃ j:Nat,j≤rs[k].e.kids.length∧i=.int .i64 j∧Hid (oK rs[k].e.kids k j=true)∧w2=w1) (fun i _=>rs[k].e.kids.length - (intOf i).toNat);case atStart=>exact ⟨0,SC _,rfl,(by show _=_; simp [oK]),rfl⟩
   obtain ⟨j,hj,rfl,HP,rfl⟩:=hrel;by_cases hjl:j < rs[k].e.kids.length
   ·rcases (HO.out rs[k] (Sw hlt)).2.below hB1 with hnil | ⟨bk,offk,WH,hbk,Yx⟩
    ·rw [hnil] at hjl; simp at hjl
    have t4':=t4;rw [WH] at t4';have k0:=Yx j hjl;have hj1:=bq j;have hj2:(j:Int) < (rs[k].e.kids.length:Int):=by omega
    obtain ⟨-,lk⟩:=HL.out rs[k] (Sw hlt);clear Yx WH t4;go_wp2_with fail;refine (MH _ _ _ _).mono ?_;rintro e w' ⟨rfl,rfl⟩;cases hin:(decide (0≤rs[k].e.kids[j]) && decide (rs[k].e.kids[j]≤(k:Int) - 1));case false=>
     have HN:Hid (aN (ak rs)=false):=GU k Vz (by unfold kM; rw [oJ rs k hlt]; exact EL _ k j hjl hin);go_wp2;go_ret;exact ⟨by rw [HN.out]; rfl,hB1⟩
    have TG:Hid (oK rs[k].e.kids k (j + 1)=true):=by show _=_; rw [Dt _ _ _ hjl,HP.out,hin]; rfl
    go_wp2;go_roundw;case rel=>exact ⟨j + 1,by omega,by go_num,TG,by first | rfl | trivial⟩
    simp [intOf] <;> omega
   obtain rfl:j=rs[k].e.kids.length:=by omega
   have Wt:Hid (jq (ak rs) (k + 1)=true∧iZ (ak rs) (k + 1)=true):=by
    refine ⟨?_,?_⟩
    ·rw [uh _ _ Vz,HU.out.1,HEK.out,Tw]; rfl
    rw [EH,HU.out.2];unfold kM;rw [oJ rs k hlt];have:=HP.out;unfold oK at this;rw [SS] at this;rw [this]; rfl
   have HOW:Hid (gF (ak rs) (k + 1)=gF (ak rs) k + (if rs[k].e.kind=1 then 1 else 0)):=by show _=_; rw [yI _ _ Vz,HEK.out]
   by_cases Yy:rs[k].e.kind=1
   ·have Xj:Hid (gF (ak rs) (k + 1)=gF (ak rs) k + 1):=by show _=_; rw [HOW.out,if_pos Yy]
    clear HOW;go_wp2;go_roundw;case rel=>exact ⟨k + 1,by omega,by go_num,by rw [Xj.out]; go_num,Wt,hB1⟩
    simp [intOf] <;> omega
   have Xj:Hid (gF (ak rs) (k + 1)=gF (ak rs) k):=by show _=_; rw [HOW.out,if_neg Yy]; rfl
   clear HOW;go_wp2;go_roundw;case rel=>exact ⟨k + 1,by omega,by go_num,by rw [Xj.out],Wt,hB1⟩
   simp [intOf] <;> omega
  obtain rfl:k=rs.length:=by omega
  have HN:Hid ((ak rs).all ay=true):=by
   have:=HU.out.1;unfold jq at this;rwa [← Vo.out,SS] at this
  have HKU:Hid (iZ (ak rs) rs.length=true):=HU.out.2;have HOW:Hid (gF (ak rs) rs.length=own (ak rs)):=by show _=_; unfold gF; rw [← Vo.out,SS]
  have hol:=ug (ak rs) rs.length;by_cases ho:gF (ak rs) rs.length≤1
  ·have HS:Hid (aN (ak rs)=decide (aH (ak rs) (rs.length - 1)=0)):=by
    show _=_;have h1:own (ak rs)≤1:=by rw [← HOW.out]; exact ho
    have e1:=Vo.out;unfold aN;rw [e1,HN.out,HKU.out];simp [h1,hn1,hn2]
   have hcast:((rs.length:Int) - 1)=((rs.length - 1:Nat):Int):=by omega
   have XO:Hid (((rs.length:Int) - 1)=((rs.length - 1:Nat):Int)):=hcast;clear hcast;go_wp2_with fail;rw [XO.out];refine (GQ b off cap rs hlen HL.out (rs.length - 1) _ (by omega) (Sv hb hB.size) (fun i hi=>(HR.out i hi).later hb hB) (fun r hr=>(HO.out r hr).below hB)).mono ?_;rintro e w1 ⟨rfl,hb1⟩;go_wp2;go_ret;exact ⟨by rw [HS.out]; exact ag (by rw [Bool.eq_iff_iff]; simp),hB.trans (hb1.mono hB.size)⟩
  have HS:Hid (aN (ak rs)=false):=by
   show _=_;have h1:¬ own (ak rs)≤1:=by rw [← HOW.out]; exact ho
   simp [aN,h1]
  go_wp2;go_ret;exact ⟨by rw [HS.out]; rfl,hB⟩
 have HN:Hid (aN (ak rs)=false):=BJ (by rw [Vo.out]; exact hn);go_enter func135,ntmps135;go_wp2_with fail
 all_goals go_ret
 all_goals exact ⟨by rw [HN.out]; rfl,Sz _ _⟩
theorem lX (ad:Option Addr) (cap:Nat) (rs:List ER) (w:ae) (hlen:rs.length≤1048576) (hl:∀ r ∈ rs,r.e.light) (hf:∀ r ∈ rs,r.e.fits) (hs:jk w ad rs) :
  Calls prog 135 #[.slice ad rs.length cap] w fun e w'=>e=.returned (.bool (aN (ak rs)))∧af w w':=by
 rcases hs with rfl | ⟨b,off,rfl,hb,hr,hok⟩
 ·go_enter func135,ntmps135;go_wp2_with fail;go_ret;exact ⟨rfl,Sz _ _⟩
 exact yT b off cap rs w hlen hl hf hb hr hok
theorem pX {a b:ByteArray} (h:a=b):Ending.returned (.string a)=.returned (.string b):=by rw [h]
theorem qV (a:aD):(⟨#[]⟩:ByteArray) ++ a=a:=by apply jb; simp [ByteArray.data_append]
theorem wY (a:Al) (w:ae) (h1:a.t.size≤12) (h2:a.s.size≤12) :
  Calls prog 251 #[.agg #[.string a.t,.string a.s]] w fun e w'=>e=.returned (.string (fE a))∧af w w':=by
 have hB:=(Sz w.heap.size w).alloc (Sy _) (.cells #[.string a.t,.string a.s] 43);cases he:a.s.toList.isEmpty;case true=>
  go_enter func251,ntmps251;go_wp2;go_ret;exact ⟨pX (by simp [fE,he]),hB⟩
 go_enter func251,ntmps251;go_wp2;go_ret;exact ⟨pX (by simp [fE,he]),hB⟩
theorem jR (k:Int) (w:ae) :
  Calls prog 235 #[.int .i64 k] w fun e w'=>e=.returned (.string (gG k))∧w'=w:=by
 by_cases h4:k=4
 ·subst h4;go_enter func235,ntmps235;go_wp2;go_ret;exact ⟨rfl,rfl⟩
 by_cases h5:k=5
 ·subst h5;go_enter func235,ntmps235;go_wp2;go_ret;exact ⟨rfl,rfl⟩
 have HS:Hid (gG k=⟨#[32,45,32]⟩):=by show _=_; simp [gG,h4,h5]
 go_enter func235,ntmps235;go_wp2;go_ret;exact ⟨by rw [HS.out]; rfl,rfl⟩
theorem Du {α:Type} {xs:List α} {k:Nat} (h:k≤xs.length):xs.take k=[] ↔ k=0:=by
 constructor
 ·intro e;have:=congrArg List.length e;rw [Tg,List.length_nil] at this;omega
 rintro rfl; simp
theorem mI (sep:aD) (xs:List ByteArray):fu sep (xs.take 0)=⟨#[]⟩:=by simp [BG]
theorem yU (sep:aD) (xs:List ByteArray) (h:0 < xs.length):fu sep (xs.take 1)=⟨#[]⟩ ++ xs[0]:=by
 rw [show (1:Nat)=0 + 1 from rfl,SA h,oF,if_pos (by simp),qV]
theorem wZ (sep:aD) (xs:List ByteArray) (k:Nat) (h:k < xs.length) (hk:0 < k):fu sep (xs.take (k + 1))=fu sep (xs.take k) ++ sep ++ xs[k]:=by
 rw [SA h,oF,if_neg];rw [Du (by omega)]; omega
theorem xe (sep:aD) (xs:List ByteArray) (b k:Nat) (hx:∀ x ∈ xs,x.size≤b):(fu sep (xs.take k)).size≤k * (b + sep.size):=by
 have h1:=oG sep b _ (xs.take k) rfl (fun x h=>hx x (List.mem_of_mem_take h));have h2:(xs.take k).length * (b + sep.size)≤k * (b + sep.size):=Nat.mul_le_mul_right _ (by simp; omega);omega
theorem BL {es:List Ex} (hes:Qs es) (n:Nat) (hn:n < es.length) (i:Bool):(iN es n i).size≤20000000000000 :=
 SF (GD hes n hn i) (SF (BH (by have:=hes.1; omega)) Pe)
set_option maxRecDepth 4000 in
theorem GV (b off cap:Nat) (rs:List ER) (hes:Qs (ak rs)) (hl:∀ r ∈ rs,r.e.light) (n:Nat):∀ (inside:Bool) (w:ae),n < rs.length→b < w.heap.size→(∀ (i:Nat) (h:i < rs.length),xQ w b (off + i * 5) rs[i])→(∀ r ∈ rs,r.ok w) →
  Calls prog 238 #[.slice (some ⟨b,off,none⟩) rs.length cap,.int .i64 (n:Int),.bool inside] w fun e w'=>e=.returned (.string (iN (ak rs) n inside))∧af w w':=by
 have HES:=az hes;have HL:=az hl;have h15:rs.length≤15:=by have:=hes.1; rw [bi] at this; exact this
 clear hes hl
 induction n using Nat.strongRecOn with
 | ind n ih =>
  intro inside w hn hb hr hok
  have IH:Hid (∀ m,m < n→∀ (inside:Bool) (w:ae),m < rs.length→b < w.heap.size→(∀ (i:Nat) (h:i < rs.length),xQ w b (off + i * 5) rs[i])→(∀ r ∈ rs,r.ok w) →
   Calls prog 238 #[.slice (some ⟨b,off,none⟩) rs.length cap,.int .i64 (m:Int),.bool inside] w fun e w'=>e=.returned (.string (iN (ak rs) m inside))∧af w w'):=ih
  have HR:Hid (∀ (i:Nat) (h:i < rs.length),xQ w b (off + i * 5) rs[i]):=hr;have HO:=az hok;obtain ⟨t0,t1,t2,t3,t4⟩:=hr n hn;have hnE:n < (ak rs).length:=by rw [bi]; exact hn
  have heE:(ak rs)[n]=rs[n].e:=by simp [ak]
  have Tw:ay rs[n].e=true:=by rw [← heE]; exact HES.out.2.1 n hnE
  have hkl:=uj HES.out hnE;rw [heE] at hkl;obtain ⟨hk5,hkind⟩:=pU Tw;have HT:Hid (iN (ak rs) n inside=inT rs[n].e inside (lT (jv (ak rs) n) rs[n].e)):=by show _=_; unfold iN; rw [Dn hnE,heE]
  have HN:Hid (ay rs[n].e=true):=Tw;have UJ:Hid (∀ k ∈ rs[n].e.kids,0≤k∧k.toNat < n):=hkl;have hn1:=bq n;have hn2:(n:Int) < (rs.length:Int):=by omega
  clear ih hr hok Tw hkl heE;by_cases k1:rs[n].e.kind=1
  ·skip
   obtain ⟨W,hW⟩:∃ W,W=w.alloc (.cells #[.int .i64 1,.slice rs[n].adA rs[n].e.allow.length rs[n].capA,.string rs[n].e.over,.string rs[n].e.name,.slice rs[n].adK rs[n].e.kids.length rs[n].capK] 39):=⟨_,rfl⟩;have hB0:af w W:=by rw [hW]; exact (Sz _ _).alloc (Sy _) _
   have hgl:w.heap.size < W.heap.size:=by rw [hW]; simp
   have g0:W.cell? ⟨w.heap.size,0,none⟩=some (.int .i64 1):=by rw [hW]; simp
   have g1:W.cell? ⟨w.heap.size,1,none⟩=some (.slice rs[n].adA rs[n].e.allow.length rs[n].capA):=by rw [hW]; simp
   have g2:W.cell? ⟨w.heap.size,2,none⟩=some (.string rs[n].e.over):=by rw [hW]; simp
   have g3:W.cell? ⟨w.heap.size,3,none⟩=some (.string rs[n].e.name):=by rw [hW]; simp
   have g4:W.cell? ⟨w.heap.size,4,none⟩=some (.slice rs[n].adK rs[n].e.kids.length rs[n].capK):=by rw [hW]; simp
   have HB0:=az hB0;clear hB0;have hal:dR rs[n].e.allow=true:=by
    have:=HN.out;unfold ay at this;rw [if_pos k1] at this;simp only [SB] at this;exact this.1.1.1
   have hts:=j5 hal;have TL:Hid (dR rs[n].e.allow=true):=hal;have HT1:Hid (iN (ak rs) n inside=ui rs[n].e.allow):=by show _=_; rw [HT.out]; simp [inT,lT,k1]
   have hl6:rs[n].e.allow.length≤6:=by unfold dR at hal; simp at hal; exact hal.1.2
   have HAS:Hid (∀ x ∈ rs[n].e.allow.map fE,x.size≤25):=fun x hx=>by
    obtain ⟨a,ha,rfl⟩:=SK.1 hx;obtain ⟨i,hi,rfl⟩:=Tv ha;unfold dR at hal;simp only [SB] at hal;exact pR (yt hal.2 i hi hi)
   clear hal HT;go_enter func238,ntmps238;go_wp2_with fail;rw [← hW];clear hW t0 t1 t2 t3 t4;go_loopw [8,9] (fun s i wr=>∃ k:Nat,k≤rs[n].e.allow.length∧i=.int .i64 k∧s=.string (fu ⟨#[44]⟩ ((rs[n].e.allow.map fE).take k))∧af W wr) (fun _ i _=>rs[n].e.allow.length - (intOf i).toNat);case atStart=>exact ⟨0,SC _,rfl,by rw [mI],Sz _ _⟩
   obtain ⟨k,hk,rfl,rfl,hB⟩:=hrel;have hBw:af w wr:=HB0.out.trans (hB.mono HB0.out.size);have a1:=kept hB hgl g1;have hsj:(fu ⟨#[44]⟩ ((rs[n].e.allow.map fE).take k)).size≤200:=by
    have h:=xe ⟨#[44]⟩ (rs[n].e.allow.map fE) 25 k HAS.out;have e1:(⟨#[44]⟩:ByteArray).size=1:=rfl;rw [e1] at h;omega
   by_cases hlt:k < rs[n].e.allow.length
   ·rcases (HO.out rs[n] (Sw hn)).1.below hBw with hnil | ⟨ba,VC,VD,VE,hra⟩
    ·rw [hnil] at hlt; simp at hlt
    rw [VD] at a1;obtain ⟨q0,q1⟩:=hra k hlt;have hab:EG rs[n].e.allow[k]=true:=by
     have:=TL.out;unfold dR at this;simp only [SB] at this;exact yt this.2 k hlt hlt
    have z2:=pR hab;unfold EG at hab;rw [SB] at hab;have z0:=bG hab.1;have z1:=yK hab.2;have hk1:=bq k;have hk2:(k:Int) < (rs[n].e.allow.length:Int):=by omega
    clear hra VD hab;by_cases hk0:0 < k
    ·have hk3:(0:Int) < (k:Int):=by omega
     have HJ:Hid (fu ⟨#[44]⟩ ((rs[n].e.allow.map fE).take (k + 1))=fu ⟨#[44]⟩ ((rs[n].e.allow.map fE).take k) ++ ⟨#[44]⟩ ++ fE rs[n].e.allow[k]):=by show _=_; rw [wZ _ _ _ (by simpa using hlt) hk0,List.getElem_map]
     go_wp2_with fail;refine (wY rs[n].e.allow[k] _ z0 z1).mono ?_;rintro e w1 ⟨rfl,hb1⟩;have hB1:af W w1:=hB.trans (hb1.mono hB.size);clear hb1;go_wp2;go_roundw;case rel=>exact ⟨k + 1,by omega,by go_num,by rw [HJ.out],hB1⟩
     simp [intOf] <;> omega
    skip
    have hk3:¬ (0:Int) < (k:Int):=by omega
    have HJ:Hid (fu ⟨#[44]⟩ ((rs[n].e.allow.map fE).take (k + 1))=fu ⟨#[44]⟩ ((rs[n].e.allow.map fE).take k) ++ fE rs[n].e.allow[k]):=by
     show _=_;obtain rfl:k=0:=by omega
     rw [mI,yU _ _ (by simpa using hlt),List.getElem_map]
    go_wp2_with fail;refine (wY rs[n].e.allow[k] _ z0 z1).mono ?_;rintro e w1 ⟨rfl,hb1⟩;have hB1:af W w1:=hB.trans (hb1.mono hB.size);clear hb1;go_wp2;go_roundw;case rel=>exact ⟨k + 1,by omega,by go_num,by rw [HJ.out],hB1⟩
    simp [intOf] <;> omega
   obtain rfl:k=rs[n].e.allow.length:=by omega
   have HE:Hid ((rs[n].e.allow.map fE).take rs[n].e.allow.length=rs[n].e.allow.map fE):=by show _=_; rw [List.take_of_length_le (by simp)]
   go_wp2;go_ret;exact ⟨by rw [HT1.out]; exact pX (by rw [HE.out]; rfl),hBw⟩
  by_cases k2:rs[n].e.kind=2
  ·have HT1:Hid (iN (ak rs) n inside=rs[n].e.name):=by show _=_; rw [HT.out]; simp [inT,lT,k2]
   clear HT;go_enter func238,ntmps238;go_wp2;go_ret;exact ⟨by rw [HT1.out]; rfl,(Sz _ _).alloc (Sy _) _⟩
  by_cases k3:rs[n].e.kind=3
  ·have HT1:Hid (iN (ak rs) n inside=rs[n].e.over ++ ⟨#[45,62]⟩ ++ rs[n].e.name):=by show _=_; rw [HT.out]; simp [inT,lT,k3]
   have hsz:rs[n].e.over.size≤12∧rs[n].e.name.size≤12:=by
    have:=HN.out;unfold ay at this;rw [if_neg k1,if_neg k2,if_pos k3] at this;simp only [SB] at this;exact ⟨bG this.1.1.1,bG this.1.1.2⟩
   obtain ⟨z0,z1⟩:=hsz;clear HT;go_enter func238,ntmps238;go_wp2;go_ret;exact ⟨by rw [HT1.out]; rfl,(Sz _ _).alloc (Sy _) _⟩
  skip
  obtain ⟨W,hW⟩:∃ W,W=w.alloc (.cells #[.int .i64 rs[n].e.kind,.slice rs[n].adA rs[n].e.allow.length rs[n].capA,.string rs[n].e.over,.string rs[n].e.name,.slice rs[n].adK rs[n].e.kids.length rs[n].capK] 39):=⟨_,rfl⟩;have hB0:af w W:=by rw [hW]; exact (Sz _ _).alloc (Sy _) _
  have hgl:w.heap.size < W.heap.size:=by rw [hW]; simp
  have g0:W.cell? ⟨w.heap.size,0,none⟩=some (.int .i64 rs[n].e.kind):=by rw [hW]; simp
  have g1:W.cell? ⟨w.heap.size,1,none⟩=some (.slice rs[n].adA rs[n].e.allow.length rs[n].capA):=by rw [hW]; simp
  have g2:W.cell? ⟨w.heap.size,2,none⟩=some (.string rs[n].e.over):=by rw [hW]; simp
  have g3:W.cell? ⟨w.heap.size,3,none⟩=some (.string rs[n].e.name):=by rw [hW]; simp
  have g4:W.cell? ⟨w.heap.size,4,none⟩=some (.slice rs[n].adK rs[n].e.kids.length rs[n].capK):=by rw [hW]; simp
  have HB0:=az hB0;clear hB0;have HT1:Hid (iN (ak rs) n inside=if inside then ⟨#[40]⟩ ++ fu (gG rs[n].e.kind) (rs[n].e.kids.map (jv (ak rs) n)) ++ ⟨#[41]⟩ else fu (gG rs[n].e.kind) (rs[n].e.kids.map (jv (ak rs) n))):=by
   show _=_; rw [HT.out]; simp [inT,lT,k1,k2,k3]
  have HTS:Hid (∀ x ∈ rs[n].e.kids.map (jv (ak rs) n),x.size≤20000000000000):=fun x hx=>by
   obtain ⟨k,hk,rfl⟩:=SK.1 hx;have hlt:=UJ.out k hk;unfold jv;rw [if_pos hlt.2,Dm];exact BL HES.out _ (by rw [bi]; omega) true
  have kb1:(rs[n].e.kind == 1)=false:=by simpa using k1
  have kb2:(rs[n].e.kind == 2)=false:=by simpa using k2
  have kb3:(rs[n].e.kind == 3)=false:=by simpa using k3
  clear HT hkind;go_enter func238,ntmps238;go_wp2_with fail;rw [← hW];clear hW t0 t1 t2 t3 t4;go_loopw [8,10] (fun s i wr=>∃ k:Nat,k≤rs[n].e.kids.length∧i=.int .i64 k∧s=.string (fu (gG rs[n].e.kind) ((rs[n].e.kids.map (jv (ak rs) n)).take k))∧af W wr) (fun _ i _=>rs[n].e.kids.length - (intOf i).toNat);case atStart=>exact ⟨0,SC _,rfl,by rw [mI],Sz _ _⟩
  obtain ⟨k,hk,rfl,rfl,hB⟩:=hrel;have hBw:af w wr:=HB0.out.trans (hB.mono HB0.out.size);have hbw:b < wr.heap.size:=Sv hb hBw.size;have a0:=kept hB hgl g0;have a4:=kept hB hgl g4;have hsg:=lQ rs[n].e.kind;have hsj:(fu (gG rs[n].e.kind) ((rs[n].e.kids.map (jv (ak rs) n)).take k)).size≤100000000000100:=by
   have h:=xe (gG rs[n].e.kind) (rs[n].e.kids.map (jv (ak rs) n)) 20000000000000 k HTS.out;rw [hsg] at h;omega
  by_cases hlt:k < rs[n].e.kids.length
  ·rcases (HO.out rs[n] (Sw hn)).2.below hBw with hnil | ⟨bk,offk,Ul,hbk,Yx⟩
   ·rw [hnil] at hlt; simp at hlt
   rw [Ul] at a4;have q0:=Yx k hlt;obtain ⟨hz0,hz1⟩:=UJ.out rs[n].e.kids[k] (Sw hlt);obtain ⟨m,hm⟩:∃ m:Nat,rs[n].e.kids[k]=(m:Int):=⟨rs[n].e.kids[k].toNat,by omega⟩;rw [hm] at q0 hz1;have hmn:m < n:=by simpa using hz1
   have hmr:m < rs.length:=by omega
   have HFm:Hid (jv (ak rs) n rs[n].e.kids[k]=iN (ak rs) m true):=by show _=_; rw [hm]; unfold jv; rw [if_pos (by simpa using hmn),Dm]; simp
   have hsm:=BL HES.out m (by rw [bi]; exact hmr) true;have hk1:=bq k;have hk2:(k:Int) < (rs[n].e.kids.length:Int):=by omega
   clear Yx Ul hz0 hz1 hm;by_cases hk0:0 < k
   ·have hk3:(0:Int) < (k:Int):=by omega
    have HJ:Hid (fu (gG rs[n].e.kind) ((rs[n].e.kids.map (jv (ak rs) n)).take (k + 1))=fu (gG rs[n].e.kind) ((rs[n].e.kids.map (jv (ak rs) n)).take k) ++ gG rs[n].e.kind ++ iN (ak rs) m true):=by show _=_; rw [wZ _ _ _ (by simpa using hlt) hk0,List.getElem_map,HFm.out]
    go_wp2_with fail;refine (jR _ _).mono ?_;rintro e w' ⟨rfl,rfl⟩;go_wp2_with fail;refine (IH.out m hmn true _ hmr hbw (fun i hi=>(HR.out i hi).later hb hBw) (fun r hr=>(HO.out r hr).below hBw)).mono ?_;rintro e w1 ⟨rfl,hb1⟩;have hB1:af W w1:=hB.trans (hb1.mono hB.size);clear hb1;go_wp2;go_roundw;case rel=>exact ⟨k + 1,by omega,by go_num,by rw [HJ.out],hB1⟩
    simp [intOf] <;> omega
   skip
   have hk3:¬ (0:Int) < (k:Int):=by omega
   have HJ:Hid (fu (gG rs[n].e.kind) ((rs[n].e.kids.map (jv (ak rs) n)).take (k + 1))=fu (gG rs[n].e.kind) ((rs[n].e.kids.map (jv (ak rs) n)).take k) ++ iN (ak rs) m true):=by
    have h0:=HFm.out;show _=_;obtain rfl:k=0:=by omega
    rw [mI,yU _ _ (by simpa using hlt),List.getElem_map,h0]
   go_wp2_with fail;refine (IH.out m hmn true _ hmr hbw (fun i hi=>(HR.out i hi).later hb hBw) (fun r hr=>(HO.out r hr).below hBw)).mono ?_;rintro e w1 ⟨rfl,hb1⟩;have hB1:af W w1:=hB.trans (hb1.mono hB.size);clear hb1;go_wp2;go_roundw;case rel=>exact ⟨k + 1,by omega,by go_num,by rw [HJ.out],hB1⟩
   simp [intOf] <;> omega
  obtain rfl:k=rs[n].e.kids.length:=by omega
  have HE:Hid ((rs[n].e.kids.map (jv (ak rs) n)).take rs[n].e.kids.length=rs[n].e.kids.map (jv (ak rs) n)):=by show _=_; rw [List.take_of_length_le (by simp)]
  cases inside;case true=>
   go_wp2;go_ret;exact ⟨by rw [HT1.out]; exact pX (by rw [HE.out]; rfl),hBw⟩
  go_wp2;go_ret;exact ⟨by rw [HT1.out]; exact pX (by rw [HE.out]; rfl),hBw⟩
def gW (es:List Ex):ByteArray:=if aN es then iN es (es.length - 1) false else ⟨#[]⟩
theorem BM {es:List Ex} (h:aN es=false):gW es=⟨#[]⟩:=by simp [gW,h]
theorem yV {es:List Ex} (h:aN es=true):gW es=iN es (es.length - 1) false:=by simp [gW,h]
theorem nG (ad:Option Addr) (cap:Nat) (rs:List ER) (w:ae) (hlen:rs.length≤1048576) (hl:∀ r ∈ rs,r.e.light) (hf:∀ r ∈ rs,r.e.fits) (hs:jk w ad rs) :
  Calls prog 220 #[.slice ad rs.length cap] w fun e w'=>e=.returned (.string (gW (ak rs)))∧af w w':=by
 have HS:=az hs;have HL:=az hl;have HF:=az hf;clear hs hl hf;go_enter func220,ntmps220;go_wp2_with fail;refine (lX ad cap rs _ hlen HL.out HF.out HS.out).mono ?_;rintro e w1 ⟨he,hb1⟩;have HB1:=az hb1;clear hb1;cases hE:aN (ak rs);case false=>
  rw [hE] at he;subst he;have HX:Hid (gW (ak rs)=⟨#[]⟩):=BM hE;go_wp2;go_ret;exact ⟨by rw [HX.out]; rfl,HB1.out⟩
 rw [hE] at he;subst he;have h1:1≤rs.length:=by
  have:=hE;unfold aN at this;simp only [SB,SN,bi] at this;exact this.1.1.1.1.1
 rcases HS.out.below HB1.out with rfl | ⟨b,off,rfl,hb,hr,hok⟩
 ·simp at h1
 have HR:Hid (∀ (i:Nat) (h:i < rs.length),xQ w1 b (off + i * 5) rs[i]):=hr;have HO:=az hok;have U6:Hid (Qs (ak rs)):=MC hE;have HX:Hid (gW (ak rs)=iN (ak rs) (rs.length - 1) false):=by show _=_; rw [yV hE,bi]
 have XO:Hid (((rs.length:Int) - 1)=((rs.length - 1:Nat):Int)):=by show _=_; omega
 clear hr hok;go_wp2_with fail;rw [XO.out];refine (GV b off cap rs U6.out HL.out (rs.length - 1) false _ (by omega) hb HR.out HO.out).mono ?_;rintro e w2 ⟨rfl,hb2⟩;have HB2:=jI HB1 hb2;clear hb2;go_wp2;go_ret;exact ⟨by rw [HX.out]; rfl,HB2.out⟩
end Go.Proofs.YtajkkeikihhejaaGreat
