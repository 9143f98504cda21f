/- Contracts of the law's helpers that mark lists of numbers and of allowed pairs, and that look whether the marks are held. -/
import Derived.Test.YtogjfppkbkgaeaaGreatJ21
import Derived.Deep.RegionHeld3
import Derived.Deep.DrawnRows
namespace Go.Proofs.YtogjfppkbkgaeaaGreat
open Go.ChangeShapes Go.WideShapes Go.ChangeAt Go.RowKit
open Pl
def Ih (k:Nat) (zs:List Int):List Int:=(List.range zs.length).map fun i=>((k + i:Nat):Int)
def F5 (k:Nat) (xs:List Al):List Al:=(List.range xs.length).map fun i=>⟨bz (k + 2 * i),bz (k + 2 * i + 1)⟩
theorem Bb (k:Nat) (zs:List Int):(Ih k zs).length=zs.length:=by simp [Ih]
theorem Bc (k:Nat) (xs:List Al):(F5 k xs).length=xs.length:=by simp [F5]
theorem MJ (k:Nat) (zs:List Int) (i:Nat) (h:i < (Ih k zs).length):(Ih k zs)[i]=((k + i:Nat):Int):=by simp [Ih]
theorem MK (k:Nat) (xs:List Al) (i:Nat) (h:i < (F5 k xs).length):(F5 k xs)[i]=⟨bz (k + 2 * i),bz (k + 2 * i + 1)⟩:=by simp [F5]
theorem LD {k:Nat} {zs:List Int}:Ih k zs=[] ↔ zs=[]:=by
 constructor
 ·intro h; have:=congrArg List.length h; rw [Bb] at this; exact List.length_eq_zero_iff.1 this
 ·rintro rfl; rfl
theorem F6 {k:Nat} {xs:List Al}:F5 k xs=[] ↔ xs=[]:=by
 constructor
 ·intro h; have:=congrArg List.length h; rw [Bc] at this; exact List.length_eq_zero_iff.1 this
 ·rintro rfl; rfl
set_option maxHeartbeats 1000000 in
theorem xE (ad:Option Addr) (cap:Nat) (zs:List Int) (k:Nat) (w:World) (hs:kV w ad zs) (hg:zs ≠ []→∃ g,ad=some ⟨g,0,none⟩∧cB w g) (h1:k + zs.length≤1000000000) :
  Calls Tryz.prog 115 #[.slice ad zs.length cap,.int .i64 (k:Int)] w fun e w'=>e=.returned (.int .i64 ((k + zs.length:Nat):Int))∧kV w' ad (Ih k zs)∧Chg (fun g=>zs ≠ []∧ad=some ⟨g,0,none⟩) w w':=by
 by_cases hz:zs=[]
 ·subst hz;go_enter Tryz.func115,Tryz.ntmps115;go_wp2;go_loopw [1,5] (fun kv i wr=>kv=.int .i64 (k:Int)∧i=.int .i64 0∧wr=w) (fun _ _ _=>0);case atStart=>exact ⟨rfl,rfl,rfl⟩
  case round =>
   obtain ⟨rfl,rfl,rfl⟩:=hrel;go_wp2;go_ret;exact ⟨rfl,.inl rfl,Chg.refl _ _⟩
 obtain ⟨g,rfl,hfree⟩:=hg hz;rcases hs with h | ⟨b,off,hbo,hb,hr⟩
 ·exact absurd h hz
 obtain ⟨rfl,rfl⟩:g=b∧0=off:=by injection hbo with e; injection e with e1 e2; exact ⟨e1,e2⟩
 have HZ:Hid (zs ≠ []):=hz;clear hz hbo hg;go_enter Tryz.func115,Tryz.ntmps115;go_wp2;go_loopw [1,5] (fun kv i wr=>∃ j:Nat,j≤zs.length∧kv=.int .i64 ((k + j:Nat):Int)∧i=.int .i64 (j:Int)∧Hid (∀ (x:Nat) (hx:x < zs.length),wr.cell? ⟨g,x,none⟩=some (.int .i64 (if x < j then ((k + x:Nat):Int) else zs[x])))∧Hid (cB wr g)∧Hid (Chg (fun y=>zs ≠ []∧(some ⟨g,0,none⟩:Option Addr)=some ⟨y,0,none⟩) w wr)) (fun _ i _=>zs.length - (intOf i).toNat);case atStart=>exact ⟨0,Nat.zero_le _,rfl,rfl,fun x hx=>by have:=hr x hx; simpa using this,hfree,Chg.refl _ _⟩
 case round =>
  obtain ⟨j,hj,rfl,rfl,HC,HFR,HCH⟩:=hrel;by_cases hlt:j < zs.length
  ·have c0:=HC.out j hlt;rw [if_neg (by omega)] at c0;have fz:=HFR.out;unfold cB at fz;have hj1:(0:Int)≤(j:Int):=by omega
   have hj2:(j:Int) < (zs.length:Int):=by omega
   have HC2:Hid (∀ (x:Nat) (hx:x < zs.length),(wr.setCell ⟨g,j,none⟩ (.int .i64 ((k:Int) + (j:Int)))).cell? ⟨g,x,none⟩=some (.int .i64 (if x < j + 1 then ((k + x:Nat):Int) else zs[x]))):=by
    intro x hx;by_cases e:x=j
    ·subst e;rw [jc c0,if_pos (by omega)]; simp
    ·rw [cO (Ne.symm e),HC.out x hx];by_cases h2:x < j
     ·rw [if_pos h2,if_pos (by omega)]
     ·rw [if_neg h2,if_neg (by omega)]
   have HCH2:Hid (Chg (fun y=>zs ≠ []∧(some ⟨g,0,none⟩:Option Addr)=some ⟨y,0,none⟩) w (wr.setCell ⟨g,j,none⟩ (.int .i64 ((k:Int) + (j:Int))))):=HCH.out.trans (Chg.set _ ⟨HZ.out,rfl⟩);have HF2:Hid (cB (wr.setCell ⟨g,j,none⟩ (.int .i64 ((k:Int) + (j:Int)))) g):=fun y=>by simpa using HFR.out y
   go_wp2;go_roundw;case rel=>exact ⟨j + 1,by omega,by go_num,by go_num,HC2,HF2,HCH2⟩
   case measure=>simp [intOf] <;> omega
  ·obtain rfl:j=zs.length:=by omega
   have HS3:Hid (kV wr (some ⟨g,0,none⟩) (Ih k zs)):=.inr ⟨g,0,rfl,Nat.lt_of_lt_of_le hb HCH.out.size,fun i hi=>by
    have h2:i < zs.length:=by rw [Bb] at hi; exact hi
    rw [Nat.zero_add,HC.out i h2,if_pos h2,MJ]⟩
   go_wp2;go_ret;exact ⟨by go_num,HS3.out,HCH.out⟩
set_option maxHeartbeats 2000000 in
theorem sF (ad:Option Addr) (cap:Nat) (xs:List Al) (k:Nat) (w:World) (hs:dm w ad xs) (hg:xs ≠ []→∃ g,ad=some ⟨g,0,none⟩∧cB w g) (h0:0 < k) (h1:k + 2 * xs.length≤1000000000) :
  Calls Tryz.prog 114 #[.slice ad xs.length cap,.int .i64 (k:Int)] w fun e w'=>e=.returned (.int .i64 ((k + 2 * xs.length:Nat):Int))∧dm w' ad (F5 k xs)∧Chg (fun g=>xs ≠ []∧ad=some ⟨g,0,none⟩) w w':=by
 by_cases hz:xs=[]
 ·subst hz;go_enter Tryz.func114,Tryz.ntmps114;go_wp2;go_loopw [1,5] (fun kv i wr=>kv=.int .i64 (k:Int)∧i=.int .i64 0∧wr=w) (fun _ _ _=>0);case atStart=>exact ⟨rfl,rfl,rfl⟩
  case round =>
   obtain ⟨rfl,rfl,rfl⟩:=hrel;go_wp2;go_ret;exact ⟨rfl,.inl rfl,Chg.refl _ _⟩
 obtain ⟨g,rfl,hfree⟩:=hg hz;rcases hs with h | ⟨b,off,hbo,hb,hr⟩
 ·exact absurd h hz
 obtain ⟨rfl,rfl⟩:g=b∧0=off:=by injection hbo with e; injection e with e1 e2; exact ⟨e1,e2⟩
 have HZ:Hid (xs ≠ []):=hz;clear hz hbo hg;go_enter Tryz.func114,Tryz.ntmps114;go_wp2;go_loopw [1,5] (fun kv i wr=>∃ j:Nat,j≤xs.length∧kv=.int .i64 ((k + 2 * j:Nat):Int)∧i=.int .i64 (j:Int)∧Hid (∀ (x:Nat) (hx:x < xs.length),Iw wr g (x * 2) (if x < j then ⟨bz (k + 2 * x),bz (k + 2 * x + 1)⟩ else xs[x]))∧Hid (cB wr g)∧Hid (Chg (fun y=>xs ≠ []∧(some ⟨g,0,none⟩:Option Addr)=some ⟨y,0,none⟩) w wr)) (fun _ i _=>xs.length - (intOf i).toNat);case atStart=>exact ⟨0,Nat.zero_le _,rfl,rfl,fun x hx=>by have:=hr x hx; simpa using this,hfree,Chg.refl _ _⟩
 case round =>
  obtain ⟨j,hj,rfl,rfl,HC,HFR,HCH⟩:=hrel;by_cases hlt:j < xs.length
  ·obtain ⟨c0,c1⟩:=HC.out j hlt;rw [if_neg (by omega)] at c0 c1;have hgl:g < wr.heap.size:=Nat.lt_of_lt_of_le hb HCH.out.size;have hj1:(0:Int)≤(j:Int):=by omega
   have hj2:(j:Int) < (xs.length:Int):=by omega
   go_wp2_with fail;refine (aQ _ (k + 2 * j) _ (by omega) (by omega) (by omega)).mono ?_;rintro e w1 ⟨rfl,hb1⟩;have HB1:Hid (Below wr.heap.size wr w1):=hb1;replace c0:=kept hb1 hgl c0;replace c1:=kept hb1 hgl c1;have fz:∀ y,w1.frozen? ⟨g,y,none⟩=false:=fun y=>gW hb1 hgl (HFR.out y);clear hb1;obtain ⟨w2,hw2⟩:∃ w2,w2=w1.setCell ⟨g,j * 2,none⟩ (.string (bz (k + 2 * j))):=⟨_,rfl⟩;go_wp2_with fail;rw [← hw2];refine (aQ _ (k + 2 * j + 1) _ (by omega) (by omega) (by omega)).mono ?_;rintro e w3 ⟨rfl,hb3⟩;have hgl2:g < w2.heap.size:=by rw [hw2]; simp only [World.size_setCell]; exact Nat.lt_of_lt_of_le hgl HB1.out.size
   have d0:w3.cell? ⟨g,j * 2,none⟩=some (.string (bz (k + 2 * j))):=kept hb3 hgl2 (by rw [hw2]; exact jc c0);have d1:w3.cell? ⟨g,j * 2 + 1,none⟩=some (.string xs[j].s):=kept hb3 hgl2 (by rw [hw2,cO (by omega)]; exact c1);have fz3:∀ y,w3.frozen? ⟨g,y,none⟩=false:=fun y=>gW hb3 hgl2 (by rw [hw2]; simpa using fz y);have HC3:Hid (∀ (x:Nat) (hx:x < xs.length),Iw (w3.setCell ⟨g,j * 2 + 1,none⟩ (.string (bz (k + 2 * j + 1)))) g (x * 2) (if x < j + 1 then ⟨bz (k + 2 * x),bz (k + 2 * x + 1)⟩ else xs[x])):=by
    intro x hx;by_cases e:x=j
    ·subst e;rw [if_pos (by omega)];exact ⟨by rw [cO (by omega)]; exact d0,jc d1⟩
    ·have hx2:=HC.out x hx;have he:∀ y,y ≠ j * 2→y ≠ j * 2 + 1→(w3.setCell ⟨g,j * 2 + 1,none⟩ (.string (bz (k + 2 * j + 1)))).cell? ⟨g,y,none⟩=wr.cell? ⟨g,y,none⟩:=by
      intro y h1 h2;rw [cO (Ne.symm h2),hb3.cell (p:=⟨g,y,none⟩) hgl2,hw2,cO (Ne.symm h1),HB1.out.cell (p:=⟨g,y,none⟩) hgl]
     have e2:(if x < j + 1 then (⟨bz (k + 2 * x),bz (k + 2 * x + 1)⟩:Al) else xs[x])=(if x < j then ⟨bz (k + 2 * x),bz (k + 2 * x + 1)⟩ else xs[x]):=by
      by_cases h2:x < j
      ·rw [if_pos h2,if_pos (by omega)]
      ·rw [if_neg h2,if_neg (by omega)]
     rw [e2];exact ⟨by rw [he _ (by omega) (by omega)]; exact hx2.1,by rw [he _ (by omega) (by omega)]; exact hx2.2⟩
   have HCH3:Hid (Chg (fun y=>xs ≠ []∧(some ⟨g,0,none⟩:Option Addr)=some ⟨y,0,none⟩) w (w3.setCell ⟨g,j * 2 + 1,none⟩ (.string (bz (k + 2 * j + 1))))):=by
    refine (HCH.out.trans ((Chg.of HB1.out).trans ?_)).trans ((Chg.of hb3).trans (Chg.set _ ⟨HZ.out,rfl⟩));rw [hw2];exact Chg.set _ ⟨HZ.out,rfl⟩
   have HF3:Hid (cB (w3.setCell ⟨g,j * 2 + 1,none⟩ (.string (bz (k + 2 * j + 1)))) g):=fun y=>by simpa using fz3 y
   clear hb3 hw2 c0 c1 fz;go_wp2;go_roundw;case rel=>exact ⟨j + 1,by omega,by go_num,by go_num,HC3,HF3,HCH3⟩
   case measure=>simp [intOf] <;> omega
  ·obtain rfl:j=xs.length:=by omega
   have HS3:Hid (dm wr (some ⟨g,0,none⟩) (F5 k xs)):=.inr ⟨g,0,rfl,Nat.lt_of_lt_of_le hb HCH.out.size,fun i hi=>by
    have h2:i < xs.length:=by rw [Bc] at hi; exact hi
    have:=HC.out i h2;rw [if_pos h2] at this;rw [Nat.zero_add,MK]; exact this⟩
   go_wp2;go_ret;exact ⟨by go_num,HS3.out,HCH.out⟩
def wX (e:Ex):Nat:=3 + 2 * e.allow.length + e.kids.length
def NA (k:Nat) (e:Ex):Ex:=⟨(k:Int),F5 (k + 1) e.allow,bz (k + 1 + 2 * e.allow.length),bz (k + 2 + 2 * e.allow.length),Ih (k + 3 + 2 * e.allow.length) e.kids⟩
def ER.mkd (k:Nat) (r:ER):ER:={ r with e:=NA k r.e }
def wE:List ER→Nat
 | []=>0
 | r::rs=>wX r.e + wE rs
theorem sG:∀ xs ys:List ER,wE (xs ++ ys)=wE xs + wE ys
 | [],ys=>by simp [wE]
 | x::xs,ys=>by rw [List.cons_append]; simp only [wE]; rw [sG xs ys]; omega
theorem F8 (rs:List ER) (j:Nat) (h:j < rs.length):wE (rs.take (j + 1))=wE (rs.take j) + wX rs[j].e:=by
 rw [List.take_succ_eq_append_getElem h,sG]; simp [wE]
theorem Ng (rs:List ER) (j:Nat):wE (rs.take j)≤wE rs:=by
 have:=sG (rs.take j) (rs.drop j);rw [List.take_append_drop] at this;omega
def bA (r:ER) (g:Nat):Prop:=r.e.allow ≠ []∧r.adA=some ⟨g,0,none⟩
def bK (r:ER) (g:Nat):Prop:=r.e.kids ≠ []∧r.adK=some ⟨g,0,none⟩
def Br (r:ER) (g:Nat):Prop:=bA r g ∨ bK r g
structure SepE (b:Nat) (rs:List ER):Prop where
 zeroA:∀ r ∈ rs,r.e.allow ≠ []→∃ g,r.adA=some ⟨g,0,none⟩
 zeroK:∀ r ∈ rs,r.e.kids ≠ []→∃ g,r.adK=some ⟨g,0,none⟩
 head:∀ r ∈ rs,¬ Br r b
 one:∀ r ∈ rs,∀ g,bA r g→¬ bK r g
 two:∀ (x y:Nat) (hx:x < rs.length) (hy:y < rs.length),x ≠ y→∀ g,Br rs[x] g→¬ Br rs[y] g
def zI (w:World) (b:Nat) (rs:List ER):Prop:=(b < w.heap.size∧cB w b)∧∀ r ∈ rs,∀ g,Br r g→g < w.heap.size∧cB w g
theorem zI.chg {S:Nat→Prop} {w w':World} {b:Nat} {rs:List ER} (h:zI w b rs) (hc:Chg S w w'):zI w' b rs :=
 ⟨⟨Nat.lt_of_lt_of_le h.1.1 hc.size,hc.free b h.1.1 h.1.2⟩,fun r hr g hg=>⟨Nat.lt_of_lt_of_le (h.2 r hr g hg).1 hc.size,hc.free g (h.2 r hr g hg).1 (h.2 r hr g hg).2⟩⟩
def Nz (b:Nat) (rs:List ER) (g:Nat):Prop:=g=b ∨ ∃ r ∈ rs,Br r g
theorem ER.ok.chg {S:Nat→Prop} {w w':World} {r:ER} (h:r.ok w) (hc:Chg S w w') (hA:∀ g o,r.e.allow ≠ []→r.adA=some ⟨g,o,none⟩→¬ S g) (hK:∀ g o,r.e.kids ≠ []→r.adK=some ⟨g,o,none⟩→¬ S g):r.ok w' :=
 ⟨h.1.chg hc hA,h.2.chg hc hK⟩
theorem uu (x:Int) (ad:Option Addr) (cap:Nat) (xs:List Al) (k:Nat) (w:World) (hx:x=(k:Int)) (hs:dm w ad xs) (hg:xs ≠ []→∃ g,ad=some ⟨g,0,none⟩∧cB w g) (h0:0 < k) (h1:k + 2 * xs.length≤1000000000) :
  Calls Tryz.prog 114 #[.slice ad xs.length cap,.int .i64 x] w fun e w'=>e=.returned (.int .i64 ((k + 2 * xs.length:Nat):Int))∧dm w' ad (F5 k xs)∧Chg (fun g=>xs ≠ []∧ad=some ⟨g,0,none⟩) w w':=by
 rw [hx]; exact sF ad cap xs k w hs hg h0 h1
theorem yj (x:Int) (ad:Option Addr) (cap:Nat) (zs:List Int) (k:Nat) (w:World) (hx:x=(k:Int)) (hs:kV w ad zs) (hg:zs ≠ []→∃ g,ad=some ⟨g,0,none⟩∧cB w g) (h1:k + zs.length≤1000000000) :
  Calls Tryz.prog 115 #[.slice ad zs.length cap,.int .i64 x] w fun e w'=>e=.returned (.int .i64 ((k + zs.length:Nat):Int))∧kV w' ad (Ih k zs)∧Chg (fun g=>zs ≠ []∧ad=some ⟨g,0,none⟩) w w':=by
 rw [hx]; exact xE ad cap zs k w hs hg h1
def mf (k:Nat) (rs:List ER) (j x:Nat) (hx:x < rs.length):ER:=if x < j then rs[x].mkd (k + wE (rs.take x)) else rs[x]
theorem LF (k:Nat) (rs:List ER) (j x:Nat) (hx:x < rs.length):(mf k rs j x hx).adA=rs[x].adA∧(mf k rs j x hx).adK=rs[x].adK∧((mf k rs j x hx).e.allow ≠ []→rs[x].e.allow ≠ [])∧((mf k rs j x hx).e.kids ≠ []→rs[x].e.kids ≠ []):=by
 unfold mf;split
 ·refine ⟨rfl,rfl,fun h e=>h ?_,fun h e=>h ?_⟩
  ·show F5 _ _=[];rw [F6]; exact e
  ·show Ih _ _=[];rw [LD]; exact e
 ·exact ⟨rfl,rfl,id,id⟩
set_option maxRecDepth 8000 in
set_option maxHeartbeats 4000000 in
theorem ym (b cap:Nat) (rs:List ER) (k:Nat) (w:World) (hb:b < w.heap.size) (hr:∀ (x:Nat) (hx:x < rs.length),qU w b (x * 5) rs[x]∧rs[x].ok w) (hsep:SepE b rs) (hfree:zI w b rs) (hl:∀ r ∈ rs,r.e.light) (hlen:rs.length≤1048576) (h0:0 < k) (h1:k + wE rs≤1000000000) :
  Calls Tryz.prog 74 #[.slice (some ⟨b,0,none⟩) rs.length cap,.int .i64 (k:Int)] w fun e w'=>e=.returned (.int .i64 ((k + wE rs:Nat):Int))∧(∀ (x:Nat) (hx:x < rs.length),qU w' b (x * 5) (rs[x].mkd (k + wE (rs.take x)))∧(rs[x].mkd (k + wE (rs.take x))).ok w')∧Chg (Nz b rs) w w':=by
 have HSEP:Hid (SepE b rs):=hsep;have HFE:Hid (zI w b rs):=hfree;have HL:Hid (∀ r ∈ rs,r.e.light):=hl;clear hsep hfree hl;go_enter Tryz.func74,Tryz.ntmps74;go_wp2;go_loopw [1,5] (fun kv i wr=>∃ j K:Nat,j≤rs.length∧Hid (K=k + wE (rs.take j))∧kv=.int .i64 (K:Int)∧i=.int .i64 (j:Int)∧Hid (∀ (x:Nat) (hx:x < rs.length),qU wr b (x * 5) (mf k rs j x hx)∧(mf k rs j x hx).ok wr)∧Hid (Chg (Nz b rs) w wr)) (fun _ i _=>rs.length - (intOf i).toNat);case atStart=>exact ⟨0,k,Nat.zero_le _,by show _=_; simp [wE],rfl,rfl,fun x hx=>by simpa [mf] using hr x hx,Chg.refl _ _⟩
 case round =>
  clear hr;obtain ⟨j,K,hj,HK,rfl,rfl,HC,HCH⟩:=hrel;by_cases hlt:j < rs.length
  ·obtain ⟨⟨c0,c1,c2,c3,c4⟩,hok⟩:=HC.out j hlt;have hcur:mf k rs j j hlt=rs[j]:=by unfold mf; rw [if_neg (by omega)]
   rw [hcur] at c0 c1 c2 c3 c4 hok;have HOK:Hid (rs[j].ok wr):=hok;have hlg:=HL.out rs[j] (List.getElem_mem hlt);have lA:rs[j].e.allow.length≤1048576:=hlg.1;have lK:rs[j].e.kids.length≤1048576:=hlg.2;have hKb:0 < K∧K + wX rs[j].e≤1000000000:=by
    have h2:=Ng rs (j + 1);rw [F8 _ _ hlt] at h2;have:=HK.out;omega
   have hK0:=hKb.1;have hK1:=hKb.2;unfold wX at hK1;have hgl:b < wr.heap.size:=Nat.lt_of_lt_of_le hb HCH.out.size;have HFW:Hid (zI wr b rs):=HFE.out.chg HCH.out;have hfb:cB wr b:=HFW.out.1.2;have fz:=hfb;unfold cB at fz;have hj1:(0:Int)≤(j:Int):=by omega
   have hj2:(j:Int) < (rs.length:Int):=by omega
   have hnb:¬ Br rs[j] b:=HSEP.out.head _ (List.getElem_mem hlt);have HNB:Hid (¬ Br rs[j] b):=hnb;have HZA:Hid (rs[j].e.allow ≠ []→∃ g,rs[j].adA=some ⟨g,0,none⟩):=HSEP.out.zeroA _ (List.getElem_mem hlt);have HZK:Hid (rs[j].e.kids ≠ []→∃ g,rs[j].adK=some ⟨g,0,none⟩):=HSEP.out.zeroK _ (List.getElem_mem hlt);clear hKb hlg hok hnb hcur;obtain ⟨W1,hW1⟩:∃ W1,W1=wr.setCell ⟨b,j * 5,none⟩ (.int .i64 (K:Int)):=⟨_,rfl⟩;have HD1:Hid (Chg (fun g=>g=b) wr W1):=by rw [hW1]; exact Chg.set _ rfl
   have HC1:Hid (Chg (fun g=>g=b ∨ Br rs[j] g) wr W1):=HD1.out.mono fun g hg=>.inl hg;have hgl1:b < W1.heap.size:=Nat.lt_of_lt_of_le hgl HC1.out.size;have a0:W1.cell? ⟨b,j * 5,none⟩=some (.int .i64 (K:Int)):=by rw [hW1]; exact jc c0
   have HO1:Hid (∀ o,o ≠ j * 5→W1.cell? ⟨b,o,none⟩=wr.cell? ⟨b,o,none⟩):=fun o ho=>by rw [hW1]; exact cO (Ne.symm ho)
   have a1:W1.cell? ⟨b,j * 5 + 1,none⟩=some (.slice rs[j].adA rs[j].e.allow.length rs[j].capA):=by rw [HO1.out _ (by omega)]; exact c1
   have HB1:Hid (∀ g,Br rs[j] g→g ≠ b):=fun g hg e=>HNB.out (by rw [← e]; exact hg);have HSA1:Hid (dm W1 rs[j].adA rs[j].e.allow):=by
    rw [hW1];refine dm.chg HOK.out.1 (Chg.set (S:=fun g=>g=b) (g:=b) (j:=j * 5) _ rfl) fun g o hne e=>?_;obtain ⟨g0,e0⟩:=HZA.out hne;rw [e0] at e; injection e with e; injection e with e1 e2;subst e1;exact HB1.out _ (.inl ⟨hne,e0⟩)
   have HFA1:Hid (rs[j].e.allow ≠ []→∃ g,rs[j].adA=some ⟨g,0,none⟩∧cB W1 g):=fun hne=>by
    obtain ⟨g0,e0⟩:=HZA.out hne;exact ⟨g0,e0,((HFW.out.chg HC1.out).2 _ (List.getElem_mem hlt) g0 (.inl ⟨hne,e0⟩)).2⟩
   go_wp2_with fail;rw [← hW1];clear hW1 c0 c1;refine (uu _ _ _ rs[j].e.allow (K + 1) _ (by omega) HSA1.out HFA1.out (by omega) (by omega)).mono ?_;rintro e w2 ⟨rfl,hsa2,hc2⟩;have HSA2:Hid (dm w2 rs[j].adA (F5 (K + 1) rs[j].e.allow)):=hsa2;have HX2:Hid (Chg (bA rs[j]) W1 w2):=hc2;have HC2:Hid (Chg (fun g=>g=b ∨ Br rs[j] g) wr w2):=HC1.out.trans (hc2.mono fun g hg=>.inr (.inl hg));have HO2:Hid (∀ o,w2.cell? ⟨b,o,none⟩=W1.cell? ⟨b,o,none⟩):=fun o=>hc2.cell hgl1 fun h=>HNB.out (.inl h);have hgl2:b < w2.heap.size:=Nat.lt_of_lt_of_le hgl HC2.out.size;clear hsa2 hc2;go_wp2_with fail;refine (aQ _ (K + 1 + 2 * rs[j].e.allow.length) _ (by omega) (by omega) (by omega)).mono ?_;rintro e w3 ⟨rfl,hb3⟩;have HB3:Hid (Below w2.heap.size w2 w3):=hb3;have HO3:Hid (∀ o,w3.cell? ⟨b,o,none⟩=W1.cell? ⟨b,o,none⟩):=fun o=>(hb3.cell (p:=⟨b,o,none⟩) hgl2).trans (HO2.out o);have e2:w3.cell? ⟨b,j * 5 + 2,none⟩=some (.string rs[j].e.over):=by rw [HO3.out,HO1.out _ (by omega)]; exact c2
   have fz3:∀ y,w3.frozen? ⟨b,y,none⟩=false:=fun y=>gW hb3 hgl2 ((HFW.out.chg HC2.out).1.2 y);obtain ⟨W4,hW4⟩:∃ W4,W4=w3.setCell ⟨b,j * 5 + 2,none⟩ (.string (bz (K + 1 + 2 * rs[j].e.allow.length))):=⟨_,rfl⟩;have HC4:Hid (Chg (fun g=>g=b) w2 W4):=(Chg.of HB3.out).trans (by rw [hW4]; exact Chg.set _ rfl);have d2:W4.cell? ⟨b,j * 5 + 2,none⟩=some (.string (bz (K + 1 + 2 * rs[j].e.allow.length))):=by rw [hW4]; exact jc e2
   have HO4:Hid (∀ o,o ≠ j * 5 + 2→W4.cell? ⟨b,o,none⟩=W1.cell? ⟨b,o,none⟩):=fun o ho=>by rw [hW4,cO (Ne.symm ho)]; exact HO3.out o
   have hgl4:b < W4.heap.size:=Nat.lt_of_lt_of_le hgl2 HC4.out.size;clear hb3;go_wp2_with fail;rw [← hW4];clear hW4 e2 fz3 c2;refine (aQ _ (K + 2 + 2 * rs[j].e.allow.length) _ (by omega) (by omega) (by omega)).mono ?_;rintro e w5 ⟨rfl,hb5⟩;have HB5:Hid (Below W4.heap.size W4 w5):=hb5;have HO5:Hid (∀ o,w5.cell? ⟨b,o,none⟩=W4.cell? ⟨b,o,none⟩):=fun o=>hb5.cell (p:=⟨b,o,none⟩) hgl4;have e3:w5.cell? ⟨b,j * 5 + 3,none⟩=some (.string rs[j].e.name):=by rw [HO5.out,HO4.out _ (by omega),HO1.out _ (by omega)]; exact c3
   have e4:w5.cell? ⟨b,j * 5 + 4,none⟩=some (.slice rs[j].adK rs[j].e.kids.length rs[j].capK):=by rw [HO5.out,HO4.out _ (by omega),HO1.out _ (by omega)]; exact c4
   have fz5:∀ y,w5.frozen? ⟨b,y,none⟩=false:=fun y=>gW hb5 hgl4 (((HFW.out.chg HC2.out).chg HC4.out).1.2 y);obtain ⟨W6,hW6⟩:∃ W6,W6=w5.setCell ⟨b,j * 5 + 3,none⟩ (.string (bz (K + 2 + 2 * rs[j].e.allow.length))):=⟨_,rfl⟩;have HC6:Hid (Chg (fun g=>g=b) w2 W6):=HC4.out.trans ((Chg.of HB5.out).trans (by rw [hW6]; exact Chg.set _ rfl));have d3:W6.cell? ⟨b,j * 5 + 3,none⟩=some (.string (bz (K + 2 + 2 * rs[j].e.allow.length))):=by rw [hW6]; exact jc e3
   have d2':W6.cell? ⟨b,j * 5 + 2,none⟩=some (.string (bz (K + 1 + 2 * rs[j].e.allow.length))):=by rw [hW6,cO (by omega),HO5.out]; exact d2
   have HO6:Hid (∀ o,o ≠ j * 5 + 2→o ≠ j * 5 + 3→W6.cell? ⟨b,o,none⟩=W1.cell? ⟨b,o,none⟩):=fun o h2 h3=>by rw [hW6,cO (Ne.symm h3),HO5.out]; exact HO4.out o h2
   have hgl6:b < W6.heap.size:=Nat.lt_of_lt_of_le hgl2 HC6.out.size;have d4:W6.cell? ⟨b,j * 5 + 4,none⟩=some (.slice rs[j].adK rs[j].e.kids.length rs[j].capK):=by rw [HO6.out _ (by omega) (by omega),HO1.out _ (by omega)]; exact c4
   have HC26:Hid (Chg (fun g=>g=b ∨ Br rs[j] g) wr W6):=HC2.out.trans (HC6.out.mono fun g hg=>.inl hg);have HONE:Hid (∀ g,bA rs[j] g→¬ bK rs[j] g):=HSEP.out.one _ (List.getElem_mem hlt);have HSK6:Hid (kV W6 rs[j].adK rs[j].e.kids):=by
    refine kV.chg (S:=fun g=>g=b ∨ bA rs[j] g) HOK.out.2 ((HD1.out.mono fun g hg=>.inl hg).trans ((HX2.out.mono fun g hg=>.inr hg).trans (HC6.out.mono fun g hg=>.inl hg))) fun g o hne e=>?_;obtain ⟨g0,e0⟩:=HZK.out hne;rw [e0] at e; injection e with e; injection e with e1 e2;subst e1;rintro (h | h)
    ·exact HB1.out _ (.inr ⟨hne,e0⟩) h
    ·exact HONE.out _ h ⟨hne,e0⟩
   have HFK6:Hid (rs[j].e.kids ≠ []→∃ g,rs[j].adK=some ⟨g,0,none⟩∧cB W6 g):=fun hne=>by
    obtain ⟨g0,e0⟩:=HZK.out hne;exact ⟨g0,e0,((HFW.out.chg HC26.out).2 _ (List.getElem_mem hlt) g0 (.inr ⟨hne,e0⟩)).2⟩
   go_wp2_with fail;rw [← hW6];clear hW6 e3 e4 fz5 c3 c4;refine (yj _ _ _ rs[j].e.kids (K + 3 + 2 * rs[j].e.allow.length) _ (by omega) HSK6.out HFK6.out (by omega)).mono ?_;rintro e w7 ⟨rfl,hsk7,hc7⟩;have hx7:Chg (bK rs[j]) W6 w7:=hc7;have HC7:Hid (Chg (fun g=>g=b ∨ Br rs[j] g) wr w7):=HC26.out.trans (hx7.mono fun g hg=>.inr (.inr hg));have HO7:Hid (∀ o,w7.cell? ⟨b,o,none⟩=W6.cell? ⟨b,o,none⟩):=fun o=>hc7.cell hgl6 fun h=>HNB.out (.inr h);have HSA7:Hid (dm w7 rs[j].adA (F5 (K + 1) rs[j].e.allow)):=by
    refine dm.chg (S:=fun g=>g=b ∨ bK rs[j] g) HSA2.out ((HC6.out.mono fun g hg=>.inl hg).trans (hx7.mono fun g hg=>.inr hg)) fun g o hne e=>?_;rw [ne_eq,F6] at hne;obtain ⟨g0,e0⟩:=HZA.out hne;rw [e0] at e; injection e with e; injection e with e1 e2;subst e1;rintro (h | h)
    ·exact HB1.out _ (.inl ⟨hne,e0⟩) h
    ·exact HONE.out _ ⟨hne,e0⟩ h
   have HSK7:Hid (kV w7 rs[j].adK (Ih (K + 3 + 2 * rs[j].e.allow.length) rs[j].e.kids)):=hsk7;have HCN:Hid (∀ (x:Nat) (hx:x < rs.length),qU w7 b (x * 5) (mf k rs (j + 1) x hx)∧(mf k rs (j + 1) x hx).ok w7):=by
    intro x hx;by_cases e:x=j
    ·subst e;have hcur:mf k rs (x + 1) x hx=rs[x].mkd K:=by unfold mf; rw [if_pos (by omega),HK.out]
     rw [hcur];refine ⟨⟨?_,?_,?_,?_,?_⟩,HSA7.out,HSK7.out⟩
     ·rw [HO7.out,HO6.out _ (by omega) (by omega)]; exact a0
     ·rw [HO7.out,HO6.out _ (by omega) (by omega),a1];show _=some (Value.slice rs[x].adA (F5 _ _).length rs[x].capA);rw [Bc]
     ·rw [HO7.out]; exact d2'
     ·rw [HO7.out]; exact d3
     ·rw [HO7.out,d4];show _=some (Value.slice rs[x].adK (Ih _ _).length rs[x].capK);rw [Bb]
    ·have hcur:mf k rs (j + 1) x hx=mf k rs j x hx:=by
      unfold mf;by_cases h2:x < j
      ·rw [if_pos h2,if_pos (by omega)]
      ·rw [if_neg h2,if_neg (by omega)]
     rw [hcur];obtain ⟨⟨p0,p1,p2,p3,p4⟩,hok⟩:=HC.out x hx;have hall:∀ o,o ≠ j * 5→o ≠ j * 5 + 2→o ≠ j * 5 + 3→w7.cell? ⟨b,o,none⟩=wr.cell? ⟨b,o,none⟩:=fun o h0 h2 h3=>by rw [HO7.out,HO6.out _ h2 h3,HO1.out _ h0]
     obtain ⟨q1,q2,q3,q4⟩:=LF k rs j x hx;refine ⟨⟨?_,?_,?_,?_,?_⟩,hok.chg HC7.out ?_ ?_⟩
     ·rw [hall _ (by omega) (by omega) (by omega)]; exact p0
     ·rw [hall _ (by omega) (by omega) (by omega)]; exact p1
     ·rw [hall _ (by omega) (by omega) (by omega)]; exact p2
     ·rw [hall _ (by omega) (by omega) (by omega)]; exact p3
     ·rw [hall _ (by omega) (by omega) (by omega)]; exact p4
     ·intro g o hne e2;obtain ⟨g0,e0⟩:=HSEP.out.zeroA _ (List.getElem_mem hx) (q3 hne);rw [q1,e0] at e2; injection e2 with e2; injection e2 with e3 e4;subst e3;have hin:Br rs[x] g0:=.inl ⟨q3 hne,e0⟩;rintro (h | h)
      ·subst h; exact HSEP.out.head _ (List.getElem_mem hx) hin
      ·exact HSEP.out.two x j hx hlt e g0 hin h
     ·intro g o hne e2;obtain ⟨g0,e0⟩:=HSEP.out.zeroK _ (List.getElem_mem hx) (q4 hne);rw [q2,e0] at e2; injection e2 with e2; injection e2 with e3 e4;subst e3;have hin:Br rs[x] g0:=.inr ⟨q4 hne,e0⟩;rintro (h | h)
      ·subst h; exact HSEP.out.head _ (List.getElem_mem hx) hin
      ·exact HSEP.out.two x j hx hlt e g0 hin h
   have HCHN:Hid (Chg (Nz b rs) w w7):=HCH.out.trans (HC7.out.mono fun g hg=>hg.elim .inl fun h=>.inr ⟨rs[j],List.getElem_mem hlt,h⟩);have HKN:Hid (K + 3 + 2 * rs[j].e.allow.length + rs[j].e.kids.length=k + wE (rs.take (j + 1))):=by
    show _=_;rw [F8 _ _ hlt,HK.out]; unfold wX; omega
   clear hsk7 hc7 hx7 a0 a1 d2 d2' d3 d4;go_wp2;go_roundw;case rel=>exact ⟨j + 1,K + 3 + 2 * rs[j].e.allow.length + rs[j].e.kids.length,by omega,HKN,by go_num,by go_num,HCN,HCHN⟩
   case measure=>simp [intOf] <;> omega
  ·obtain rfl:j=rs.length:=by omega
   have HKE:Hid (K=k + wE rs):=by have:=HK.out; rw [List.take_length] at this; exact this
   have HEND:Hid (∀ (x:Nat) (hx:x < rs.length),qU wr b (x * 5) (rs[x].mkd (k + wE (rs.take x)))∧(rs[x].mkd (k + wE (rs.take x))).ok wr):=fun x hx=>by
    have:=HC.out x hx;unfold mf at this;rw [if_pos hx] at this;exact this
   go_wp2;go_ret;exact ⟨by rw [← HKE.out]; rfl,HEND.out,HCH.out⟩
end Go.Proofs.YtogjfppkbkgaeaaGreat
