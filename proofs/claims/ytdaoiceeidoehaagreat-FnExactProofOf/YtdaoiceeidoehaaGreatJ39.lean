/- What a change of some blocks leaves of lists of pairs and of numbers. -/
import Derived.Test.YtdaoiceeidoehaaGreatJ10
open Go.Proofs.Tryz
set_option maxHeartbeats 80000000
namespace Go.Proofs.YtdaoiceeidoehaaGreat
open Go.ChangeShapes Go.WideShapes Go.ChangeAt Go.RowKit
open Pl
theorem iy.chg {S:Nat→Prop} {w w':World} {ad:Option Addr} {xs:List Al} (h:iy w ad xs) (hc:Chg S w w') (hn:∀ g o,xs ≠ []→ad=some ⟨g,o,none⟩→¬ S g):iy w' ad xs:=by
 rcases h with h | ⟨b,off,e,hb,hr⟩
 ·exact .inl h
 ·by_cases hx:xs=[]
  ·exact .inl hx
  ·exact .inr ⟨b,off,e,RZ hb hc.size,fun i hi=>(hr i hi).same fun o=>hc.cell hb (hn b off hx e)⟩
theorem lF.chg {S:Nat→Prop} {w w':World} {ad:Option Addr} {zs:List Int} (h:lF w ad zs) (hc:Chg S w w') (hn:∀ g o,zs ≠ []→ad=some ⟨g,o,none⟩→¬ S g):lF w' ad zs:=by
 rcases h with h | ⟨b,off,e,hb,hr⟩
 ·exact .inl h
 ·by_cases hx:zs=[]
  ·exact .inl hx
  ·exact .inr ⟨b,off,e,RZ hb hc.size,fun i hi=>by rw [hc.cell hb (hn b off hx e)]; exact hr i hi⟩
def Ls (k:Nat) (zs:List Int):List Int:=(List.range zs.length).map fun i=>((k + i:Nat):Int)
def Ld (k:Nat) (xs:List Al):List Al:=(List.range xs.length).map fun i=>⟨aT (k + 2 * i),aT (k + 2 * i + 1)⟩
theorem Dq (k:Nat) (zs:List Int):(Ls k zs).length=zs.length:=by simp [Ls]
theorem Dr (k:Nat) (xs:List Al):(Ld k xs).length=xs.length:=by simp [Ld]
theorem QT (k:Nat) (zs:List Int) (i:Nat) (h:i < (Ls k zs).length):(Ls k zs)[i]=((k + i:Nat):Int):=by simp [Ls]
theorem QU (k:Nat) (xs:List Al) (i:Nat) (h:i < (Ld k xs).length):(Ld k xs)[i]=⟨aT (k + 2 * i),aT (k + 2 * i + 1)⟩:=by simp [Ld]
theorem PR {k:Nat} {zs:List Int}:Ls k zs=[] ↔ zs=[]:=by
 constructor
 ·intro h; have:=congrArg List.length h; rw [Dq] at this; exact Si.1 this
 ·rintro rfl; rfl
theorem Ju {k:Nat} {xs:List Al}:Ld k xs=[] ↔ xs=[]:=by
 constructor
 ·intro h; have:=congrArg List.length h; rw [Dr] at this; exact Si.1 this
 ·rintro rfl; rfl
theorem zw (ad:Option Addr) (cap:Nat) (zs:List Int) (k:Nat) (w:World) (hs:lF w ad zs) (hg:zs ≠ []→∃ g,ad=some ⟨g,0,none⟩∧dL w g) (h1:k + zs.length≤1000000000) :
  Calls prog 106 #[.slice ad zs.length cap,.int .i64 (k:Int)] w fun e w'=>e=.returned (.int .i64 ((k + zs.length:Nat):Int))∧lF w' ad (Ls k zs)∧Chg (fun g=>zs ≠ []∧ad=some ⟨g,0,none⟩) w w':=by
 by_cases hz:zs=[]
 ·subst hz;go_enter func106,ntmps106;go_wp2;go_loopw [1,5] (fun kv i wr=>kv=.int .i64 (k:Int)∧i=.int .i64 0∧wr=w) (fun _ _ _=>0);case atStart=>exact ⟨rfl,rfl,rfl⟩
  case round =>
   obtain ⟨rfl,rfl,rfl⟩:=hrel;go_wp2;go_ret;exact ⟨rfl,.inl rfl,Chg.refl _ _⟩
 obtain ⟨g,rfl,hfree⟩:=hg hz;rcases hs with h | ⟨b,off,VC,hb,hr⟩
 ·exact absurd h hz
 obtain ⟨rfl,rfl⟩:g=b∧0=off:=by injection VC with e; injection e with e1 e2; exact ⟨e1,e2⟩
 have HZ:=aC hz;clear hz VC hg;go_enter func106,ntmps106;go_wp2;go_loopw [1,5] (fun kv i wr=>∃ j:Nat,j≤zs.length∧kv=.int .i64 ((k + j:Nat):Int)∧i=.int .i64 (j:Int)∧Hid (∀ (x:Nat) (hx:x < zs.length),wr.cell? ⟨g,x,none⟩=some (.int .i64 (if x < j then ((k + x:Nat):Int) else zs[x])))∧Hid (dL wr g)∧Hid (Chg (fun y=>zs ≠ []∧(some ⟨g,0,none⟩:Option Addr)=some ⟨y,0,none⟩) w wr)) (fun _ i _=>zs.length - (intOf i).toNat);case atStart=>exact ⟨0,R6 _,rfl,rfl,fun x hx=>by have:=hr x hx; simpa using this,hfree,Chg.refl _ _⟩
 case round =>
  obtain ⟨j,hj,rfl,rfl,HC,TD,Uf⟩:=hrel;by_cases hlt:j < zs.length
  ·have c0:=HC.out j hlt;rw [if_neg (by omega)] at c0;have fz:=TD.out;unfold dL at fz;have hj1:=bn j;have hj2:(j:Int) < (zs.length:Int):=by omega
   have Tn:Hid (∀ (x:Nat) (hx:x < zs.length),(wr.setCell ⟨g,j,none⟩ (.int .i64 ((k:Int) + (j:Int)))).cell? ⟨g,x,none⟩=some (.int .i64 (if x < j + 1 then ((k + x:Nat):Int) else zs[x]))):=by
    intro x hx;by_cases e:x=j
    ·subst e;rw [jO c0,if_pos (by omega)]; simp
    ·rw [dF (Ne.symm e),HC.out x hx];by_cases h2:x < j
     ·rw [if_pos h2,if_pos (by omega)]
     ·rw [if_neg h2,if_neg (by omega)]
   have HCH2:Hid (Chg (fun y=>zs ≠ []∧(some ⟨g,0,none⟩:Option Addr)=some ⟨y,0,none⟩) w (wr.setCell ⟨g,j,none⟩ (.int .i64 ((k:Int) + (j:Int))))):=Uf.out.trans (Chg.set _ ⟨HZ.out,rfl⟩);have UC:Hid (dL (wr.setCell ⟨g,j,none⟩ (.int .i64 ((k:Int) + (j:Int)))) g):=fun y=>by simpa using TD.out y
   go_wp2;go_roundw;case rel=>exact ⟨j + 1,by omega,by go_num,by go_num,Tn,UC,HCH2⟩
   case measure=>simp [intOf] <;> omega
  ·obtain rfl:j=zs.length:=by omega
   have V7:Hid (lF wr (some ⟨g,0,none⟩) (Ls k zs)):=.inr ⟨g,0,rfl,RZ hb Uf.out.size,fun i hi=>by
    have h2:i < zs.length:=by rw [Dq] at hi; exact hi
    rw [Su,HC.out i h2,if_pos h2,QT]⟩
   go_wp2;go_ret;exact ⟨by go_num,V7.out,Uf.out⟩
theorem uK (ad:Option Addr) (cap:Nat) (xs:List Al) (k:Nat) (w:World) (hs:iy w ad xs) (hg:xs ≠ []→∃ g,ad=some ⟨g,0,none⟩∧dL w g) (h0:0 < k) (h1:k + 2 * xs.length≤1000000000) :
  Calls prog 105 #[.slice ad xs.length cap,.int .i64 (k:Int)] w fun e w'=>e=.returned (.int .i64 ((k + 2 * xs.length:Nat):Int))∧iy w' ad (Ld k xs)∧Chg (fun g=>xs ≠ []∧ad=some ⟨g,0,none⟩) w w':=by
 by_cases hz:xs=[]
 ·subst hz;go_enter func105,ntmps105;go_wp2;go_loopw [1,5] (fun kv i wr=>kv=.int .i64 (k:Int)∧i=.int .i64 0∧wr=w) (fun _ _ _=>0);case atStart=>exact ⟨rfl,rfl,rfl⟩
  case round =>
   obtain ⟨rfl,rfl,rfl⟩:=hrel;go_wp2;go_ret;exact ⟨rfl,.inl rfl,Chg.refl _ _⟩
 obtain ⟨g,rfl,hfree⟩:=hg hz;rcases hs with h | ⟨b,off,VC,hb,hr⟩
 ·exact absurd h hz
 obtain ⟨rfl,rfl⟩:g=b∧0=off:=by injection VC with e; injection e with e1 e2; exact ⟨e1,e2⟩
 have HZ:=aC hz;clear hz VC hg;go_enter func105,ntmps105;go_wp2;go_loopw [1,5] (fun kv i wr=>∃ j:Nat,j≤xs.length∧kv=.int .i64 ((k + 2 * j:Nat):Int)∧i=.int .i64 (j:Int)∧Hid (∀ (x:Nat) (hx:x < xs.length),OB wr g (x * 2) (if x < j then ⟨aT (k + 2 * x),aT (k + 2 * x + 1)⟩ else xs[x]))∧Hid (dL wr g)∧Hid (Chg (fun y=>xs ≠ []∧(some ⟨g,0,none⟩:Option Addr)=some ⟨y,0,none⟩) w wr)) (fun _ i _=>xs.length - (intOf i).toNat);case atStart=>exact ⟨0,R6 _,rfl,rfl,fun x hx=>by have:=hr x hx; simpa using this,hfree,Chg.refl _ _⟩
 case round =>
  obtain ⟨j,hj,rfl,rfl,HC,TD,Uf⟩:=hrel;by_cases hlt:j < xs.length
  ·obtain ⟨c0,c1⟩:=HC.out j hlt;rw [if_neg (by omega)] at c0 c1;have hgl:g < wr.heap.size:=RZ hb Uf.out.size;have hj1:=bn j;have hj2:(j:Int) < (xs.length:Int):=by omega
   go_wp2_with fail;refine (aG _ (k + 2 * j) _ (by omega) (by omega) (by omega)).mono ?_;rintro e w1 ⟨rfl,hb1⟩;have HB1:=aC hb1;replace c0:=kept hb1 hgl c0;replace c1:=kept hb1 hgl c1;have fz:∀ y,w1.frozen? ⟨g,y,none⟩=false:=fun y=>iN hb1 hgl (TD.out y);clear hb1;obtain ⟨w2,hw2⟩:∃ w2,w2=w1.setCell ⟨g,j * 2,none⟩ (.string (aT (k + 2 * j))):=⟨_,rfl⟩;go_wp2_with fail;rw [← hw2];refine (aG _ (k + 2 * j + 1) _ (by omega) (by omega) (by omega)).mono ?_;rintro e w3 ⟨rfl,hb3⟩;have Uz:g < w2.heap.size:=by rw [hw2]; simp only [World.size_setCell]; exact RZ hgl HB1.out.size
   have d0:w3.cell? ⟨g,j * 2,none⟩=some (.string (aT (k + 2 * j))):=kept hb3 Uz (by rw [hw2]; exact jO c0);have d1:w3.cell? ⟨g,j * 2 + 1,none⟩=some (.string xs[j].s):=kept hb3 Uz (by rw [hw2,dF (by omega)]; exact c1);have fz3:∀ y,w3.frozen? ⟨g,y,none⟩=false:=fun y=>iN hb3 Uz (by rw [hw2]; simpa using fz y);have UY:Hid (∀ (x:Nat) (hx:x < xs.length),OB (w3.setCell ⟨g,j * 2 + 1,none⟩ (.string (aT (k + 2 * j + 1)))) g (x * 2) (if x < j + 1 then ⟨aT (k + 2 * x),aT (k + 2 * x + 1)⟩ else xs[x])):=by
    intro x hx;by_cases e:x=j
    ·subst e;rw [if_pos (by omega)];exact ⟨by rw [dF (by omega)]; exact d0,jO d1⟩
    ·have hx2:=HC.out x hx;have he:∀ y,y ≠ j * 2→y ≠ j * 2 + 1→(w3.setCell ⟨g,j * 2 + 1,none⟩ (.string (aT (k + 2 * j + 1)))).cell? ⟨g,y,none⟩=wr.cell? ⟨g,y,none⟩:=by
      intro y h1 h2;rw [dF (Ne.symm h2),hb3.cell (p:=⟨g,y,none⟩) Uz,hw2,dF (Ne.symm h1),HB1.out.cell (p:=⟨g,y,none⟩) hgl]
     have e2:(if x < j + 1 then (⟨aT (k + 2 * x),aT (k + 2 * x + 1)⟩:Al) else xs[x])=(if x < j then ⟨aT (k + 2 * x),aT (k + 2 * x + 1)⟩ else xs[x]):=by
      by_cases h2:x < j
      ·rw [if_pos h2,if_pos (by omega)]
      ·rw [if_neg h2,if_neg (by omega)]
     rw [e2];exact ⟨by rw [he _ (by omega) (by omega)]; exact hx2.1,by rw [he _ (by omega) (by omega)]; exact hx2.2⟩
   have HCH3:Hid (Chg (fun y=>xs ≠ []∧(some ⟨g,0,none⟩:Option Addr)=some ⟨y,0,none⟩) w (w3.setCell ⟨g,j * 2 + 1,none⟩ (.string (aT (k + 2 * j + 1))))):=by
    refine (Uf.out.trans ((Chg.of HB1.out).trans ?_)).trans ((Chg.of hb3).trans (Chg.set _ ⟨HZ.out,rfl⟩));rw [hw2];exact Chg.set _ ⟨HZ.out,rfl⟩
   have HF3:Hid (dL (w3.setCell ⟨g,j * 2 + 1,none⟩ (.string (aT (k + 2 * j + 1)))) g):=fun y=>by simpa using fz3 y
   clear hb3 hw2 c0 c1 fz;go_wp2;go_roundw;case rel=>exact ⟨j + 1,by omega,by go_num,by go_num,UY,HF3,HCH3⟩
   case measure=>simp [intOf] <;> omega
  ·obtain rfl:j=xs.length:=by omega
   have V7:Hid (iy wr (some ⟨g,0,none⟩) (Ld k xs)):=.inr ⟨g,0,rfl,RZ hb Uf.out.size,fun i hi=>by
    have h2:i < xs.length:=by rw [Dr] at hi; exact hi
    have:=HC.out i h2;rw [if_pos h2] at this;rw [Su,QU]; exact this⟩
   go_wp2;go_ret;exact ⟨by go_num,V7.out,Uf.out⟩
def wX (e:Ex):Nat:=3 + 2 * e.allow.length + e.kids.length
def RX (k:Nat) (e:Ex):Ex:=⟨(k:Int),Ld (k + 1) e.allow,aT (k + 1 + 2 * e.allow.length),aT (k + 2 + 2 * e.allow.length),Ls (k + 3 + 2 * e.allow.length) e.kids⟩
def ER.mkd (k:Nat) (r:ER):ER:={ r with e:=RX k r.e }
def wE:List ER→Nat
 | []=>0
 | r::rs=>wX r.e + wE rs
theorem uL:∀ xs ys:List ER,wE (xs ++ ys)=wE xs + wE ys
 | [],ys=>by simp [wE]
 | x::xs,ys=>by rw [List.cons_append]; simp only [wE]; rw [uL xs ys]; omega
theorem Jv (rs:List ER) (j:Nat) (h:j < rs.length):wE (rs.take (j + 1))=wE (rs.take j) + wX rs[j].e:=by
 rw [R5 h,uL]; simp [wE]
theorem RB (rs:List ER) (j:Nat):wE (rs.take j)≤wE rs:=by
 have:=uL (rs.take j) (rs.drop j);rw [SK] at this;omega
def bA (r:ER) (g:Nat):Prop:=r.e.allow ≠ []∧r.adA=some ⟨g,0,none⟩
def bK (r:ER) (g:Nat):Prop:=r.e.kids ≠ []∧r.adK=some ⟨g,0,none⟩
def DF (r:ER) (g:Nat):Prop:=bA r g ∨ bK r g
structure SepE (b:Nat) (rs:List ER):Prop where
 zeroA:∀ r ∈ rs,r.e.allow ≠ []→∃ g,r.adA=some ⟨g,0,none⟩
 zeroK:∀ r ∈ rs,r.e.kids ≠ []→∃ g,r.adK=some ⟨g,0,none⟩
 head:∀ r ∈ rs,¬ DF r b
 one:∀ r ∈ rs,∀ g,bA r g→¬ bK r g
 two:∀ (x y:Nat) (hx:x < rs.length) (hy:y < rs.length),x ≠ y→∀ g,DF rs[x] g→¬ DF rs[y] g
def FR (w:World) (b:Nat) (rs:List ER):Prop:=(b < w.heap.size∧dL w b)∧∀ r ∈ rs,∀ g,DF r g→g < w.heap.size∧dL w g
theorem FR.chg {S:Nat→Prop} {w w':World} {b:Nat} {rs:List ER} (h:FR w b rs) (hc:Chg S w w'):FR w' b rs :=
 ⟨⟨RZ h.1.1 hc.size,hc.free b h.1.1 h.1.2⟩,fun r hr g hg=>⟨RZ (h.2 r hr g hg).1 hc.size,hc.free g (h.2 r hr g hg).1 (h.2 r hr g hg).2⟩⟩
def RV (b:Nat) (rs:List ER) (g:Nat):Prop:=g=b ∨ ∃ r ∈ rs,DF r g
theorem ER.ok.chg {S:Nat→Prop} {w w':World} {r:ER} (h:r.ok w) (hc:Chg S w w') (hA:∀ g o,r.e.allow ≠ []→r.adA=some ⟨g,o,none⟩→¬ S g) (hK:∀ g o,r.e.kids ≠ []→r.adK=some ⟨g,o,none⟩→¬ S g):r.ok w' :=
 ⟨h.1.chg hc hA,h.2.chg hc hK⟩
theorem wI (x:Int) (ad:Option Addr) (cap:Nat) (xs:List Al) (k:Nat) (w:World) (hx:x=(k:Int)) (hs:iy w ad xs) (hg:xs ≠ []→∃ g,ad=some ⟨g,0,none⟩∧dL w g) (h0:0 < k) (h1:k + 2 * xs.length≤1000000000) :
  Calls prog 105 #[.slice ad xs.length cap,.int .i64 x] w fun e w'=>e=.returned (.int .i64 ((k + 2 * xs.length:Nat):Int))∧iy w' ad (Ld k xs)∧Chg (fun g=>xs ≠ []∧ad=some ⟨g,0,none⟩) w w':=by
 rw [hx]; exact uK ad cap xs k w hs hg h0 h1
theorem Ab (x:Int) (ad:Option Addr) (cap:Nat) (zs:List Int) (k:Nat) (w:World) (hx:x=(k:Int)) (hs:lF w ad zs) (hg:zs ≠ []→∃ g,ad=some ⟨g,0,none⟩∧dL w g) (h1:k + zs.length≤1000000000) :
  Calls prog 106 #[.slice ad zs.length cap,.int .i64 x] w fun e w'=>e=.returned (.int .i64 ((k + zs.length:Nat):Int))∧lF w' ad (Ls k zs)∧Chg (fun g=>zs ≠ []∧ad=some ⟨g,0,none⟩) w w':=by
 rw [hx]; exact zw ad cap zs k w hs hg h1
def nR (k:Nat) (rs:List ER) (j x:Nat) (hx:x < rs.length):ER:=if x < j then rs[x].mkd (k + wE (rs.take x)) else rs[x]
theorem PS (k:Nat) (rs:List ER) (j x:Nat) (hx:x < rs.length):(nR k rs j x hx).adA=rs[x].adA∧(nR k rs j x hx).adK=rs[x].adK∧((nR k rs j x hx).e.allow ≠ []→rs[x].e.allow ≠ [])∧((nR k rs j x hx).e.kids ≠ []→rs[x].e.kids ≠ []):=by
 unfold nR;split
 ·refine ⟨rfl,rfl,fun h e=>h ?_,fun h e=>h ?_⟩
  ·show Ld _ _=[];rw [Ju]; exact e
  ·show Ls _ _=[];rw [PR]; exact e
 ·exact ⟨rfl,rfl,id,id⟩
set_option maxRecDepth 8000 in
theorem Ac (b cap:Nat) (rs:List ER) (k:Nat) (w:World) (hb:b < w.heap.size) (hr:∀ (x:Nat) (hx:x < rs.length),sP w b (x * 5) rs[x]∧rs[x].ok w) (hsep:SepE b rs) (hfree:FR w b rs) (hl:∀ r ∈ rs,r.e.light) (hlen:rs.length≤1048576) (h0:0 < k) (h1:k + wE rs≤1000000000) :
  Calls prog 76 #[.slice (some ⟨b,0,none⟩) rs.length cap,.int .i64 (k:Int)] w fun e w'=>e=.returned (.int .i64 ((k + wE rs:Nat):Int))∧(∀ (x:Nat) (hx:x < rs.length),sP w' b (x * 5) (rs[x].mkd (k + wE (rs.take x)))∧(rs[x].mkd (k + wE (rs.take x))).ok w')∧Chg (RV b rs) w w':=by
 have TC:=aC hsep;have UV:=aC hfree;have HL:=aC hl;clear hsep hfree hl;go_enter func76,ntmps76;go_wp2;go_loopw [1,5] (fun kv i wr=>∃ j K:Nat,j≤rs.length∧Hid (K=k + wE (rs.take j))∧kv=.int .i64 (K:Int)∧i=.int .i64 (j:Int)∧Hid (∀ (x:Nat) (hx:x < rs.length),sP wr b (x * 5) (nR k rs j x hx)∧(nR k rs j x hx).ok wr)∧Hid (Chg (RV b rs) w wr)) (fun _ i _=>rs.length - (intOf i).toNat);case atStart=>exact ⟨0,k,R6 _,by show _=_; simp [wE],rfl,rfl,fun x hx=>by simpa [nR] using hr x hx,Chg.refl _ _⟩
 case round =>
  clear hr;obtain ⟨j,K,hj,HK,rfl,rfl,HC,Uf⟩:=hrel;by_cases hlt:j < rs.length
  ·obtain ⟨⟨c0,c1,c2,c3,c4⟩,hok⟩:=HC.out j hlt;have VK:nR k rs j j hlt=rs[j]:=by unfold nR; rw [if_neg (by omega)]
   rw [VK] at c0 c1 c2 c3 c4 hok;have Ub:=aC hok;have hlg:=HL.out rs[j] (RY hlt);have lA:rs[j].e.allow.length≤1048576:=hlg.1;have lK:rs[j].e.kids.length≤1048576:=hlg.2;have hKb:0 < K∧K + wX rs[j].e≤1000000000:=by
    have h2:=RB rs (j + 1);rw [Jv _ _ hlt] at h2;have:=HK.out;omega
   have hK0:=hKb.1;have hK1:=hKb.2;unfold wX at hK1;have hgl:b < wr.heap.size:=RZ hb Uf.out.size;have ZB:Hid (FR wr b rs):=UV.out.chg Uf.out;have hfb:dL wr b:=ZB.out.1.2;have fz:=hfb;unfold dL at fz;have hj1:=bn j;have hj2:(j:Int) < (rs.length:Int):=by omega
   have hnb:¬ DF rs[j] b:=TC.out.head _ (RY hlt);have Wo:Hid (¬ DF rs[j] b):=hnb;have HZA:Hid (rs[j].e.allow ≠ []→∃ g,rs[j].adA=some ⟨g,0,none⟩):=TC.out.zeroA _ (RY hlt);have HZK:Hid (rs[j].e.kids ≠ []→∃ g,rs[j].adK=some ⟨g,0,none⟩):=TC.out.zeroK _ (RY hlt);clear hKb hlg hok hnb VK;obtain ⟨W1,hW1⟩:∃ W1,W1=wr.setCell ⟨b,j * 5,none⟩ (.int .i64 (K:Int)):=⟨_,rfl⟩;have HD1:Hid (Chg (fun g=>g=b) wr W1):=by rw [hW1]; exact Chg.set _ rfl
   have TY:Hid (Chg (fun g=>g=b ∨ DF rs[j] g) wr W1):=HD1.out.mono fun g hg=>.inl hg;have hgl1:b < W1.heap.size:=RZ hgl TY.out.size;have a0:W1.cell? ⟨b,j * 5,none⟩=some (.int .i64 (K:Int)):=by rw [hW1]; exact jO c0
   have Ug:Hid (∀ o,o ≠ j * 5→W1.cell? ⟨b,o,none⟩=wr.cell? ⟨b,o,none⟩):=fun o ho=>by rw [hW1]; exact dF (Ne.symm ho)
   have a1:W1.cell? ⟨b,j * 5 + 1,none⟩=some (.slice rs[j].adA rs[j].e.allow.length rs[j].capA):=by rw [Ug.out _ (by omega)]; exact c1
   have HB1:Hid (∀ g,DF rs[j] g→g ≠ b):=fun g hg e=>Wo.out (by rw [← e]; exact hg);have HSA1:Hid (iy W1 rs[j].adA rs[j].e.allow):=by
    rw [hW1];refine iy.chg Ub.out.1 (Chg.set (S:=fun g=>g=b) (g:=b) (j:=j * 5) _ rfl) fun g o hne e=>?_;obtain ⟨g0,e0⟩:=HZA.out hne;rw [e0] at e; injection e with e; injection e with e1 e2;subst e1;exact HB1.out _ (.inl ⟨hne,e0⟩)
   have HFA1:Hid (rs[j].e.allow ≠ []→∃ g,rs[j].adA=some ⟨g,0,none⟩∧dL W1 g):=fun hne=>by
    obtain ⟨g0,e0⟩:=HZA.out hne;exact ⟨g0,e0,((ZB.out.chg TY.out).2 _ (RY hlt) g0 (.inl ⟨hne,e0⟩)).2⟩
   go_wp2_with fail;rw [← hW1];clear hW1 c0 c1;refine (wI _ _ _ rs[j].e.allow (K + 1) _ (by omega) HSA1.out HFA1.out (by omega) (by omega)).mono ?_;rintro e w2 ⟨rfl,hsa2,hc2⟩;have HSA2:=aC hsa2;have XA:=aC hc2;have Tn:Hid (Chg (fun g=>g=b ∨ DF rs[j] g) wr w2):=TY.out.trans (hc2.mono fun g hg=>.inr (.inl hg));have Ta:Hid (∀ o,w2.cell? ⟨b,o,none⟩=W1.cell? ⟨b,o,none⟩):=fun o=>hc2.cell hgl1 fun h=>Wo.out (.inl h);have Uz:b < w2.heap.size:=RZ hgl Tn.out.size;clear hsa2 hc2;go_wp2_with fail;refine (aG _ (K + 1 + 2 * rs[j].e.allow.length) _ (by omega) (by omega) (by omega)).mono ?_;rintro e w3 ⟨rfl,hb3⟩;have HB3:=aC hb3;have Ui:Hid (∀ o,w3.cell? ⟨b,o,none⟩=W1.cell? ⟨b,o,none⟩):=fun o=>(hb3.cell (p:=⟨b,o,none⟩) Uz).trans (Ta.out o);have e2:w3.cell? ⟨b,j * 5 + 2,none⟩=some (.string rs[j].e.over):=by rw [Ui.out,Ug.out _ (by omega)]; exact c2
   have fz3:∀ y,w3.frozen? ⟨b,y,none⟩=false:=fun y=>iN hb3 Uz ((ZB.out.chg Tn.out).1.2 y);obtain ⟨W4,Tg⟩:∃ W4,W4=w3.setCell ⟨b,j * 5 + 2,none⟩ (.string (aT (K + 1 + 2 * rs[j].e.allow.length))):=⟨_,rfl⟩;have HC4:Hid (Chg (fun g=>g=b) w2 W4):=(Chg.of HB3.out).trans (by rw [Tg]; exact Chg.set _ rfl);have d2:W4.cell? ⟨b,j * 5 + 2,none⟩=some (.string (aT (K + 1 + 2 * rs[j].e.allow.length))):=by rw [Tg]; exact jO e2
   have TU:Hid (∀ o,o ≠ j * 5 + 2→W4.cell? ⟨b,o,none⟩=W1.cell? ⟨b,o,none⟩):=fun o ho=>by rw [Tg,dF (Ne.symm ho)]; exact Ui.out o
   have hgl4:b < W4.heap.size:=RZ Uz HC4.out.size;clear hb3;go_wp2_with fail;rw [← Tg];clear Tg e2 fz3 c2;refine (aG _ (K + 2 + 2 * rs[j].e.allow.length) _ (by omega) (by omega) (by omega)).mono ?_;rintro e w5 ⟨rfl,hb5⟩;have TK:=aC hb5;have TA:Hid (∀ o,w5.cell? ⟨b,o,none⟩=W4.cell? ⟨b,o,none⟩):=fun o=>hb5.cell (p:=⟨b,o,none⟩) hgl4;have e3:w5.cell? ⟨b,j * 5 + 3,none⟩=some (.string rs[j].e.name):=by rw [TA.out,TU.out _ (by omega),Ug.out _ (by omega)]; exact c3
   have e4:w5.cell? ⟨b,j * 5 + 4,none⟩=some (.slice rs[j].adK rs[j].e.kids.length rs[j].capK):=by rw [TA.out,TU.out _ (by omega),Ug.out _ (by omega)]; exact c4
   have fz5:∀ y,w5.frozen? ⟨b,y,none⟩=false:=fun y=>iN hb5 hgl4 (((ZB.out.chg Tn.out).chg HC4.out).1.2 y);obtain ⟨W6,V6⟩:∃ W6,W6=w5.setCell ⟨b,j * 5 + 3,none⟩ (.string (aT (K + 2 + 2 * rs[j].e.allow.length))):=⟨_,rfl⟩;have HC6:Hid (Chg (fun g=>g=b) w2 W6):=HC4.out.trans ((Chg.of TK.out).trans (by rw [V6]; exact Chg.set _ rfl));have d3:W6.cell? ⟨b,j * 5 + 3,none⟩=some (.string (aT (K + 2 + 2 * rs[j].e.allow.length))):=by rw [V6]; exact jO e3
   have d2':W6.cell? ⟨b,j * 5 + 2,none⟩=some (.string (aT (K + 1 + 2 * rs[j].e.allow.length))):=by rw [V6,dF (by omega),TA.out]; exact d2
   have Ut:Hid (∀ o,o ≠ j * 5 + 2→o ≠ j * 5 + 3→W6.cell? ⟨b,o,none⟩=W1.cell? ⟨b,o,none⟩):=fun o h2 h3=>by rw [V6,dF (Ne.symm h3),TA.out]; exact TU.out o h2
   have hgl6:b < W6.heap.size:=RZ Uz HC6.out.size;have d4:W6.cell? ⟨b,j * 5 + 4,none⟩=some (.slice rs[j].adK rs[j].e.kids.length rs[j].capK):=by rw [Ut.out _ (by omega) (by omega),Ug.out _ (by omega)]; exact c4
   have HC26:Hid (Chg (fun g=>g=b ∨ DF rs[j] g) wr W6):=Tn.out.trans (HC6.out.mono fun g hg=>.inl hg);have HONE:Hid (∀ g,bA rs[j] g→¬ bK rs[j] g):=TC.out.one _ (RY hlt);have HSK6:Hid (lF W6 rs[j].adK rs[j].e.kids):=by
    refine lF.chg (S:=fun g=>g=b ∨ bA rs[j] g) Ub.out.2 ((HD1.out.mono fun g hg=>.inl hg).trans ((XA.out.mono fun g hg=>.inr hg).trans (HC6.out.mono fun g hg=>.inl hg))) fun g o hne e=>?_;obtain ⟨g0,e0⟩:=HZK.out hne;rw [e0] at e; injection e with e; injection e with e1 e2;subst e1;rintro (h | h)
    ·exact HB1.out _ (.inr ⟨hne,e0⟩) h
    ·exact HONE.out _ h ⟨hne,e0⟩
   have HFK6:Hid (rs[j].e.kids ≠ []→∃ g,rs[j].adK=some ⟨g,0,none⟩∧dL W6 g):=fun hne=>by
    obtain ⟨g0,e0⟩:=HZK.out hne;exact ⟨g0,e0,((ZB.out.chg HC26.out).2 _ (RY hlt) g0 (.inr ⟨hne,e0⟩)).2⟩
   go_wp2_with fail;rw [← V6];clear V6 e3 e4 fz5 c3 c4;refine (Ab _ _ _ rs[j].e.kids (K + 3 + 2 * rs[j].e.allow.length) _ (by omega) HSK6.out HFK6.out (by omega)).mono ?_;rintro e w7 ⟨rfl,hsk7,hc7⟩;have hx7:Chg (bK rs[j]) W6 w7:=hc7;have HC7:Hid (Chg (fun g=>g=b ∨ DF rs[j] g) wr w7):=HC26.out.trans (hx7.mono fun g hg=>.inr (.inr hg));have HO7:Hid (∀ o,w7.cell? ⟨b,o,none⟩=W6.cell? ⟨b,o,none⟩):=fun o=>hc7.cell hgl6 fun h=>Wo.out (.inr h);have HSA7:Hid (iy w7 rs[j].adA (Ld (K + 1) rs[j].e.allow)):=by
    refine iy.chg (S:=fun g=>g=b ∨ bK rs[j] g) HSA2.out ((HC6.out.mono fun g hg=>.inl hg).trans (hx7.mono fun g hg=>.inr hg)) fun g o hne e=>?_;rw [ne_eq,Ju] at hne;obtain ⟨g0,e0⟩:=HZA.out hne;rw [e0] at e; injection e with e; injection e with e1 e2;subst e1;rintro (h | h)
    ·exact HB1.out _ (.inl ⟨hne,e0⟩) h
    ·exact HONE.out _ ⟨hne,e0⟩ h
   have HSK7:=aC hsk7;have Tx:Hid (∀ (x:Nat) (hx:x < rs.length),sP w7 b (x * 5) (nR k rs (j + 1) x hx)∧(nR k rs (j + 1) x hx).ok w7):=by
    intro x hx;by_cases e:x=j
    ·subst e;have VK:nR k rs (x + 1) x hx=rs[x].mkd K:=by unfold nR; rw [if_pos (by omega),HK.out]
     rw [VK];refine ⟨⟨?_,?_,?_,?_,?_⟩,HSA7.out,HSK7.out⟩
     ·rw [HO7.out,Ut.out _ (by omega) (by omega)]; exact a0
     ·rw [HO7.out,Ut.out _ (by omega) (by omega),a1];show _=some (Value.slice rs[x].adA (Ld _ _).length rs[x].capA);rw [Dr]
     ·rw [HO7.out]; exact d2'
     ·rw [HO7.out]; exact d3
     ·rw [HO7.out,d4];show _=some (Value.slice rs[x].adK (Ls _ _).length rs[x].capK);rw [Dq]
    ·have VK:nR k rs (j + 1) x hx=nR k rs j x hx:=by
      unfold nR;by_cases h2:x < j
      ·rw [if_pos h2,if_pos (by omega)]
      ·rw [if_neg h2,if_neg (by omega)]
     rw [VK];obtain ⟨⟨p0,p1,p2,p3,p4⟩,hok⟩:=HC.out x hx;have hall:∀ o,o ≠ j * 5→o ≠ j * 5 + 2→o ≠ j * 5 + 3→w7.cell? ⟨b,o,none⟩=wr.cell? ⟨b,o,none⟩:=fun o h0 h2 h3=>by rw [HO7.out,Ut.out _ h2 h3,Ug.out _ h0]
     obtain ⟨q1,q2,q3,q4⟩:=PS k rs j x hx;refine ⟨⟨?_,?_,?_,?_,?_⟩,hok.chg HC7.out ?_ ?_⟩
     ·rw [hall _ (by omega) (by omega) (by omega)]; exact p0
     ·rw [hall _ (by omega) (by omega) (by omega)]; exact p1
     ·rw [hall _ (by omega) (by omega) (by omega)]; exact p2
     ·rw [hall _ (by omega) (by omega) (by omega)]; exact p3
     ·rw [hall _ (by omega) (by omega) (by omega)]; exact p4
     ·intro g o hne e2;obtain ⟨g0,e0⟩:=TC.out.zeroA _ (RY hx) (q3 hne);rw [q1,e0] at e2; injection e2 with e2; injection e2 with e3 e4;subst e3;have hin:DF rs[x] g0:=.inl ⟨q3 hne,e0⟩;rintro (h | h)
      ·subst h; exact TC.out.head _ (RY hx) hin
      ·exact TC.out.two x j hx hlt e g0 hin h
     ·intro g o hne e2;obtain ⟨g0,e0⟩:=TC.out.zeroK _ (RY hx) (q4 hne);rw [q2,e0] at e2; injection e2 with e2; injection e2 with e3 e4;subst e3;have hin:DF rs[x] g0:=.inr ⟨q4 hne,e0⟩;rintro (h | h)
      ·subst h; exact TC.out.head _ (RY hx) hin
      ·exact TC.out.two x j hx hlt e g0 hin h
   have VL:Hid (Chg (RV b rs) w w7):=Uf.out.trans (HC7.out.mono fun g hg=>hg.elim .inl fun h=>.inr ⟨rs[j],RY hlt,h⟩);have Wu:Hid (K + 3 + 2 * rs[j].e.allow.length + rs[j].e.kids.length=k + wE (rs.take (j + 1))):=by
    show _=_;rw [Jv _ _ hlt,HK.out]; unfold wX; omega
   clear hsk7 hc7 hx7 a0 a1 d2 d2' d3 d4;go_wp2;go_roundw;case rel=>exact ⟨j + 1,K + 3 + 2 * rs[j].e.allow.length + rs[j].e.kids.length,by omega,Wu,by go_num,by go_num,Tx,VL⟩
   case measure=>simp [intOf] <;> omega
  ·obtain rfl:j=rs.length:=by omega
   have Vs:Hid (K=k + wE rs):=by have:=HK.out; rw [Sc] at this; exact this
   have HEND:Hid (∀ (x:Nat) (hx:x < rs.length),sP wr b (x * 5) (rs[x].mkd (k + wE (rs.take x)))∧(rs[x].mkd (k + wE (rs.take x))).ok wr):=fun x hx=>by
    have:=HC.out x hx;unfold nR at this;rw [if_pos hx] at this;exact this
   go_wp2;go_ret;exact ⟨by rw [← Vs.out]; rfl,HEND.out,Uf.out⟩
def kY (w:World) (P:Nat→Prop):Prop:=∀ g,P g→g < w.heap.size∧dL w g
theorem kY.chg {S P:Nat→Prop} {w w':World} (h:kY w P) (hc:Chg S w w'):kY w' P:=fun g hg=>⟨RZ (h g hg).1 hc.size,hc.free g (h g hg).1 (h g hg).2⟩
theorem kY.mono {P Q:Nat→Prop} {w:World} (h:kY w P) (hq:∀ g,Q g→P g):kY w Q:=fun g hg=>h g (hq g hg)
theorem Ad (x:Int) (ad:Option Addr) (cap:Nat) (w:World) :
  Calls prog 76 #[.slice ad 0 cap,.int .i64 x] w fun e w'=>e=.returned (.int .i64 x)∧w'=w:=by
 go_enter func76,ntmps76;go_wp2;go_loopw [1,5] (fun kv i wr=>kv=.int .i64 x∧i=.int .i64 0∧wr=w) (fun _ _ _=>0);case atStart=>exact ⟨rfl,rfl,rfl⟩
 case round =>
  obtain ⟨rfl,rfl,rfl⟩:=hrel;go_wp2;go_ret;exact ⟨rfl,rfl⟩
theorem sG (x:Int) (ad:Option Addr) (cap:Nat) (w:World) :
  Calls prog 50 #[.slice ad 0 cap,.int .i64 x] w fun e w'=>e=.returned (.int .i64 x)∧w'=w:=by
 go_enter func50,ntmps50;go_wp2;go_loopw [1,5] (fun kv i wr=>kv=.int .i64 x∧i=.int .i64 0∧wr=w) (fun _ _ _=>0);case atStart=>exact ⟨rfl,rfl,rfl⟩
 case round =>
  obtain ⟨rfl,rfl,rfl⟩:=hrel;go_wp2;go_ret;exact ⟨rfl,rfl⟩
theorem Ae (x:Int) (ad:Option Addr) (cap:Nat) (w:World) :
  Calls prog 23 #[.slice ad 0 cap,.int .i64 x] w fun e w'=>e=.returned (.int .i64 x)∧w'=w:=by
 go_enter func23,ntmps23;go_wp2;go_loopw [1,5] (fun kv i wr=>kv=.int .i64 x∧i=.int .i64 0∧wr=w) (fun _ _ _=>0);case atStart=>exact ⟨rfl,rfl,rfl⟩
 case round =>
  obtain ⟨rfl,rfl,rfl⟩:=hrel;go_wp2;go_ret;exact ⟨rfl,rfl⟩
def uM (r:RR) (g:Nat):Prop:=(r.rows ≠ []∧r.ad=some ⟨g,0,none⟩) ∨ ∃ q ∈ r.rows,DF q g
def FT (r:RR):Prop:=r.rows ≠ []→∃ b,r.ad=some ⟨b,0,none⟩∧SepE b r.rows
structure SepR (b:Nat) (rs:List RR):Prop where
 good:∀ r ∈ rs,FT r
 head:∀ r ∈ rs,¬ uM r b
 two:∀ (x y:Nat) (hx:x < rs.length) (hy:y < rs.length),x ≠ y→∀ g,uM rs[x] g→¬ uM rs[y] g
def Od (b:Nat) (rs:List RR) (g:Nat):Prop:=g=b ∨ ∃ r ∈ rs,uM r g
def wR:List RR→Nat
 | []=>0
 | r::rs=>(1 + wE r.rows) + wR rs
theorem uN:∀ xs ys:List RR,wR (xs ++ ys)=wR xs + wR ys
 | [],ys=>by simp [wR]
 | x::xs,ys=>by rw [List.cons_append]; simp only [wR]; rw [uN xs ys]; omega
theorem Jw (rs:List RR) (j:Nat) (h:j < rs.length):wR (rs.take (j + 1))=wR (rs.take j) + (1 + wE rs[j].rows):=by
 rw [R5 h,uN]; simp [wR]
theorem RD (rs:List RR) (j:Nat):wR (rs.take j)≤wR rs:=by
 have:=uN (rs.take j) (rs.drop j);rw [SK] at this;omega
theorem RR.ok.chg {S:Nat→Prop} {w w':World} {r:RR} (h:r.ok w) (hc:Chg S w w') (hg:FT r) (hn:∀ g,uM r g→¬ S g):r.ok w':=by
 by_cases hz:r.rows=[]
 ·exact .inl hz
 obtain ⟨b,e,hsep⟩:=hg hz;rcases h with h | ⟨b',off,e',hb,hr,hk⟩
 ·exact .inl h
 ·rw [e] at e'; injection e' with e'; injection e' with e1 e2;subst e1; subst e2;refine .inr ⟨b,0,e,RZ hb hc.size,fun i hi=>(hr i hi).same fun o=>hc.cell hb (hn b (.inl ⟨hz,e⟩)),fun q hq=>?_⟩;refine (hk q hq).chg hc (fun g o hne e2=>?_) (fun g o hne e2=>?_)
  ·obtain ⟨g0,e0⟩:=hsep.zeroA q hq hne;rw [e0] at e2; injection e2 with e2; injection e2 with e3 e4;subst e3;exact hn g0 (.inr ⟨q,hq,.inl ⟨hne,e0⟩⟩)
  ·obtain ⟨g0,e0⟩:=hsep.zeroK q hq hne;rw [e0] at e2; injection e2 with e2; injection e2 with e3 e4;subst e3;exact hn g0 (.inr ⟨q,hq,.inr ⟨hne,e0⟩⟩)
theorem Dt (x:Int) (r:RR) (k:Nat) (w:World) (hx:x=(k:Int)) (ho:r.ok w) (hg:FT r) (hf:kY w (uM r)) (hl:r.light) (h0:0 < k) (h1:k + wE r.rows≤1000000000) :
  Calls prog 76 #[.slice r.ad r.rows.length r.cap,.int .i64 x] w fun e w'=>e=.returned (.int .i64 ((k + wE r.rows:Nat):Int))∧Chg (uM r) w w':=by
 by_cases hz:r.rows=[]
 ·rw [hz];refine (Ad x r.ad r.cap w).mono ?_;rintro e w' ⟨rfl,rfl⟩;exact ⟨by rw [hx]; rfl,Chg.refl _ _⟩
 obtain ⟨b,e,hsep⟩:=hg hz;rcases ho with h | ⟨b',off,e',hb,hr,hk⟩
 ·exact absurd h hz
 rw [e] at e'; injection e' with e'; injection e' with e1 e2;subst e1; subst e2;rw [e,hx];refine (Ac b r.cap r.rows k w hb (fun x hx=>⟨by have:=hr x hx; rwa [Su] at this,hk _ (RY hx)⟩) hsep ⟨hf b (.inl ⟨hz,e⟩),fun q hq g hg=>hf g (.inr ⟨q,hq,hg⟩)⟩ hl.2 hl.1 h0 h1).mono ?_;rintro e2 w' ⟨rfl,-,hc⟩;exact ⟨rfl,hc.mono fun g hg=>by
  rcases hg with rfl | ⟨q,hq,h2⟩
  ·exact .inl ⟨hz,e⟩
  ·exact .inr ⟨q,hq,h2⟩⟩
set_option maxRecDepth 8000 in
theorem sH (b cap:Nat) (rs:List RR) (k:Nat) (w:World) (hb:b < w.heap.size) (hr:∀ (x:Nat) (hx:x < rs.length),AtR w b (x * 2) rs[x]∧rs[x].ok w) (hsep:SepR b rs) (hfree:kY w (Od b rs)) (hl:∀ r ∈ rs,r.light) (hlen:rs.length≤1048576) (h0:0 < k) (h1:k + wR rs≤1000000000) :
  Calls prog 50 #[.slice (some ⟨b,0,none⟩) rs.length cap,.int .i64 (k:Int)] w fun e w'=>e=.returned (.int .i64 ((k + wR rs:Nat):Int))∧Chg (Od b rs) w w':=by
 have TC:=aC hsep;have UV:=aC hfree;have HL:=aC hl;clear hsep hfree hl;go_enter func50,ntmps50;go_wp2;go_loopw [1,5] (fun kv i wr=>∃ j K:Nat,j≤rs.length∧Hid (K=k + wR (rs.take j))∧kv=.int .i64 (K:Int)∧i=.int .i64 (j:Int)∧Hid (∀ (x:Nat) (hx:x < rs.length),j≤x→AtR wr b (x * 2) rs[x]∧rs[x].ok wr)∧Hid (Chg (Od b rs) w wr)) (fun _ i _=>rs.length - (intOf i).toNat);case atStart=>exact ⟨0,k,R6 _,by show _=_; simp [wR],rfl,rfl,fun x hx _=>hr x hx,Chg.refl _ _⟩
 case round =>
  clear hr;obtain ⟨j,K,hj,HK,rfl,rfl,HC,Uf⟩:=hrel;by_cases hlt:j < rs.length
  ·obtain ⟨⟨c0,c1⟩,hok⟩:=HC.out j hlt (R4 _);have Ub:=aC hok;have Vq:Hid (rs[j].light):=HL.out rs[j] (RY hlt);have hKb:0 < K∧K + (1 + wE rs[j].rows)≤1000000000:=by
    have h2:=RD rs (j + 1);rw [Jw _ _ hlt] at h2;have:=HK.out;omega
   have hK0:=hKb.1;have hK1:=hKb.2;have hgl:b < wr.heap.size:=RZ hb Uf.out.size;have ZB:Hid (kY wr (Od b rs)):=UV.out.chg Uf.out;have hj1:=bn j;have hj2:(j:Int) < (rs.length:Int):=by omega
   have Wo:Hid (¬ uM rs[j] b):=TC.out.head _ (RY hlt);have HGD:Hid (FT rs[j]):=TC.out.good _ (RY hlt);clear hKb hok;go_wp2_with fail;refine (aG _ K _ (by omega) (by omega) (by omega)).mono ?_;rintro e w1 ⟨rfl,hb1⟩;have HB1:=aC hb1;replace c0:=kept hb1 hgl c0;replace c1:=kept hb1 hgl c1;have fz:∀ y,w1.frozen? ⟨b,y,none⟩=false:=fun y=>iN hb1 hgl ((ZB.out b (.inl rfl)).2 y);obtain ⟨W2,hW2⟩:∃ W2,W2=w1.setCell ⟨b,j * 2,none⟩ (.string (aT K)):=⟨_,rfl⟩;have Tn:Hid (Chg (fun g=>g=b) wr W2):=(Chg.of hb1).trans (by rw [hW2]; exact Chg.set _ rfl);have Ta:Hid (∀ o,o ≠ j * 2→W2.cell? ⟨b,o,none⟩=wr.cell? ⟨b,o,none⟩):=fun o ho=>by rw [hW2,dF (Ne.symm ho)]; exact HB1.out.cell (p:=⟨b,o,none⟩) hgl
   have Uz:b < W2.heap.size:=RZ hgl Tn.out.size;have HOK2:Hid (rs[j].ok W2):=Ub.out.chg Tn.out HGD.out fun g hg e=>Wo.out (by rw [← e]; exact hg);have HFI:Hid (kY W2 (uM rs[j])):=(ZB.out.chg Tn.out).mono fun g hg=>.inr ⟨_,RY hlt,hg⟩;clear hb1;go_wp2_with fail;rw [← hW2];clear hW2 fz c0 c1;refine (Dt _ rs[j] (K + 1) _ (by omega) HOK2.out HGD.out HFI.out Vq.out (by omega) (by omega)).mono ?_;rintro e w3 ⟨rfl,hc3⟩;have UY:Hid (Chg (fun g=>g=b ∨ uM rs[j] g) wr w3):=(Tn.out.mono fun g hg=>.inl hg).trans (hc3.mono fun g hg=>.inr hg);have Ui:Hid (∀ o,w3.cell? ⟨b,o,none⟩=W2.cell? ⟨b,o,none⟩):=fun o=>hc3.cell Uz Wo.out;have Tx:Hid (∀ (x:Nat) (hx:x < rs.length),j + 1≤x→AtR w3 b (x * 2) rs[x]∧rs[x].ok w3):=by
    intro x hx hjx;obtain ⟨⟨p0,p1⟩,hok⟩:=HC.out x hx (by omega);refine ⟨⟨?_,?_⟩,hok.chg UY.out (TC.out.good _ (RY hx)) ?_⟩
    ·rw [Ui.out,Ta.out _ (by omega)]; exact p0
    ·rw [Ui.out,Ta.out _ (by omega)]; exact p1
    ·rintro g hg (h | h)
     ·subst h; exact TC.out.head _ (RY hx) hg
     ·exact TC.out.two x j hx hlt (by omega) g hg h
   have VL:Hid (Chg (Od b rs) w w3):=Uf.out.trans (UY.out.mono fun g hg=>hg.elim .inl fun h=>.inr ⟨rs[j],RY hlt,h⟩);have Wu:Hid (K + 1 + wE rs[j].rows=k + wR (rs.take (j + 1))):=by
    show _=_;rw [Jw _ _ hlt,HK.out]; omega
   clear hc3;go_wp2;go_roundw;case rel=>exact ⟨j + 1,K + 1 + wE rs[j].rows,by omega,Wu,by go_num,by go_num,Tx,VL⟩
   case measure=>simp [intOf] <;> omega
  ·obtain rfl:j=rs.length:=by omega
   have Vs:Hid (K=k + wR rs):=by have:=HK.out; rw [Sc] at this; exact this
   go_wp2;go_ret;exact ⟨by rw [← Vs.out]; rfl,Uf.out⟩
def wJ (r:TR) (g:Nat):Prop:=(r.rows ≠ []∧r.ad=some ⟨g,0,none⟩) ∨ ∃ q ∈ r.rows,uM q g
def FU (r:TR):Prop:=r.rows ≠ []→∃ b,r.ad=some ⟨b,0,none⟩∧SepR b r.rows
structure SepT (b:Nat) (rs:List TR):Prop where
 good:∀ r ∈ rs,FU r
 head:∀ r ∈ rs,¬ wJ r b
 two:∀ (x y:Nat) (hx:x < rs.length) (hy:y < rs.length),x ≠ y→∀ g,wJ rs[x] g→¬ wJ rs[y] g
def IK (b:Nat) (rs:List TR) (g:Nat):Prop:=g=b ∨ ∃ r ∈ rs,wJ r g
def wT:List TR→Nat
 | []=>0
 | r::rs=>(1 + wR r.rows) + wT rs
theorem uO:∀ xs ys:List TR,wT (xs ++ ys)=wT xs + wT ys
 | [],ys=>by simp [wT]
 | x::xs,ys=>by rw [List.cons_append]; simp only [wT]; rw [uO xs ys]; omega
theorem Jy (rs:List TR) (j:Nat) (h:j < rs.length):wT (rs.take (j + 1))=wT (rs.take j) + (1 + wR rs[j].rows):=by
 rw [R5 h,uO]; simp [wT]
theorem RF (rs:List TR) (j:Nat):wT (rs.take j)≤wT rs:=by
 have:=uO (rs.take j) (rs.drop j);rw [SK] at this;omega
theorem TR.ok.chg {S:Nat→Prop} {w w':World} {r:TR} (h:r.ok w) (hc:Chg S w w') (hg:FU r) (hn:∀ g,wJ r g→¬ S g):r.ok w':=by
 by_cases hz:r.rows=[]
 ·exact .inl hz
 obtain ⟨b,e,hsep⟩:=hg hz;rcases h with h | ⟨b',off,e',hb,hr,hk⟩
 ·exact .inl h
 ·rw [e] at e'; injection e' with e'; injection e' with e1 e2;subst e1; subst e2;refine .inr ⟨b,0,e,RZ hb hc.size,fun i hi=>(hr i hi).same fun o=>hc.cell hb (hn b (.inl ⟨hz,e⟩)),fun q hq=>?_⟩;exact (hk q hq).chg hc (hsep.good q hq) fun g hg=>hn g (.inr ⟨q,hq,hg⟩)
theorem uP (x:Int) (r:TR) (k:Nat) (w:World) (hx:x=(k:Int)) (ho:r.ok w) (hg:FU r) (hf:kY w (wJ r)) (hl:r.light) (h0:0 < k) (h1:k + wR r.rows≤1000000000) :
  Calls prog 50 #[.slice r.ad r.rows.length r.cap,.int .i64 x] w fun e w'=>e=.returned (.int .i64 ((k + wR r.rows:Nat):Int))∧Chg (wJ r) w w':=by
 by_cases hz:r.rows=[]
 ·rw [hz];refine (sG x r.ad r.cap w).mono ?_;rintro e w' ⟨rfl,rfl⟩;exact ⟨by rw [hx]; rfl,Chg.refl _ _⟩
 obtain ⟨b,e,hsep⟩:=hg hz;rcases ho with h | ⟨b',off,e',hb,hr,hk⟩
 ·exact absurd h hz
 rw [e] at e'; injection e' with e'; injection e' with e1 e2;subst e1; subst e2;rw [e,hx];refine (sH b r.cap r.rows k w hb (fun x hx=>⟨by have:=hr x hx; rwa [Su] at this,hk _ (RY hx)⟩) hsep (hf.mono fun g hg=>by
  rcases hg with rfl | ⟨q,hq,h2⟩
  ·exact .inl ⟨hz,e⟩
  ·exact .inr ⟨q,hq,h2⟩) hl.2 hl.1 h0 h1).mono ?_
 rintro e2 w' ⟨rfl,hc⟩;exact ⟨rfl,hc.mono fun g hg=>by
  rcases hg with rfl | ⟨q,hq,h2⟩
  ·exact .inl ⟨hz,e⟩
  ·exact .inr ⟨q,hq,h2⟩⟩
set_option maxRecDepth 8000 in
theorem Af (b cap:Nat) (rs:List TR) (k:Nat) (w:World) (hb:b < w.heap.size) (hr:∀ (x:Nat) (hx:x < rs.length),LD w b (x * 2) rs[x]∧rs[x].ok w) (hsep:SepT b rs) (hfree:kY w (IK b rs)) (hl:∀ r ∈ rs,r.light) (hlen:rs.length≤1048576) (h0:0 < k) (h1:k + wT rs≤1000000000) :
  Calls prog 23 #[.slice (some ⟨b,0,none⟩) rs.length cap,.int .i64 (k:Int)] w fun e w'=>e=.returned (.int .i64 ((k + wT rs:Nat):Int))∧Chg (IK b rs) w w':=by
 have TC:=aC hsep;have UV:=aC hfree;have HL:=aC hl;clear hsep hfree hl;go_enter func23,ntmps23;go_wp2;go_loopw [1,5] (fun kv i wr=>∃ j K:Nat,j≤rs.length∧Hid (K=k + wT (rs.take j))∧kv=.int .i64 (K:Int)∧i=.int .i64 (j:Int)∧Hid (∀ (x:Nat) (hx:x < rs.length),j≤x→LD wr b (x * 2) rs[x]∧rs[x].ok wr)∧Hid (Chg (IK b rs) w wr)) (fun _ i _=>rs.length - (intOf i).toNat);case atStart=>exact ⟨0,k,R6 _,by show _=_; simp [wT],rfl,rfl,fun x hx _=>hr x hx,Chg.refl _ _⟩
 case round =>
  clear hr;obtain ⟨j,K,hj,HK,rfl,rfl,HC,Uf⟩:=hrel;by_cases hlt:j < rs.length
  ·obtain ⟨⟨c0,c1⟩,hok⟩:=HC.out j hlt (R4 _);have Ub:=aC hok;have Vq:Hid (rs[j].light):=HL.out rs[j] (RY hlt);have hKb:0 < K∧K + (1 + wR rs[j].rows)≤1000000000:=by
    have h2:=RF rs (j + 1);rw [Jy _ _ hlt] at h2;have:=HK.out;omega
   have hK0:=hKb.1;have hK1:=hKb.2;have hgl:b < wr.heap.size:=RZ hb Uf.out.size;have ZB:Hid (kY wr (IK b rs)):=UV.out.chg Uf.out;have hj1:=bn j;have hj2:(j:Int) < (rs.length:Int):=by omega
   have Wo:Hid (¬ wJ rs[j] b):=TC.out.head _ (RY hlt);have HGD:Hid (FU rs[j]):=TC.out.good _ (RY hlt);clear hKb hok;go_wp2_with fail;refine (aG _ K _ (by omega) (by omega) (by omega)).mono ?_;rintro e w1 ⟨rfl,hb1⟩;have HB1:=aC hb1;replace c0:=kept hb1 hgl c0;replace c1:=kept hb1 hgl c1;have fz:∀ y,w1.frozen? ⟨b,y,none⟩=false:=fun y=>iN hb1 hgl ((ZB.out b (.inl rfl)).2 y);obtain ⟨W2,hW2⟩:∃ W2,W2=w1.setCell ⟨b,j * 2,none⟩ (.string (aT K)):=⟨_,rfl⟩;have Tn:Hid (Chg (fun g=>g=b) wr W2):=(Chg.of hb1).trans (by rw [hW2]; exact Chg.set _ rfl);have Ta:Hid (∀ o,o ≠ j * 2→W2.cell? ⟨b,o,none⟩=wr.cell? ⟨b,o,none⟩):=fun o ho=>by rw [hW2,dF (Ne.symm ho)]; exact HB1.out.cell (p:=⟨b,o,none⟩) hgl
   have Uz:b < W2.heap.size:=RZ hgl Tn.out.size;have HOK2:Hid (rs[j].ok W2):=Ub.out.chg Tn.out HGD.out fun g hg e=>Wo.out (by rw [← e]; exact hg);have HFI:Hid (kY W2 (wJ rs[j])):=(ZB.out.chg Tn.out).mono fun g hg=>.inr ⟨_,RY hlt,hg⟩;clear hb1;go_wp2_with fail;rw [← hW2];clear hW2 fz c0 c1;refine (uP _ rs[j] (K + 1) _ (by omega) HOK2.out HGD.out HFI.out Vq.out (by omega) (by omega)).mono ?_;rintro e w3 ⟨rfl,hc3⟩;have UY:Hid (Chg (fun g=>g=b ∨ wJ rs[j] g) wr w3):=(Tn.out.mono fun g hg=>.inl hg).trans (hc3.mono fun g hg=>.inr hg);have Ui:Hid (∀ o,w3.cell? ⟨b,o,none⟩=W2.cell? ⟨b,o,none⟩):=fun o=>hc3.cell Uz Wo.out;have Tx:Hid (∀ (x:Nat) (hx:x < rs.length),j + 1≤x→LD w3 b (x * 2) rs[x]∧rs[x].ok w3):=by
    intro x hx hjx;obtain ⟨⟨p0,p1⟩,hok⟩:=HC.out x hx (by omega);refine ⟨⟨?_,?_⟩,hok.chg UY.out (TC.out.good _ (RY hx)) ?_⟩
    ·rw [Ui.out,Ta.out _ (by omega)]; exact p0
    ·rw [Ui.out,Ta.out _ (by omega)]; exact p1
    ·rintro g hg (h | h)
     ·subst h; exact TC.out.head _ (RY hx) hg
     ·exact TC.out.two x j hx hlt (by omega) g hg h
   have VL:Hid (Chg (IK b rs) w w3):=Uf.out.trans (UY.out.mono fun g hg=>hg.elim .inl fun h=>.inr ⟨rs[j],RY hlt,h⟩);have Wu:Hid (K + 1 + wR rs[j].rows=k + wT (rs.take (j + 1))):=by
    show _=_;rw [Jy _ _ hlt,HK.out]; omega
   clear hc3;go_wp2;go_roundw;case rel=>exact ⟨j + 1,K + 1 + wR rs[j].rows,by omega,Wu,by go_num,by go_num,Tx,VL⟩
   case measure=>simp [intOf] <;> omega
  ·obtain rfl:j=rs.length:=by omega
   have Vs:Hid (K=k + wT rs):=by have:=HK.out; rw [Sc] at this; exact this
   go_wp2;go_ret;exact ⟨by rw [← Vs.out]; rfl,Uf.out⟩
end Go.Proofs.YtdaoiceeidoehaaGreat
