/- Contracts: lists of tuples looked at, whatever slice leads to them; two rows of the same tuples held against one another. -/
import Derived.Test.YtdmniljjnaebbaaGreatDoorJ11
import Derived.Maps.OwnSet
import Derived.DeepKeys4
open Go.Proofs.Tryz
set_option maxHeartbeats 80000000
namespace Go.Proofs.YtdmniljjnaebbaaGreatDoor
open Go.ChangeShapes Go.WideShapes Go.ChangeAt Go.RowKit
open Pl
attribute [local go_sem ↓] Go.wp_at_zero Go.wp_at_succ
theorem rY (ad:Option Addr) (cap:Nat) (w:World) :
  Calls prog 75 #[.slice ad 0 cap] w fun e w'=>e=.returned (.bool (eu []))∧Below w.heap.size w w':=by
 go_enter func75,ntmps75;go_wp2;go_loopw [3] (fun i wr=>∃ k:Nat,k=0∧i=.int .i64 k∧Below w.heap.size w wr) (fun i _=>(intOf i).toNat);case atStart=>exact ⟨0,rfl,rfl,Below.refl _ _⟩
 case round =>
  obtain ⟨k,rfl,rfl,hB⟩:=hrel;go_wp2;go_ret;exact ⟨rfl,hB⟩
theorem rZ (ad:Option Addr) (cap:Nat) (w:World) :
  Calls prog 93 #[.slice ad 0 cap] w fun e w'=>e=.returned (.bool (eu []))∧Below w.heap.size w w':=by
 go_enter func93,ntmps93;go_wp2;go_loopw [10] (fun i wr=>∃ k:Nat,k=0∧i=.int .i64 k∧Below w.heap.size w wr) (fun i _=>(intOf i).toNat);case atStart=>exact ⟨0,rfl,rfl,Below.refl _ _⟩
 case round =>
  obtain ⟨k,rfl,rfl,hB⟩:=hrel;go_wp2;go_ret;exact ⟨rfl,hB⟩
theorem r9 (ad:Option Addr) (cap:Nat) (ts:List Tp) (w:World) (hlen:ts.length≤maxLen) (hs:Sl w ad ts) (hf:∀ t ∈ ts,t.fits) :
  Calls prog 75 #[.slice ad ts.length cap] w fun e w'=>e=.returned (.bool (eu ts))∧Below w.heap.size w w':=by
 rcases hs with rfl | ⟨b,off,rfl,hb,hr⟩
 ·exact rY ad cap w
 ·exact rM b off cap ts w hlen hr hb hf
theorem si (ad:Option Addr) (cap:Nat) (ts:List Tp) (w:World) (hlen:ts.length≤maxLen) (hs:Sl w ad ts) (hf:∀ t ∈ ts,t.fits) :
  Calls prog 93 #[.slice ad ts.length cap] w fun e w'=>e=.returned (.bool (eu ts))∧Below w.heap.size w w':=by
 rcases hs with rfl | ⟨b,off,rfl,hb,hr⟩
 ·exact rZ ad cap w
 ·exact rX b off cap ts w hlen hr hb hf
theorem mH (a b:ByteArray) (w:World) :
  Calls prog 65 #[.agg #[.string a,.string b],.agg #[.string a,.string b]] w fun e w'=>e=.returned (.bool true)∧Below w.heap.size w w':=by
 go_enter func65,ntmps65;go_wp2;go_ret;exact ⟨rfl,((Below.refl _ _).alloc (Nat.le_refl _) _).alloc (by simp) _⟩
theorem yx (a b r c d s:ByteArray) (w:World) :
  Calls prog 39 #[.agg #[.string a,.string b,.string r,.string c,.string d,.string s],.agg #[.string a,.string b,.string r,.string c,.string d,.string s]] w fun e w'=>e=.returned (.bool true)∧Below w.heap.size w w':=by
 go_enter func39,ntmps39;go_wp2_with fail;refine (mH _ _ _).mono ?_;rintro e w1 ⟨rfl,hb1⟩;obtain ⟨hc1,hf1⟩:=dM hb1;have hz1:w.heap.size + 1 < w1.heap.size:=by have:=hb1.size; simp at this; omega
 have hy1:w.heap.size < w1.heap.size:=by omega
 have HB1:Below w.heap.size w w1:=(((Below.refl _ _).alloc (Nat.le_refl _) _).alloc (by simp) _).trans (hb1.mono (by simp; omega));go_wp2_with fail;refine (mH _ _ _).mono ?_;rintro e w2 ⟨rfl,hb2⟩;obtain ⟨hc2,hf2⟩:=dM hb2;have hz2:w.heap.size + 1 < w2.heap.size:=by have:=hb2.size; omega
 have hy2:w.heap.size < w2.heap.size:=by omega
 go_wp2;go_ret;exact ⟨rfl,HB1.trans (hb2.mono (by omega))⟩
end Go.Proofs.YtdmniljjnaebbaaGreatDoor
namespace Go.Proofs.YtdmniljjnaebbaaGreatDoor
set_option maxRecDepth 100000
set_option linter.unusedVariables false
open Go.ChangeShapes Go.WideShapes Go.ChangeAt Go.RowKit
open Pl
def AO (w:World) (b off:Nat) (cs:List (Int × Tp)):Prop:=∀ (i:Nat) (h:i < cs.length),MF w b (off + i * 7) cs[i]
theorem MF.same {w w':World} {b off:Nat} {t:Int × Tp} (h:MF w b off t) (hc:∀ o,w'.cell? ⟨b,o,none⟩=w.cell? ⟨b,o,none⟩):MF w' b off t:=by
 obtain ⟨h0,h1,h2,h3,h4,h5,h6⟩:=h;exact ⟨(hc _).trans h0,(hc _).trans h1,(hc _).trans h2,(hc _).trans h3,(hc _).trans h4,(hc _).trans h5,(hc _).trans h6⟩
theorem AO.below {w w':World} {b off B:Nat} {ts:List (Int × Tp)} (h:AO w b off ts) (hB:Below B w w') (hb:b < B):AO w' b off ts :=
 fun i hi=>(h i hi).same fun o=>hB.cell (p:=⟨b,o,none⟩) hb
theorem yz (ad:Option Addr) (cap:Nat) (cs:List (Int × Tp)) (left:Int) (w:World) (hlen:cs.length≤maxLen) (hs:JC w ad cs) (hf:∀ c ∈ cs,c.2.fits) (h0:0≤left) (h1:left≤1048576) :
  Calls prog 20 #[.slice ad cs.length cap,.int .i64 left] w fun e w'=>(∃ n:Int,e=.returned (.int .i64 n)∧(n=-1 ∨ 0≤n∧n≤left∧cs.length≤left))∧Below w.heap.size w w':=by
 unfold maxLen at hlen;by_cases hneg:left - cs.length < 0
 ·go_enter func20,ntmps20;go_wp2;go_ret;exact ⟨⟨-1,rfl,.inl rfl⟩,Below.refl _ _⟩
 ·have HS:=aC hs;have HF:=aC hf;clear hs hf;go_enter func20,ntmps20;go_wp2;go_loopw [1,5] (fun l i wr=>∃ (k:Nat) (x:Int),k≤cs.length∧i=.int .i64 k∧l=.int .i64 x∧0≤x∧x≤left∧Below w.heap.size w wr) (fun _ i _=>cs.length - (intOf i).toNat);case atStart=>exact ⟨0,_,Nat.zero_le _,rfl,rfl,by omega,by omega,Below.refl _ _⟩
  case round =>
   obtain ⟨k,x,hk,rfl,rfl,hx0,hx1,hB⟩:=hrel;by_cases hlt:k < cs.length
   ·rcases HS.out.below hB with hnil | ⟨b,off,rfl,hb,hr⟩
    ·rw [hnil] at hlt; simp at hlt
    obtain ⟨q0,t0,t1,t2,t3,t4,t5⟩:=hr k hlt;obtain ⟨f0,f1,f2,f3,f4,f5⟩:=HF.out cs[k] (List.getElem_mem hlt);have hle:=BJ cs[k].2.a cs[k].2.b cs[k].2.r cs[k].2.c cs[k].2.d cs[k].2.s x;clear hr;go_wp2_with fail;refine (AJ _ _ _ _ _ _ _ _ _ f0 f1 f2 f3 f4 f5 hx0 (by omega)).mono ?_;rintro e w1 ⟨rfl,hb1⟩;by_cases hn:jH cs[k].2.a cs[k].2.b cs[k].2.r cs[k].2.c cs[k].2.d cs[k].2.s x < 0
    ·go_wp2;go_ret;exact ⟨⟨-1,rfl,.inl rfl⟩,hB.trans (hb1.mono hB.size)⟩
    ·go_wp2;go_roundw;case rel=>exact ⟨k + 1,_,by omega,by go_num,rfl,by omega,by omega,hB.trans (hb1.mono hB.size)⟩
     case measure=>simp [intOf]; omega
   ·go_wp2;go_ret;exact ⟨⟨x,rfl,.inr ⟨hx0,hx1,by omega⟩⟩,hB⟩
def wI (w:World) (g o:Nat) (c:Int × Tp):World:=qx (w.setCell ⟨g,o,none⟩ (.int .i64 c.1)) g (o + 1) c.2
theorem Co (w:World) (g o:Nat) (c:Int × Tp) (j:Nat) (h:j < o ∨ o + 7≤j):(wI w g o c).cell? ⟨g,j,none⟩=w.cell? ⟨g,j,none⟩:=by
 unfold wI;rw [qy _ _ _ _ _ (by omega),iJ (by omega)]
theorem Gb {w:World} {g o:Nat} (c:Int × Tp) (h:∀ j,j < 7→(w.cell? ⟨g,o + j,none⟩).isSome=true):MF (wI w g o c) g o c:=by
 have h0:(wI w g o c).cell? ⟨g,o,none⟩=some (.int .i64 c.1):=by
  unfold wI;rw [qy _ _ _ _ _ (by omega)];obtain ⟨u,hu⟩:=Option.isSome_iff_exists.mp (h 0 (by omega));exact GK hu
 obtain ⟨a0,a1,a2,a3,a4,a5⟩:=Am (w:=w.setCell ⟨g,o,none⟩ (.int .i64 c.1)) (g:=g) (o:=o + 1) c.2 fun j hj=>by
  rw [iJ (by omega),show o + 1 + j=o + (1 + j) by omega];exact h (1 + j) (by omega)
 exact ⟨h0,a0,a1,a2,a3,a4,a5⟩
theorem Cq (w:World) (g o:Nat) (c:Int × Tp) (x:Addr):(wI w g o c).frozen? x=w.frozen? x:=by simp [wI,qx]
theorem Em {B:Nat} {w0 w:World} {g o:Nat} {c:Int × Tp} (h:Below B w0 w) (hg:B≤g):Below B w0 (wI w g o c):=vI (h.setCell (by exact hg) _) hg
theorem G9 (w:World) (g o:Nat) (c:Int × Tp):(wI w g o c).heap.size=w.heap.size:=by simp [wI,qx]
theorem Lj:∃ i z,prog.info? 44=some i∧i.zero=some z∧i.size=7∧i.bytes=104:=by
 have h:(prog.info? 44).map (fun i=>(i.zero.isSome,i.size,i.bytes))=some (true,7,104):=by kernel_rfl
 cases hi:prog.info? 44 with
 | none=>rw [hi] at h; cases h
 | some i =>
  rw [hi] at h;simp at h;obtain ⟨z,hz⟩:=Option.isSome_iff_exists.mp h.1;exact ⟨i,z,rfl,hz,h.2.1,h.2.2⟩
structure FillC (w wr:World) (g:Nat) (ts:List (Int × Tp)) (k:Nat):Prop where
 below:Below w.heap.size w wr
 ge:w.heap.size≤g
 lt:g < wr.heap.size
 done:∀ (i:Nat) (h:i < ts.length),i < k→MF wr g (0 + i * 7) ts[i]
 there:∀ j,j < ts.length * 7→(wr.cell? ⟨g,j,none⟩).isSome=true
 free:∀ j,wr.frozen? ⟨g,j,none⟩=false
theorem FillC.later {w wr w1:World} {g:Nat} {ts:List (Int × Tp)} {k:Nat} (h:FillC w wr g ts k) (hb:Below wr.heap.size wr w1):FillC w w1 g ts k where
 below:=h.below.trans (hb.mono h.below.size)
 ge:=h.ge
 lt:=Nat.lt_of_lt_of_le h.lt hb.size
 done i hi hk:=(h.done i hi hk).same fun o=>hb.cell (p:=⟨g,o,none⟩) h.lt
 there j hj:=by rw [hb.cell (p:=⟨g,j,none⟩) h.lt]; exact h.there j hj
 free j:=by rw [hb.frozen (p:=⟨g,j,none⟩) h.lt]; exact h.free j
theorem FillC.put {w wr:World} {g:Nat} {ts:List (Int × Tp)} {k:Nat} (h:FillC w wr g ts k) (hk:k < ts.length):FillC w (wI wr g (k * 7) ts[k]) g ts (k + 1) where
 below:=Em h.below h.ge
 ge:=h.ge
 lt:=by rw [G9]; exact h.lt
 done i hi hik:=by
  by_cases e:i=k
  ·subst e;rw [Nat.zero_add];exact Gb _ (fun j hj=>h.there _ (by omega))
  ·obtain ⟨a0,a1,a2,a3,a4,a5,a6⟩:=h.done i hi (by omega);refine ⟨?_,?_,?_,?_,?_,?_,?_⟩ <;> (rw [Co _ _ _ _ _ (by omega)]; assumption)
 there j hj:=by
  by_cases hin:j < k * 7 ∨ k * 7 + 7≤j
  ·rw [Co _ _ _ _ _ hin]; exact h.there j hj
  ·obtain ⟨a0,a1,a2,a3,a4,a5,a6⟩:=Gb (w:=wr) (g:=g) (o:=k * 7) ts[k] (fun j hj=>h.there _ (by omega));have hj6:j=k * 7 ∨ j=k * 7 + 1 ∨ j=k * 7 + 2 ∨ j=k * 7 + 3 ∨ j=k * 7 + 4 ∨ j=k * 7 + 5 ∨ j=k * 7 + 6:=by omega
   rcases hj6 with e | e | e | e | e | e | e
   ·rw [e,a0]; rfl
   ·rw [e,a1]; rfl
   ·rw [e,a2]; rfl
   ·rw [e,a3]; rfl
   ·rw [e,a4]; rfl
   ·rw [e,a5]; rfl
   ·rw [e,a6]; rfl
 free j:=by rw [Cq]; exact h.free j
theorem En {w w0:World} {ts:List (Int × Tp)} {base:Nat} {e:TypeId} {xs:List Value} (h:w0.ownsRow base e 7 (.slice (some ⟨w.heap.size,0,none⟩) ts.length ts.length) ts.length xs) (hg:w.grownBy w0 none):FillC w w0 w.heap.size ts 0 where
 below:=(Below.refl _ _).grown hg (Nat.le_refl _) (fun k hk=>by cases hk)
 ge:=Nat.le_refl _
 lt:=(h.lt w.heap.size rfl).2
 done i hi hk:=absurd hk (Nat.not_lt_zero _)
 there j hj:=by
  rw [h.cellAt j hj,List.getElem?_eq_getElem (by rw [h.1]; exact hj)]; rfl
 free j:=h.frozenAt j
theorem FillC.sl {w w':World} {g:Nat} {ts:List (Int × Tp)} (h:FillC w w' g ts ts.length):JC w' (some ⟨g,0,none⟩) ts:=.inr ⟨g,0,rfl,h.lt,fun i hi=>h.done i hi hi⟩
theorem kv (ad:Option Addr) (cap:Nat) (cs:List (Int × Tp)) (w:World) (hlen:cs.length≤1048576) (hs:JC w ad cs) :
  Calls prog 23 #[.slice ad cs.length cap] w fun e w'=>e=.returned (.slice (some ⟨w.heap.size,0,none⟩) cs.length cs.length)∧FillC w w' w.heap.size cs cs.length:=by
 obtain ⟨inf,z,hi,hz0,hz1,hz2⟩:=Lj;have HS:=aC hs;clear hs;go_enter func23,ntmps23;go_wp2_with (at_make; refine wpList_make_full _ rfl _ _ 60 rfl w.heap.size 44 inf z 7 underlying60 hi hz0 hz1 .i64 .i64 _ _ cs.length rfl rfl rfl rfl (by rw [hz2]; omega) (by unfold maxLen; omega) (Nat.le_refl _) ?_; intro w0 hown0 hgrow0);have F0:FillC w w0 w.heap.size cs 0:=En hown0 hgrow0;clear hown0 hgrow0 hi hz0 hz1 hz2;go_loopw [4] (fun i wr=>∃ k:Nat,k≤cs.length∧i=.int .i64 k∧FillC w wr w.heap.size cs k) (fun i _=>cs.length - (intOf i).toNat);case atStart=>exact ⟨0,Nat.zero_le _,rfl,F0⟩
 case round =>
  obtain ⟨k,hk,rfl,F⟩:=hrel;by_cases hlt:k < cs.length
  ·rcases HS.out.below F.below with hnil | ⟨b,off,rfl,hb,hr⟩
   ·rw [hnil] at hlt; simp at hlt
   obtain ⟨q0,t0,t1,t2,t3,t4,t5⟩:=hr k hlt;clear hr;go_wp2_with fail;refine (AL _ _ _ _ _ _ _ _).mono ?_;rintro e w1 ⟨rfl,hb1⟩;have F1:=F.later hb1;have fz:=F1.free;obtain ⟨v0,u0⟩:=Option.isSome_iff_exists.mp (F1.there (k * 7) (by omega));obtain ⟨v1,u1⟩:=Option.isSome_iff_exists.mp (F1.there (k * 7 + 1) (by omega));obtain ⟨v2,u2⟩:=Option.isSome_iff_exists.mp (F1.there (k * 7 + 2) (by omega));obtain ⟨v3,u3⟩:=Option.isSome_iff_exists.mp (F1.there (k * 7 + 3) (by omega));obtain ⟨v4,u4⟩:=Option.isSome_iff_exists.mp (F1.there (k * 7 + 4) (by omega));obtain ⟨v5,u5⟩:=Option.isSome_iff_exists.mp (F1.there (k * 7 + 5) (by omega));obtain ⟨v6,u6⟩:=Option.isSome_iff_exists.mp (F1.there (k * 7 + 6) (by omega));have F2:=F1.put hlt;clear F F0 q0 t0 t1 t2 t3 t4 t5 hb1;go_wp2;go_roundw;case rel=>exact ⟨k + 1,by omega,by go_num,F2⟩
   case measure=>simp [intOf]; omega
  ·obtain rfl:k=cs.length:=by omega
   go_wp2;go_ret;exact ⟨rfl,F⟩
theorem yA (k:Int) (a b r c d s:ByteArray) (w:World) :
  Calls prog 48 #[.agg #[.int .i64 k,.string a,.string b,.string r,.string c,.string d,.string s],.agg #[.int .i64 k,.string a,.string b,.string r,.string c,.string d,.string s]] w fun e w'=>e=.returned (.bool true)∧Below w.heap.size w w':=by
 go_enter func48,ntmps48;go_wp2_with fail;refine (yx _ _ _ _ _ _ _).mono ?_;rintro e w1 ⟨rfl,hb1⟩;have HB1:Below w.heap.size w w1:=(((Below.refl _ _).alloc (Nat.le_refl _) _).alloc (by simp) _).trans (hb1.mono (by simp; omega));clear hb1;go_wp2;go_ret;exact ⟨rfl,HB1⟩
open Go.Maps
def Ll (v:Value):Option (DataW Value × List MemPlace):=some (.held v,[])
section
variable {K:Type} (enc:K→Value) (P:Program) (k:TypeId)
def MR (D:DataW Value) (kl:Lit):Option Value→Prop
 | none=>Maps.has D kl=false∧∀ z,D.atKey kl z=z
 | some v=>Maps.has D kl=true∧∀ z,D.atKey kl z=.held v
def aD (w:World) (b n:Nat) (M:K→Option Value):Prop :=
 ∃ D:DataW Value,w.ownsMap P k Ll b n D∧∀ x kl,keyOf P k (enc x)=some kl→MR D kl (M x)
def ji [DecidableEq K] (M:K→Option Value) (x:K) (v:Option Value):K→Option Value:=fun y=>if y=x then v else M y
end
section
variable {K:Type} {enc:K→Value} {P:Program} {k:TypeId} {w:World} {b n:Nat} {M:K→Option Value}
theorem dx [DecidableEq K] (M:K→Option Value) (x:K) (v:Option Value):ji M x v x=v:=by simp [ji]
theorem bn [DecidableEq K] {M:K→Option Value} {x y:K} {v:Option Value} (h:y ≠ x):ji M x v y=M y:=by simp [ji,h]
theorem kJ (enc:K→Value) (P:Program) (k:TypeId) (w:World):aD enc P k (w.alloc (.map #[] 0)) w.heap.size 0 (fun _=>none) :=
 ⟨.map [],World.ownsMap_made w P k Ll,fun _ kl _=>⟨rfl,fun z=>by simp [DataW.atKey]⟩⟩
theorem aD.lt (h:aD enc P k w b n M):b < w.heap.size:=by obtain ⟨D,h1,-⟩:=h; exact h1.lt
theorem aD.mono (h:aD enc P k w b n M) {n':Nat} (hn:n≤n'):aD enc P k w b n' M:=by obtain ⟨D,h1,h2⟩:=h; exact ⟨D,h1.mono hn,h2⟩
theorem aD.kept {w':World} {row:Option Nat} (h:aD enc P k w b n M) (hg:w.grownBy w' row) (hne:some b ≠ row):aD enc P k w' b n M:=by
 obtain ⟨D,h1,h2⟩:=h; exact ⟨D,h1.kept hg hne,h2⟩
theorem aD.below {w':World} (h:aD enc P k w b n M) (hB:Below w.heap.size w w'):aD enc P k w' b n M :=
 h.kept (row:=none) ⟨hB.os,hB.tape,hB.output,hB.size,fun k hk _=>hB.block k hk⟩ (by simp)
theorem aD.setCell (h:aD enc P k w b n M) {a:Addr} (ha:b ≠ a.block) (u:Value):aD enc P k (w.setCell a u) b n M:=by
 obtain ⟨D,h1,h2⟩:=h; exact ⟨D,h1.setCell ha u,h2⟩
theorem aD.look {t e:TypeId} (h:aD enc P k w b n M) (L:Keyed P k) (ht:P.underlying t=some (.map k e)) {z:Value} (hz:(zeroValue e).run P w=.ok z w) {x:K} {kl:Lit} (hkey:keyOf P k (enc x)=some kl) :
  (Instr.lookup t (.map (some b)) (enc x) false).run P w=.ok ((M x).getD z) w:=by
 obtain ⟨D,h1,h2⟩:=h;obtain ⟨v,ps,hrun,hv⟩:=h1.lookup L ht hz (zd:=.held z) (zp:=[]) rfl hkey;have h3:=h2 x kl hkey;rw [hrun];have:v=(M x).getD z:=by
  simp only [Ll,Option.some.injEq,Prod.mk.injEq] at hv;cases e:M x with
  | none=>rw [e] at h3; rw [h3.2] at hv; injection hv.1 with h4
  | some u=>rw [e] at h3; rw [h3.2] at hv; injection hv.1 with h4
 rw [this]
theorem aD.look_ok {t e:TypeId} (h:aD enc P k w b n M) (L:Keyed P k) (ht:P.underlying t=some (.map k e)) {z:Value} (hz:(zeroValue e).run P w=.ok z w) {x:K} {kl:Lit} (hkey:keyOf P k (enc x)=some kl) :
  (Instr.lookup t (.map (some b)) (enc x) true).run P w=.ok (.tuple #[(M x).getD z,.bool (M x).isSome]) w:=by
 obtain ⟨D,h1,h2⟩:=h;obtain ⟨v,ps,hrun,hv⟩:=h1.look_ok L ht hz (zd:=.held z) (zp:=[]) rfl hkey;have h3:=h2 x kl hkey;rw [hrun];simp only [Ll,Option.some.injEq,Prod.mk.injEq] at hv;cases e:M x with
 | none=>rw [e] at h3; rw [h3.2] at hv; injection hv.1 with h4; rw [h4,h3.1]; rfl
 | some u=>rw [e] at h3; rw [h3.2] at hv; injection hv.1 with h4; rw [h4,h3.1]; rfl
theorem aD.store [DecidableEq K] {t e:TypeId} (h:aD enc P k w b n M) (L:Keyed P k) (hinj:∀ x y,enc x=enc y→x=y) (ht:P.underlying t=some (.map k e)) (hn:n < maxLen) {x:K} {kl:Lit} (hkey:keyOf P k (enc x)=some kl) (v:Value) :
  ∃ w',(Instr.mapUpdate t (.map (some b)) (enc x) v).run P w=.ok () w'∧aD enc P k w' b (n + 1) (ji M x (some v))∧w.grownBy w' (some b):=by
 obtain ⟨D,h1,h2⟩:=h;obtain ⟨w',hrun,h3,h4⟩:=h1.update L ht hn hkey (val:=v) (d:=.held v) (ps:=[]) rfl;refine ⟨w',hrun,⟨D.put kl (.held v),h3,fun y ky hy=>?_⟩,h4⟩;by_cases e:y=x
 ·subst e;obtain rfl:ky=kl:=by rw [hkey] at hy; injection hy with hy; exact hy.symm
  rw [dx];exact ⟨has_put_same h1.isMap (L.key hkey) _,fun z=>atKey_put_same h1.isMap (L.key hkey) _ z⟩
 ·have hne:ky ≠ kl:=fun e2=>e (hinj _ _ (L.inj (by rw [e2] at hy; exact hy) hkey));rw [bn e];have h5:=h2 y ky hy;cases e3:M y with
  | none=>rw [e3] at h5; exact ⟨by rw [has_put_other hne]; exact h5.1,fun z=>by rw [atKey_put_other hne]; exact h5.2 z⟩
  | some u=>rw [e3] at h5; exact ⟨by rw [has_put_other hne]; exact h5.1,fun z=>by rw [atKey_put_other hne]; exact h5.2 z⟩
end
section
variable {K:Type} {enc:K→Value} {P:Program} (w:World) {ops:Array Oper} {rest:List Oper} {o:Oper} {a:Act} {Q:Exit→Act→World→Prop}
theorem iy (hg:o.guard=none) (m x:Operand) (t:TypeId) (hop:o.op=Op.lookup t m x false) (k e:TypeId) (L:Keyed P k) (ht:P.underlying t=some (.map k e)) {z:Value} (hz:(zeroValue e).run P w=.ok z w) (b n:Nat) (M:K→Option Value)
  (hm:a.eval m=.map (some b)) (hV:aD enc P k w b n M) (y:K) (kl:Lit) (hx:a.eval x=enc y) (hkey:keyOf P k (enc y)=some kl)
  (hK:wpList P ops Q rest (a.put o.dst ((M y).getD z)) w):wpList P ops Q (o::rest) a w:=by
 refine wpList_plain hg fun K' hK'=>?_;have hrun:=hV.look L ht hz hkey;unfold Oper.wp;simp [execOp,hop,hm,hx,hrun,Result.andThen];exact hK' _ _ hK
theorem df (hg:o.guard=none) (m x:Operand) (t:TypeId) (hop:o.op=Op.lookup t m x true) (k e:TypeId) (L:Keyed P k) (ht:P.underlying t=some (.map k e)) {z:Value} (hz:(zeroValue e).run P w=.ok z w) (b n:Nat) (M:K→Option Value)
  (hm:a.eval m=.map (some b)) (hV:aD enc P k w b n M) (y:K) (kl:Lit) (hx:a.eval x=enc y) (hkey:keyOf P k (enc y)=some kl)
  (hK:wpList P ops Q rest (a.put o.dst (.tuple #[(M y).getD z,.bool (M y).isSome])) w):wpList P ops Q (o::rest) a w:=by
 refine wpList_plain hg fun K' hK'=>?_;have hrun:=hV.look_ok L ht hz hkey;unfold Oper.wp;simp [execOp,hop,hm,hx,hrun,Result.andThen];exact hK' _ _ hK
theorem kw [DecidableEq K] (hg:o.guard=none) (m x v:Operand) (t:TypeId) (hop:o.op=Op.mapUpdate t m x v) (k e:TypeId) (L:Keyed P k) (hinj:∀ x y,enc x=enc y→x=y) (ht:P.underlying t=some (.map k e)) (b n:Nat) (M:K→Option Value)
  (hm:a.eval m=.map (some b)) (hV:aD enc P k w b n M) (hn:n < maxLen) (y:K) (kl:Lit) (hx:a.eval x=enc y) (hkey:keyOf P k (enc y)=some kl) (u:Value) (hv:a.eval v=u)
  (hK:∀ w',aD enc P k w' b (n + 1) (ji M y (some u))→w.grownBy w' (some b)→wpList P ops Q rest (a.put o.dst undef) w'):wpList P ops Q (o::rest) a w:=by
 refine wpList_plain hg fun K' hK'=>?_;obtain ⟨w',hrun,r1,r2⟩:=hV.store L hinj ht hn hkey u;unfold Oper.wp;simp [execOp,hop,hm,hx,hv,hrun,Result.andThen];exact hK' _ _ (hK w' r1 r2)
end
def bz (k:ByteArray × ByteArray):Value:=.agg #[.string k.1,.string k.2]
theorem mI (x y:ByteArray × ByteArray) (h:bz x=bz y):x=y:=by
 unfold bz at h;injection h with h;have h1:=congrArg Array.toList h;simp at h1;exact Prod.ext h1.1 h1.2
theorem wJ:laidOutB prog=true:=by kernel_rfl
theorem JD:(172:TypeId) < prog.types.size:=of_decide_eq_true (by kernel_rfl)
theorem Lm:(match prog.underlying 172 with | some (.array _ _) | some (.struct _)=>true | _=>false)=true:=by rw [underlying172]
set_option maxRecDepth 100000 in
theorem AP:WideMaps.KeyLaw prog 172:=deep_law_laid wJ (m:=2) (by omega) JD (by kernel_rfl) Lm
theorem gM:Keyed prog 172:=Keyed.of_law AP
theorem Lp:prog.keyType 172=true:=by kernel_rfl
theorem Cr:prog.cellsOf 172=2:=by kernel_rfl
theorem strCells:prog.cellsOf 9=1:=by kernel_rfl
theorem Ha:∃ n,prog.types.size=n + 1:=Nat.exists_eq_succ_of_ne_zero (Nat.ne_of_gt (Nat.lt_of_le_of_lt (Nat.zero_le _) JD))
theorem iA (k:ByteArray × ByteArray) (h1:k.1.size≤maxLen) (h2:k.2.size≤maxLen):∃ kl,keyOf prog 172 (bz k)=some kl:=by
 obtain ⟨n,hn⟩:=Ha;refine ⟨.string (keyBytes [.string k.1.data.toList,.string k.2.data.toList]),?_⟩;unfold keyOf;rw [underlying172];simp only [Lp,bz,Value.formed,underlying172,Cr,hn,Value.cells];simp [Program.keyLits,underlying172,underlying9,Cr,strCells,h1,h2]
theorem ER.new.mono {B B':Nat} {r:ER} (h:r.new B) (hB:B'≤B):r.new B':=by
 obtain ⟨gA,gK,e1,e2,h1,h2,h3⟩:=h;exact ⟨gA,gK,e1,e2,by omega,by omega,h3⟩
structure Rl where
 name:ByteArray
 expr:List Ex
structure RR where
 name:ByteArray
 rows:List ER
 ad:Option Addr
 cap:Nat
def RR.p (r:RR):Rl:=⟨r.name,ag r.rows⟩
def RR.val (r:RR):Value:=.agg #[.string r.name,.slice r.ad r.rows.length r.cap]
def RR.ok (w:World) (r:RR):Prop:=dZ w r.ad r.rows
def RR.fits (r:RR):Prop:=r.name.size≤maxLen∧r.rows.length≤maxLen∧∀ q ∈ r.rows,q.e.fits
def RR.light (r:RR):Prop:=r.rows.length≤1048576∧∀ q ∈ r.rows,q.e.light
def RR.caps (r:RR):Prop:=r.rows.length≤r.cap∧∀ q ∈ r.rows,q.e.allow.length≤q.capA
def RR.new (B:Nat) (r:RR):Prop:=(∃ g:Nat,r.ad=some ⟨g,0,none⟩∧B < g)∧∀ q ∈ r.rows,q.new B
theorem RR.ok.below {w w':World} {r:RR} (h:r.ok w) (hB:Below w.heap.size w w'):r.ok w':=dZ.below h hB
def AtR (w:World) (b off:Nat) (r:RR):Prop:=w.cell? ⟨b,off,none⟩=some (.string r.name)∧w.cell? ⟨b,off + 1,none⟩=some (.slice r.ad r.rows.length r.cap)
theorem AtR.same {w w':World} {b off:Nat} {r:RR} (h:AtR w b off r) (hc:∀ o,w'.cell? ⟨b,o,none⟩=w.cell? ⟨b,o,none⟩):AtR w' b off r:=⟨(hc _).trans h.1,(hc _).trans h.2⟩
theorem AtR.later {w w':World} {b off:Nat} {r:RR} (h:AtR w b off r) (hb:b < w.heap.size) (hB:Below w.heap.size w w'):AtR w' b off r:=h.same fun o=>hB.cell (p:=⟨b,o,none⟩) hb
def qj (w:World) (ad:Option Addr) (rs:List RR):Prop:=rs=[] ∨ ∃ b off,ad=some ⟨b,off,none⟩∧b < w.heap.size∧(∀ (i:Nat) (h:i < rs.length),AtR w b (off + i * 2) rs[i])∧∀ r ∈ rs,r.ok w
theorem qj.below {w w':World} {ad:Option Addr} {rs:List RR} (h:qj w ad rs) (hB:Below w.heap.size w w'):qj w' ad rs:=by
 rcases h with h | ⟨b,off,e,hb,hr,hk⟩
 ·exact .inl h
 ·exact .inr ⟨b,off,e,Nat.lt_of_lt_of_le hb hB.size,fun i hi=>(hr i hi).same fun o=>hB.cell (p:=⟨b,o,none⟩) hb,fun r hr=>(hk r hr).below hB⟩
def di (rs:List RR):List Rl:=rs.map RR.p
theorem fK (rs:List RR):(di rs).length=rs.length:=by simp [di]
theorem RR.ok.set {w:World} {r:RR} {g o:Nat} {v:Value} (h:r.ok w) (hn:r.new g):r.ok (w.setCell ⟨g,o,none⟩ v):=by
 obtain ⟨⟨gE,e1,h1⟩,h2⟩:=hn;rcases h with h | ⟨b,off,e,hb,hr,hk⟩
 ·exact .inl h
 ·refine .inr ⟨b,off,e,by simpa using hb,fun i hi=>(hr i hi).same fun o=>eB ?_,fun q hq=>(hk q hq).set (h2 q hq)⟩;rw [e1] at e; injection e with e; injection e with e3 e4; omega
theorem RR.new.mono {B B':Nat} {r:RR} (h:r.new B) (hB:B'≤B):r.new B':=by
 obtain ⟨⟨g,e,hg⟩,h2⟩:=h;exact ⟨⟨g,e,by omega⟩,fun q hq=>(h2 q hq).mono hB⟩
structure Ty where
 name:ByteArray
 rels:List Rl
structure TR where
 name:ByteArray
 rows:List RR
 ad:Option Addr
 cap:Nat
def TR.p (r:TR):Ty:=⟨r.name,di r.rows⟩
def TR.val (r:TR):Value:=.agg #[.string r.name,.slice r.ad r.rows.length r.cap]
def TR.ok (w:World) (r:TR):Prop:=qj w r.ad r.rows
def TR.fits (r:TR):Prop:=r.name.size≤maxLen∧r.rows.length≤maxLen∧∀ q ∈ r.rows,q.fits
def TR.light (r:TR):Prop:=r.rows.length≤1048576∧∀ q ∈ r.rows,q.light
def TR.caps (r:TR):Prop:=r.rows.length≤r.cap∧∀ q ∈ r.rows,q.caps
def TR.new (B:Nat) (r:TR):Prop:=(∃ g:Nat,r.ad=some ⟨g,0,none⟩∧B < g)∧∀ q ∈ r.rows,q.new B
theorem TR.ok.below {w w':World} {r:TR} (h:r.ok w) (hB:Below w.heap.size w w'):r.ok w':=qj.below h hB
def MG (w:World) (b off:Nat) (r:TR):Prop:=w.cell? ⟨b,off,none⟩=some (.string r.name)∧w.cell? ⟨b,off + 1,none⟩=some (.slice r.ad r.rows.length r.cap)
theorem MG.same {w w':World} {b off:Nat} {r:TR} (h:MG w b off r) (hc:∀ o,w'.cell? ⟨b,o,none⟩=w.cell? ⟨b,o,none⟩):MG w' b off r:=⟨(hc _).trans h.1,(hc _).trans h.2⟩
theorem MG.later {w w':World} {b off:Nat} {r:TR} (h:MG w b off r) (hb:b < w.heap.size) (hB:Below w.heap.size w w'):MG w' b off r:=h.same fun o=>hB.cell (p:=⟨b,o,none⟩) hb
def fo (w:World) (ad:Option Addr) (rs:List TR):Prop:=rs=[] ∨ ∃ b off,ad=some ⟨b,off,none⟩∧b < w.heap.size∧(∀ (i:Nat) (h:i < rs.length),MG w b (off + i * 2) rs[i])∧∀ r ∈ rs,r.ok w
theorem fo.below {w w':World} {ad:Option Addr} {rs:List TR} (h:fo w ad rs) (hB:Below w.heap.size w w'):fo w' ad rs:=by
 rcases h with h | ⟨b,off,e,hb,hr,hk⟩
 ·exact .inl h
 ·exact .inr ⟨b,off,e,Nat.lt_of_lt_of_le hb hB.size,fun i hi=>(hr i hi).same fun o=>hB.cell (p:=⟨b,o,none⟩) hb,fun r hr=>(hk r hr).below hB⟩
def af (rs:List TR):List Ty:=rs.map TR.p
theorem fB (rs:List TR):(af rs).length=rs.length:=by simp [af]
theorem TR.ok.set {w:World} {r:TR} {g o:Nat} {v:Value} (h:r.ok w) (hn:r.new g):r.ok (w.setCell ⟨g,o,none⟩ v):=by
 obtain ⟨⟨gE,e1,h1⟩,h2⟩:=hn;rcases h with h | ⟨b,off,e,hb,hr,hk⟩
 ·exact .inl h
 ·refine .inr ⟨b,off,e,by simpa using hb,fun i hi=>(hr i hi).same fun o=>eB ?_,fun q hq=>(hk q hq).set (h2 q hq)⟩;rw [e1] at e; injection e with e; injection e with e3 e4; omega
theorem TR.new.mono {B B':Nat} {r:TR} (h:r.new B) (hB:B'≤B):r.new B':=by
 obtain ⟨⟨g,e,hg⟩,h2⟩:=h;exact ⟨⟨g,e,by omega⟩,fun q hq=>(h2 q hq).mono hB⟩
def iH:List Rl→ByteArray→Option (List Ex)
 | [],_=>none
 | r::rs,n=>if r.name.toList == n.toList then some r.expr else iH rs n
def eO:List Ty→ByteArray→ByteArray→Option (List Ex)
 | [],_,_=>none
 | t::ts,ty,n=>if t.name.toList == ty.toList then (iH t.rels n).or (eO ts ty n) else eO ts ty n
def jC:List Ty→ByteArray→Bool
 | [],_=>false
 | t::ts,ty=>(t.name.toList == ty.toList) || jC ts ty
theorem kK (rs:List TR) (k:Nat) (h:k < rs.length):af (rs.drop k)=⟨rs[k].name,di rs[k].rows⟩::af (rs.drop (k + 1)):=by
 rw [List.drop_eq_getElem_cons h]; rfl
theorem Cs (rs:List RR) (k:Nat) (h:k < rs.length):di (rs.drop k)=⟨rs[k].name,ag rs[k].rows⟩::di (rs.drop (k + 1)):=by
 rw [List.drop_eq_getElem_cons h]; rfl
theorem Eo (ad:Option Addr) (cap:Nat) (rs:List TR) (typ:ByteArray) (w:World) (hlen:rs.length≤1048576) (hs:fo w ad rs) :
  Calls prog 152 #[.slice ad rs.length cap,.string typ] w fun e w'=>e=.returned (.bool (jC (af rs) typ))∧w'=w:=by
 go_enter func152,ntmps152;go_wp2;go_loopw [5] (fun i wr=>∃ k:Nat,k≤rs.length∧i=.int .i64 k∧Hid (jC (af (rs.drop k)) typ=jC (af rs) typ)∧wr=w) (fun i _=>rs.length - (intOf i).toNat);case atStart=>exact ⟨0,Nat.zero_le _,rfl,rfl,rfl⟩
 case round =>
  obtain ⟨k,hk,rfl,HP,rfl⟩:=hrel;by_cases hlt:k < rs.length
  ·rcases hs with rfl | ⟨b,off,rfl,hb,hr,hok⟩
   ·simp at hlt
   obtain ⟨t0,t1⟩:=hr k hlt;have hk1:=bq k;have hk2:(k:Int) < (rs.length:Int):=by omega
   clear hr hok;cases hq:(rs[k].name.toList == typ.toList) with
   | true =>
    have HN:Hid (jC (af rs) typ=true):=by show _=_; rw [← HP.out,kK _ _ hlt]; simp [jC,hq]
    go_wp2;go_ret;exact ⟨by rw [HN.out]; rfl,rfl⟩
   | false =>
    have HP2:Hid (jC (af (rs.drop (k + 1))) typ=jC (af rs) typ):=by show _=_; rw [← HP.out,kK _ _ hlt]; simp [jC,hq]
    go_wp2;go_roundw;case rel=>exact ⟨k + 1,by omega,by go_num,HP2,by first | rfl | trivial⟩
    case measure=>simp [intOf] <;> omega
  ·have HN:Hid (jC (af rs) typ=false):=by show _=_; rw [← HP.out,List.drop_of_length_le (by omega)]; rfl
   go_wp2;go_ret;exact ⟨by rw [HN.out]; rfl,rfl⟩
def l8 (rs:List TR) (ad:Option Addr) (rows:List ER):Prop:=rows=[] ∨ ∃ t ∈ rs,∃ q ∈ t.rows,rows=q.rows∧ad=q.ad
theorem qj.mem {w:World} {ad:Option Addr} {rs:List RR} (h:qj w ad rs) {q:RR} (hq:q ∈ rs):q.ok w:=by
 rcases h with rfl | ⟨b,off,e,hb,hr,hk⟩
 ·cases hq
 ·exact hk q hq
theorem fo.mem {w:World} {ad:Option Addr} {rs:List TR} (h:fo w ad rs) {q:TR} (hq:q ∈ rs):q.ok w:=by
 rcases h with rfl | ⟨b,off,e,hb,hr,hk⟩
 ·cases hq
 ·exact hk q hq
theorem l8.sl {rs:List TR} {ad ad0:Option Addr} {rows:List ER} {w:World} (h:l8 rs ad rows) (hs:fo w ad0 rs):dZ w ad rows:=by
 rcases h with rfl | ⟨t,ht,q,hq,rfl,rfl⟩
 ·exact .inl rfl
 ·exact qj.mem (hs.mem ht) hq
theorem gP (ad:Option Addr) (cap:Nat) (rs:List TR) (typ rel:ByteArray) (w:World) (hlen:rs.length≤1048576) (hs:fo w ad rs) (hl:∀ r ∈ rs,r.light) :
  Calls prog 84 #[.slice ad rs.length cap,.string typ,.string rel] w fun e w'=>(∃ (rows:List ER) (ad':Option Addr) (cap':Nat),e=.returned (.slice ad' rows.length cap')∧ag rows=(eO (af rs) typ rel).getD []∧dZ w ad' rows∧l8 rs ad' rows)∧w'=w:=by
 have HS:Hid (fo w ad rs):=hs;have HL:Hid (∀ r ∈ rs,r.light):=hl;clear hs hl;go_enter func84,ntmps84;go_wp2;go_loopw [7] (fun i wr=>∃ k:Nat,k≤rs.length∧i=.int .i64 k∧Hid (eO (af (rs.drop k)) typ rel=eO (af rs) typ rel)∧wr=w) (fun i _=>rs.length - (intOf i).toNat);case atStart=>exact ⟨0,Nat.zero_le _,rfl,rfl,rfl⟩
 case round =>
  obtain ⟨k,hk,rfl,HP,rfl⟩:=hrel;by_cases hlt:k < rs.length
  ·rcases HS.out with rfl | ⟨b,off,rfl,hb,hr,hok⟩
   ·simp at hlt
   obtain ⟨t0,t1⟩:=hr k hlt;have ok:=hok rs[k] (List.getElem_mem hlt);have lg:=(HL.out rs[k] (List.getElem_mem hlt)).1;have HOK:Hid (rs[k].ok wr):=ok;have hk1:=bq k;have hk2:(k:Int) < (rs.length:Int):=by omega
   clear hr hok ok;cases hq:(rs[k].name.toList == typ.toList) with
   | false =>
    have HP2:Hid (eO (af (rs.drop (k + 1))) typ rel=eO (af rs) typ rel):=by show _=_; rw [← HP.out,kK _ _ hlt]; simp [eO,hq]
    go_wp2_with fail;go_loopw [8] (fun i w2=>i=.int .i64 0∧w2=wr) (fun i _=>(intOf i).toNat);case atStart=>exact ⟨rfl,rfl⟩
    case round =>
     obtain ⟨rfl,rfl⟩:=hrel;go_wp2;go_roundw;case rel=>exact ⟨k + 1,by omega,by go_num,HP2,by first | rfl | trivial⟩
     case measure=>simp [intOf] <;> omega
   | true =>
    go_wp2_with fail;go_loopw [8] (fun i w2=>∃ j:Nat,j≤rs[k].rows.length∧i=.int .i64 j∧Hid (iH (di (rs[k].rows.drop j)) rel=iH (di rs[k].rows) rel)∧w2=wr) (fun i _=>rs[k].rows.length - (intOf i).toNat);case atStart=>exact ⟨0,Nat.zero_le _,rfl,rfl,rfl⟩
    case round =>
     obtain ⟨j,hj,rfl,HI,rfl⟩:=hrel;by_cases hjl:j < rs[k].rows.length
     ·rcases HOK.out with hnil | ⟨b2,off2,had,hb2,hr2,hok2⟩
      ·rw [hnil] at hjl; simp at hjl
      have t1':=t1;rw [had] at t1';obtain ⟨q0,q1⟩:=hr2 j hjl;have HOQ:Hid (rs[k].rows[j].ok _):=hok2 rs[k].rows[j] (List.getElem_mem hjl);have hj1:=bq j;have hj2:(j:Int) < (rs[k].rows.length:Int):=by omega
      clear hr2 hok2 had t1;cases hn:(rs[k].rows[j].name.toList == rel.toList) with
      | true =>
       have HN:Hid (ag rs[k].rows[j].rows=(eO (af rs) typ rel).getD []):=by
        have h1:iH (di rs[k].rows) rel=some (ag rs[k].rows[j].rows):=by rw [← HI.out,Cs _ _ hjl]; simp [iH,hn]
        show _=_;rw [← HP.out,kK _ _ hlt];simp [eO,hq,h1]
       have HFS:Hid (l8 rs rs[k].rows[j].ad rs[k].rows[j].rows):=.inr ⟨rs[k],List.getElem_mem hlt,rs[k].rows[j],List.getElem_mem hjl,rfl,rfl⟩;go_wp2;go_ret;exact ⟨⟨rs[k].rows[j].rows,_,_,rfl,HN.out,HOQ.out,HFS.out⟩,rfl⟩
      | false =>
       have HI2:Hid (iH (di (rs[k].rows.drop (j + 1))) rel=iH (di rs[k].rows) rel):=by show _=_; rw [← HI.out,Cs _ _ hjl]; simp [iH,hn]
       go_wp2;go_roundw;case rel=>exact ⟨j + 1,by omega,by go_num,HI2,by first | rfl | trivial⟩
       case measure=>simp [intOf] <;> omega
     ·have HP2:Hid (eO (af (rs.drop (k + 1))) typ rel=eO (af rs) typ rel):=by
       have h1:iH (di rs[k].rows) rel=none:=by rw [← HI.out,List.drop_of_length_le (by omega)]; rfl
       show _=_;rw [← HP.out,kK _ _ hlt];simp [eO,hq,h1]
      go_wp2;go_roundw;case rel=>exact ⟨k + 1,by omega,by go_num,HP2,by first | rfl | trivial⟩
      case measure=>simp [intOf] <;> omega
  ·have HN:Hid (ag []=(eO (af rs) typ rel).getD []):=by show _=_; rw [← HP.out,List.drop_of_length_le (by omega)]; rfl
   go_wp2;go_ret;exact ⟨⟨[],none,0,rfl,HN.out,.inl rfl,.inl rfl⟩,rfl⟩
def aL:List Ex→List Al
 | []=>[]
 | e::es=>if e.kind=1 then e.allow else aL es
theorem eX (rs:List ER) (k:Nat) (h:k < rs.length):ag (rs.drop k)=rs[k].e::ag (rs.drop (k + 1)):=by
 rw [List.drop_eq_getElem_cons h]; rfl
def JE (rs:List ER) (ad:Option Addr) (xs:List Al):Prop:=xs=[] ∨ ∃ r ∈ rs,xs=r.e.allow∧ad=r.adA
theorem dZ.mem {w:World} {ad:Option Addr} {rs:List ER} (h:dZ w ad rs) {q:ER} (hq:q ∈ rs):q.ok w:=by
 rcases h with rfl | ⟨b,off,e,hb,hr,hk⟩
 ·cases hq
 ·exact hk q hq
theorem JE.sl {rs:List ER} {ad ad0:Option Addr} {xs:List Al} {w:World} (h:JE rs ad xs) (hs:dZ w ad0 rs):gu w ad xs:=by
 rcases h with rfl | ⟨r,hr,rfl,rfl⟩
 ·exact .inl rfl
 ·exact (hs.mem hr).1
theorem tV (ad:Option Addr) (cap:Nat) (rs:List ER) (w:World) (hlen:rs.length≤1048576) (hs:dZ w ad rs) :
  Calls prog 114 #[.slice ad rs.length cap] w fun e w'=>(∃ (ad':Option Addr) (cap':Nat),e=.returned (.slice ad' (aL (ag rs)).length cap')∧gu w ad' (aL (ag rs))∧JE rs ad' (aL (ag rs)))∧w'=w:=by
 have HS:Hid (dZ w ad rs):=hs;clear hs;go_enter func114,ntmps114;go_wp2;go_loopw [3] (fun i wr=>∃ k:Nat,k≤rs.length∧i=.int .i64 k∧Hid (aL (ag (rs.drop k))=aL (ag rs))∧wr=w) (fun i _=>rs.length - (intOf i).toNat);case atStart=>exact ⟨0,Nat.zero_le _,rfl,rfl,rfl⟩
 case round =>
  obtain ⟨k,hk,rfl,HP,rfl⟩:=hrel;by_cases hlt:k < rs.length
  ·rcases HS.out with rfl | ⟨b,off,rfl,hb,hr,hok⟩
   ·simp at hlt
   obtain ⟨t0,t1,t2,t3,t4⟩:=hr k hlt;have HOK:Hid (rs[k].ok _):=hok rs[k] (List.getElem_mem hlt);have hk1:=bq k;have hk2:(k:Int) < (rs.length:Int):=by omega
   clear hr hok;by_cases hq:rs[k].e.kind=1
   ·have HN:Hid (aL (ag rs)=rs[k].e.allow):=by show _=_; rw [← HP.out,eX _ _ hlt]; simp [aL,hq]
    go_wp2;go_ret;exact ⟨⟨rs[k].adA,rs[k].capA,by rw [HN.out]; rfl,by rw [HN.out]; exact HOK.out.1,.inr ⟨rs[k],List.getElem_mem hlt,HN.out,rfl⟩⟩,rfl⟩
   ·have HP2:Hid (aL (ag (rs.drop (k + 1)))=aL (ag rs)):=by show _=_; rw [← HP.out,eX _ _ hlt]; simp [aL,hq]
    have hqb:(rs[k].e.kind == 1)=false:=by simpa using hq
    go_wp2;go_roundw;case rel=>exact ⟨k + 1,by omega,by go_num,HP2,by first | rfl | trivial⟩
    case measure=>simp [intOf] <;> omega
  ·have HN:Hid (aL (ag rs)=[]):=by show _=_; rw [← HP.out,List.drop_of_length_le (by omega)]; rfl
   go_wp2;go_ret;exact ⟨⟨none,0,by rw [HN.out]; rfl,by rw [HN.out]; exact .inl rfl,.inl HN.out⟩,rfl⟩
def aV:List Ex→Bool
 | [e]=>decide (e.kind=1) && e.allow.all fun a=>a.s.toList.isEmpty
 | _=>false
def wK (xs:List Al) (k:Nat):Bool:=(xs.take k).all fun a=>a.s.toList.isEmpty
theorem Ep (xs:List Al) (k:Nat) (h:k < xs.length):wK xs (k + 1)=(wK xs k && xs[k].s.toList.isEmpty):=by
 unfold wK; rw [List.take_succ_eq_append_getElem h,List.all_append]; simp
theorem Hd (xs:List Al) (k:Nat) (h:k < xs.length) (hb:xs[k].s.toList.isEmpty=false):(xs.all fun a=>a.s.toList.isEmpty)=false:=by
 rw [Bool.eq_false_iff]; intro h2; rw [List.all_eq_true] at h2; have:=h2 xs[k] (List.getElem_mem h); rw [hb] at this; cases this
theorem AQ (ad:Option Addr) (cap:Nat) (rs:List ER) (w:World) (hlen:rs.length≤1048576) (hs:dZ w ad rs) (hl:∀ r ∈ rs,r.e.light) :
  Calls prog 153 #[.slice ad rs.length cap] w fun e w'=>e=.returned (.bool (aV (ag rs)))∧w'=w:=by
 by_cases h1:rs.length=1
 ·obtain ⟨r,rfl⟩:∃ r,rs=[r]:=List.length_eq_one_iff.1 h1;rcases hs with h | ⟨b,off,rfl,hb,hr,hok⟩
  ·cases h
  obtain ⟨t0,t1,t2,t3,t4⟩:=hr 0 (by simp);simp only [Nat.zero_mul,Nat.add_zero,List.getElem_cons_zero] at t0 t1 t2 t3 t4;have HOK:Hid (r.ok w):=hok r (by simp);obtain ⟨lg,-⟩:=hl r (by simp);clear hr hok h1;simp only [List.length_cons,List.length_nil,Nat.zero_add];by_cases hq:r.e.kind=1
  ·have HD:Hid (aV (ag [r])=r.e.allow.all fun a=>a.s.toList.isEmpty):=by show _=_; simp [aV,ag,hq]
   go_enter func153,ntmps153;go_wp2;go_loopw [3] (fun i wr=>∃ k:Nat,k≤r.e.allow.length∧i=.int .i64 k∧Hid (wK r.e.allow k=true)∧wr=w) (fun i _=>r.e.allow.length - (intOf i).toNat);case atStart=>exact ⟨0,Nat.zero_le _,rfl,(by show _=_; simp [wK]),rfl⟩
   case round =>
    obtain ⟨k,hk,rfl,HP,rfl⟩:=hrel;by_cases hlt:k < r.e.allow.length
    ·rcases HOK.out.1 with hnil | ⟨ba,offa,hadA,hba,hra⟩
     ·rw [hnil] at hlt; simp at hlt
     have t1':=t1;rw [hadA] at t1';obtain ⟨q0,q1⟩:=hra k hlt;have hk1:=bq k;have hk2:(k:Int) < (r.e.allow.length:Int):=by omega
     clear hra hadA t1;cases he:r.e.allow[k].s.toList.isEmpty with
     | true =>
      have HP2:Hid (wK r.e.allow (k + 1)=true):=by show _=_; rw [Ep _ _ hlt,HP.out,he]; rfl
      go_wp2;go_roundw;case rel=>exact ⟨k + 1,by omega,by go_num,HP2,by first | rfl | trivial⟩
      case measure=>simp [intOf] <;> omega
     | false =>
      have HN:Hid (aV (ag [r])=false):=by show _=_; rw [HD.out]; exact Hd _ k hlt he
      go_wp2;go_ret;exact ⟨by rw [HN.out]; rfl,rfl⟩
    ·have HN:Hid (aV (ag [r])=true):=by
      show _=_;rw [HD.out];have:=HP.out;unfold wK at this;rwa [List.take_of_length_le (by omega)] at this
     go_wp2;go_ret;exact ⟨by rw [HN.out]; rfl,rfl⟩
  ·have HN:Hid (aV (ag [r])=false):=by show _=_; simp [aV,ag,hq]
   have hqb:(r.e.kind != 1)=true:=by simpa using hq
   go_enter func153,ntmps153;go_wp2;go_ret;exact ⟨by rw [HN.out]; rfl,rfl⟩
 ·have HN:Hid (aV (ag rs)=false):=by
   show _=_
   match rs,h1 with
   | [],_=>rfl
   | [r],h=>exact absurd rfl h
   | a::b::r,_=>rfl
  have h1':((rs.length:Int) != 1)=true:=by simp; omega
  go_enter func153,ntmps153;go_wp2;go_ret;exact ⟨by rw [HN.out]; rfl,rfl⟩
end Go.Proofs.YtdmniljjnaebbaaGreatDoor
