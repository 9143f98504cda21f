/- A region that draws its order, by what holds of what has come up, of the values and of the world together; the last operation waits for all by way of others. -/
import Derived.Test.YtdaoiceeidoehaaGreatJ9
import Derived.Deep.DrawnRows
open Go.Proofs.Tryz
set_option maxHeartbeats 80000000
namespace Go.Proofs.YtdaoiceeidoehaaGreat
open Go.RowKit
section
variable {P:Program} {ops:Array Oper} {Q:Exit→Act→World→Prop}
theorem jm {id:Nat} {a:Act} {w:World} (L:Nat) (f0:Nat→Value) (F:(Nat→Value)→Act) (I:(Nat→Bool)→(Nat→Value)→World→Prop)
  (hm:P.follows .mixedOrders=true) (hsz:ops.size=L + 1) (TS:Cm ops=true)
  (hcl:∀ o,ops[L]?=some o→∀ (l:Nat→Bool) f w',I l f w'→(∀ e ∈ o.after,Region.binds .any e=true→l e.on=true)→∀ k,k < L→l k=true)
  (h0:a=F f0) (hI0:I (fun _=>false) f0 w.drew)
  (hstep:∀ i,i < L→∀ o,ops[i]?=some o→∀ (l:Nat→Bool) f w',l i=false→I l f w'→(∀ e ∈ o.after,Region.binds .any e=true→l e.on=true) →
   wpOp P ops Q i (fun a' w''=>∃ v,a'=F (upd f i v)∧I (fun k=>if k=i then true else l k) (upd f i v) w'') (F f) w')
  (hfin:∀ o,ops[L]?=some o→∀ (l:Nat→Bool) f w',(∀ k,k < L→l k=true)→I l f w'→wpOp P ops Q L (fun a' w''=>Q .normal a' w'') (F f) w') :
  (Code.region id ops true).wp P Q a w:=by
 refine ig (fun listed a' w'=>listed.size=L + 1∧((listed.getD L false=false∧∃ f,a'=F f∧I (fun k=>listed.getD k false) f w') ∨ ((∀ j,j≤L→listed.getD j true=true)∧Q .normal a' w'))) hm ?_ ?_ ?_
 ·refine ⟨by simpa using hsz,Or.inl ⟨?_,_,h0,?_⟩⟩
  ·rw [Sn,Array.getElem?_replicate]; split <;> rfl
  ·have:(fun k=>(Array.replicate ops.size false).getD k false)=fun _=>false:=funext fun k=>by rw [Sn,Array.getElem?_replicate]; split <;> rfl
   rw [this]; exact hI0
 ·rintro listed a' w' ⟨hs,h⟩ i hi;obtain ⟨hl,o,ho,hpre⟩:=mem_ready.1 hi;have hiL:i < L + 1:=by have:=(Array.getElem?_eq_some_iff.1 ho).1; omega
  rcases h with ⟨hn,f,rfl,hI⟩ | ⟨hall,-⟩
  ·by_cases e:i=L
   ·subst e;have hall:∀ k,k < i→listed.getD k false=true:=hcl o ho _ f w' hI (fun e he hb=>hpre e he hb);refine wpOp_mono (fun a'' w'' hq=>⟨by simpa using hs,Or.inr ⟨fun j hj=>?_,hq⟩⟩) (hfin o ho _ f w' hall hI);rw [kw (by simp; omega),dm _ _ _ (by omega)];by_cases e:j=i
    ·simp [e]
    ·rw [if_neg e]; exact hall j (by omega)
   ·refine wpOp_mono ?_ (hstep i (by omega) o ho _ f w' (by rw [← kw (by omega)]; exact hl) hI (fun e he hb=>hpre e he hb));rintro a'' w'' ⟨v,rfl,hI'⟩;refine ⟨by simpa using hs,Or.inl ⟨?_,_,rfl,?_⟩⟩
    ·rw [dm _ _ _ (by omega),if_neg (Ne.symm e)]; exact hn
    ·have:(fun k=>(listed.setIfInBounds i true).getD k false)=fun k=>if k=i then true else listed.getD k false:=funext fun k=>dm _ _ _ (by omega)
     rw [this]; exact hI'
  ·rw [hall i (by omega)] at hl; cases hl
 ·rintro listed a' w' ⟨hs,h⟩ hr;rcases h with ⟨hn,-⟩ | ⟨-,hq⟩
  ·have:=vv hr hsz (AO TS) hs L (by omega);rw [kw (by omega)] at this;rw [this] at hn; cases hn
  ·exact hq
end
end Go.Proofs.YtdaoiceeidoehaaGreat
namespace Go.Proofs.YtdaoiceeidoehaaGreat.G
set_option linter.unusedVariables false
open Go.ChangeShapes Go.WideShapes Go.ChangeAt Go.RowKit
structure WI (C:Nat→Value) (W:World) (CD:Value→World→Prop) (l:Nat→Bool) (f:Nat→Value) (w:World):Prop where
 val:∀ k,k≤9→k ≠ 7→l k=true→f k=C k
 seq:l 7=true→l 4=true∧l 6=true
 nin:l 9=true→l 8=true
 mid:(l 7=false∧Below W.heap.size W w) ∨ (l 7=true∧CD (f 7) w)
section
variable {C:Nat→Value} {W:World} {CD:Value→World→Prop} {l:Nat→Bool} {f:Nat→Value} {w:World}
theorem wi_start (W:World):WI C W CD (fun _=>false) f W.drew:=⟨fun _ _ _ h=>(by cases h),fun h=>(by cases h),fun h=>(by cases h),.inl ⟨rfl,(R3 _ _).drew⟩⟩
theorem WI.put (h:WI C W CD l f w) {i:Nat} (hi:i ≠ 7) (h9:i=9→l 8=true) {v:Value} (hv:v=C i):WI C W CD (fun k=>if k=i then true else l k) (upd f i v) w:=by
 refine ⟨fun k hk h7 hl=>?_,fun hl=>?_,fun hl=>?_,?_⟩
 ·by_cases e:k=i
  ·subst e; simp [upd,hv]
  ·simp only [if_neg e] at hl;simp only [upd,if_neg e]; exact h.val k hk h7 hl
 ·have hl':(if (7:Nat)=i then true else l 7)=true:=hl;rw [if_neg (Ne.symm hi)] at hl';have:=h.seq hl';constructor
  ·show (if (4:Nat)=i then true else l 4)=true; rw [this.1]; split <;> rfl
  ·show (if (6:Nat)=i then true else l 6)=true; rw [this.2]; split <;> rfl
 ·have hl':(if (9:Nat)=i then true else l 9)=true:=hl;show (if (8:Nat)=i then true else l 8)=true;by_cases e:(9:Nat)=i
  ·rw [h9 e.symm]; split <;> rfl
  ·rw [if_neg e] at hl'; rw [h.nin hl']; split <;> rfl
 ·have e7:(if (7:Nat)=i then true else l 7)=l 7:=if_neg (Ne.symm hi);have f7:upd f i v 7=f 7:=by simp only [upd]; rw [if_neg (Ne.symm hi)]
  rcases h.mid with ⟨h1,h2⟩ | ⟨h1,h2⟩
  ·exact .inl ⟨e7.trans h1,h2⟩
  ·exact .inr ⟨e7.trans h1,by rw [f7]; exact h2⟩
theorem WI.before (h:WI C W CD l f w) (hl:l 7=false):Below W.heap.size W w:=by
 rcases h.mid with ⟨_,h2⟩ | ⟨h1,_⟩
 ·exact h2
 ·rw [h1] at hl; cases hl
theorem WI.early (h:WI C W CD l f w) (hl:l 4=false ∨ l 6=false):Below W.heap.size W w:=by
 refine h.before ?_;cases h7:l 7 with
 | false=>rfl
 | true =>
  obtain ⟨h4,h6⟩:=h.seq h7;rcases hl with e | e
  ·rw [h4] at e; cases e
  ·rw [h6] at e; cases e
theorem WI.call (h:WI C W CD l f w) (h4:l 4=true) (h6:l 6=true) {v:Value} {w':World} (hc:CD v w'):WI C W CD (fun k=>if k=7 then true else l k) (upd f 7 v) w':=by
 refine ⟨fun k hk h7 hl=>?_,fun _=>⟨by simp [h4],by simp [h6]⟩,fun hl=>h.nin hl,.inr ⟨by simp,by simp only [upd,if_true]; exact hc⟩⟩;simp only [if_neg h7] at hl;simp only [upd,if_neg h7]; exact h.val k hk h7 hl
theorem WI.last (h:WI C W CD l f w) (hall:∀ k,k < 10→l k=true):(∀ k,k≤9→k ≠ 7→f k=C k)∧CD (f 7) w:=by
 refine ⟨fun k hk h7=>h.val k hk h7 (hall k (by omega)),?_⟩;rcases h.mid with ⟨h1,_⟩ | ⟨_,h2⟩
 ·rw [hall 7 (by omega)] at h1; cases h1
 ·exact h2
end
end Go.Proofs.YtdaoiceeidoehaaGreat.G
namespace Go.Proofs.YtdaoiceeidoehaaGreat
open Go.ChangeShapes Go.WideShapes Go.ChangeAt Go.RowKit
open Pl
theorem Jc:∃ i z,prog.info? 73=some i∧i.zero=some z∧i.size=6∧i.bytes=96:=by
 have h:(prog.info? 73).map (fun i=>(i.zero.isSome,i.size,i.bytes))=some (true,6,96):=by kernel_rfl
 cases hi:prog.info? 73 with
 | none=>rw [hi] at h; cases h
 | some i =>
  rw [hi] at h;simp at h;obtain ⟨z,hz⟩:=Option.isSome_iff_exists.mp h.1;exact ⟨i,z,rfl,hz,h.2.1,h.2.2⟩
structure Filling (w wr:World) (g:Nat) (ts:List Tp) (k:Nat):Prop where
 below:Below w.heap.size w wr
 ge:w.heap.size≤g
 lt:g < wr.heap.size
 done:∀ (i:Nat) (h:i < ts.length),i < k→Md wr g (0 + i * 6) ts[i]
 there:∀ j,j < ts.length * 6→(wr.cell? ⟨g,j,none⟩).isSome=true
 free:∀ j,wr.frozen? ⟨g,j,none⟩=false
theorem Filling.later {w wr w1:World} {g:Nat} {ts:List Tp} {k:Nat} (h:Filling w wr g ts k) (hb:Below wr.heap.size wr w1):Filling w w1 g ts k where
 below:=h.below.trans (hb.mono h.below.size)
 ge:=h.ge
 lt:=RZ h.lt hb.size
 done i hi hk:=(h.done i hi hk).same fun o=>hb.cell (p:=⟨g,o,none⟩) h.lt
 there j hj:=by rw [hb.cell (p:=⟨g,j,none⟩) h.lt]; exact h.there j hj
 free j:=by rw [hb.frozen (p:=⟨g,j,none⟩) h.lt]; exact h.free j
theorem Filling.put {w wr:World} {g:Nat} {ts:List Tp} {k:Nat} (h:Filling w wr g ts k) (hk:k < ts.length):Filling w (xR wr g (k * 6) ts[k]) g ts (k + 1) where
 below:=Gn h.below h.ge
 ge:=h.ge
 lt:=by rw [JX]; exact h.lt
 done i hi hik:=by
  by_cases e:i=k
  ·subst e;rw [Su];exact I6 _ (fun j hj=>h.there _ (by omega))
  ·obtain ⟨a0,a1,a2,a3,a4,a5⟩:=h.done i hi (by omega);refine ⟨?_,?_,?_,?_,?_,?_⟩ <;> (rw [Ea _ _ _ _ _ (by omega)]; assumption)
 there j hj:=by
  by_cases hin:j < k * 6 ∨ k * 6 + 6≤j
  ·rw [Ea _ _ _ _ _ hin]; exact h.there j hj
  ·obtain ⟨a0,a1,a2,a3,a4,a5⟩:=I6 (w:=wr) (g:=g) (o:=k * 6) ts[k] (fun j hj=>h.there _ (by omega));have hj6:j=k * 6 ∨ j=k * 6 + 1 ∨ j=k * 6 + 2 ∨ j=k * 6 + 3 ∨ j=k * 6 + 4 ∨ j=k * 6 + 5:=by omega
   rcases hj6 with e | e | e | e | e | e
   ·rw [e,a0]; rfl
   ·rw [e,a1]; rfl
   ·rw [e,a2]; rfl
   ·rw [e,a3]; rfl
   ·rw [e,a4]; rfl
   ·rw [e,a5]; rfl
 free j:=by rw [Eb]; exact h.free j
theorem rD {w w0:World} {ts:List Tp} {base:Nat} {e:TypeId} {xs:List Value} (h:w0.ownsRow base e 6 (.slice (some ⟨w.heap.size,0,none⟩) ts.length ts.length) ts.length xs) (hg:w.grownBy w0 none):Filling w w0 w.heap.size ts 0 where
 below:=(R3 _ _).grown hg (R4 _) (fun k hk=>by cases hk)
 ge:=R4 _
 lt:=(h.lt w.heap.size rfl).2
 done i hi hk:=absurd hk (SE _)
 there j hj:=by
  rw [h.cellAt j hj,R8 (by rw [h.1]; exact hj)]; rfl
 free j:=h.frozenAt j
theorem Cr (b off cap:Nat) (ts:List Tp) (w:World) (hlen:ts.length≤1048576) (hr:xQ w b off ts) (hb:b < w.heap.size) :
  Calls prog 12 #[.slice (some ⟨b,off,none⟩) ts.length cap] w fun e w'=>e=.returned (.slice (some ⟨w.heap.size,0,none⟩) ts.length ts.length)∧Filling w w' w.heap.size ts ts.length:=by
 obtain ⟨inf,z,hi,hz0,hz1,hz2⟩:=Jc;go_enter func12,ntmps12;go_wp2_with (at_make; refine wpList_make_full _ rfl _ _ 36 rfl w.heap.size 73 inf z 6 underlying36 hi hz0 hz1 .i64 .i64 _ _ ts.length rfl rfl rfl rfl (by rw [hz2]; omega) (by unfold maxLen; omega) (R4 _) ?_; intro w0 hown0 SY);have F0:Filling w w0 w.heap.size ts 0:=rD hown0 SY;clear hown0 SY hi hz0 hz1 hz2;go_loopw [4] (fun i wr=>∃ k:Nat,k≤ts.length∧i=.int .i64 k∧Filling w wr w.heap.size ts k) (fun i _=>ts.length - (intOf i).toNat);case atStart=>exact ⟨0,R6 _,rfl,F0⟩
 case round =>
  obtain ⟨k,hk,rfl,F⟩:=hrel;by_cases hlt:k < ts.length
  ·obtain ⟨t0,t1,t2,t3,t4,t5⟩:=(hr.below F.below hb) k hlt;go_wp2_with fail;refine (D7 _ _ _ _ _ _ _).mono ?_;rintro e w1 ⟨rfl,hb1⟩;have F1:=F.later hb1;have fz:=F1.free;obtain ⟨v0,u0⟩:=Option.isSome_iff_exists.mp (F1.there (k * 6) (by omega));obtain ⟨v1,u1⟩:=Option.isSome_iff_exists.mp (F1.there (k * 6 + 1) (by omega));obtain ⟨v2,u2⟩:=Option.isSome_iff_exists.mp (F1.there (k * 6 + 2) (by omega));obtain ⟨v3,u3⟩:=Option.isSome_iff_exists.mp (F1.there (k * 6 + 3) (by omega));obtain ⟨v4,u4⟩:=Option.isSome_iff_exists.mp (F1.there (k * 6 + 4) (by omega));obtain ⟨v5,u5⟩:=Option.isSome_iff_exists.mp (F1.there (k * 6 + 5) (by omega));have F2:=F1.put hlt;clear F F0 t0 t1 t2 t3 t4 t5 hb1;go_wp2;go_roundw;case rel=>exact ⟨k + 1,by omega,by go_num,F2⟩
   case measure=>simp [intOf]; omega
  ·obtain rfl:k=ts.length:=by omega
   go_wp2;go_ret;exact ⟨rfl,F⟩
theorem Cs (ad:Option Addr) (cap:Nat) (w:World) :
  Calls prog 12 #[.slice ad 0 cap] w fun e w'=>e=.returned (.slice (some ⟨w.heap.size,0,none⟩) 0 0)∧Filling w w' w.heap.size [] 0:=by
 obtain ⟨inf,z,hi,hz0,hz1,hz2⟩:=Jc;go_enter func12,ntmps12;go_wp2_with (at_make; refine wpList_make_full _ rfl _ _ 36 rfl w.heap.size 73 inf z 6 underlying36 hi hz0 hz1 .i64 .i64 _ _ 0 rfl rfl rfl rfl (by omega) (by unfold maxLen; omega) (R4 _) ?_; intro w0 hown0 SY);have F0:Filling w w0 w.heap.size [] 0:=rD (ts:=[]) hown0 SY;clear hown0 SY hi hz0 hz1 hz2;go_loopw [4] (fun i wr=>∃ k:Nat,k=0∧i=.int .i64 k∧Filling w wr w.heap.size [] 0) (fun i _=>(intOf i).toNat);case atStart=>exact ⟨0,rfl,rfl,F0⟩
 case round =>
  obtain ⟨k,rfl,rfl,F⟩:=hrel;go_wp2;go_ret;exact ⟨rfl,F⟩
theorem j3 (ad:Option Addr) (cap:Nat) (ts:List Tp) (w:World) (hlen:ts.length≤1048576) (hs:Sl w ad ts) :
  Calls prog 12 #[.slice ad ts.length cap] w fun e w'=>e=.returned (.slice (some ⟨w.heap.size,0,none⟩) ts.length ts.length)∧Filling w w' w.heap.size ts ts.length:=by
 rcases hs with rfl | ⟨b,off,rfl,hb,hr⟩
 ·exact Cs ad cap w
 ·exact Cr b off cap ts w hlen hr hb
theorem Filling.row {w w':World} {g:Nat} {ts:List Tp} (h:Filling w w' g ts ts.length):xQ w' g 0 ts:=fun i hi=>h.done i hi hi
theorem Filling.sl {w w':World} {g:Nat} {ts:List Tp} (h:Filling w w' g ts ts.length):Sl w' (some ⟨g,0,none⟩) ts:=.inr ⟨g,0,rfl,h.lt,h.row⟩
end Go.Proofs.YtdaoiceeidoehaaGreat
namespace Go.Proofs.YtdaoiceeidoehaaGreat
open Go.ChangeShapes Go.WideShapes Go.ChangeAt Go.RowKit
open Pl
attribute [local go_sem ↓] Go.wp_at_zero Go.wp_at_succ
theorem P8 {w W w':World} {n:Nat} {x0 x1 x2 x3 x4 x5:Value} (h:W.cell? ⟨n,0,none⟩=some x0∧W.cell? ⟨n,1,none⟩=some x1∧W.cell? ⟨n,2,none⟩=some x2∧W.cell? ⟨n,3,none⟩=some x3∧W.cell? ⟨n,4,none⟩=some x4∧W.cell? ⟨n,5,none⟩=some x5∧n < W.heap.size∧Below n w W) (hb:Below W.heap.size W w'):w'.cell? ⟨n,0,none⟩=some x0∧w'.cell? ⟨n,1,none⟩=some x1∧w'.cell? ⟨n,2,none⟩=some x2∧w'.cell? ⟨n,3,none⟩=some x3∧w'.cell? ⟨n,4,none⟩=some x4∧w'.cell? ⟨n,5,none⟩=some x5∧n < w'.heap.size∧Below n w w':=by
 obtain ⟨h0,h1,h2,h3,h4,h5,hn,hB⟩:=h;have hc:∀ o,w'.cell? ⟨n,o,none⟩=W.cell? ⟨n,o,none⟩:=fun o=>hb.cell (p:=⟨n,o,none⟩) hn;refine ⟨by rw [hc]; exact h0,by rw [hc]; exact h1,by rw [hc]; exact h2,by rw [hc]; exact h3,by rw [hc]; exact h4,by rw [hc]; exact h5,RZ hn hb.size,hB.trans (hb.mono (Nat.le_of_lt hn))⟩
theorem vY (a b r c d s:ByteArray) (w:World) (ha:a.size≤maxLen) (hb:b.size≤maxLen) (hr:r.size≤maxLen) (hc:c.size≤maxLen) (hd:d.size≤maxLen) (hs:s.size≤maxLen) :
  Calls prog 114 #[.agg #[.string a,.string b,.string r,.string c,.string d,.string s]] w fun e w'=>e=.returned (.string (bu a b r c d s))∧Below w.heap.size w w':=by
 by_cases hn:df a b r c d s=true
 ·obtain ⟨h1,h2,h3,h4⟩:=kF hn;have hx:=jX a b;have hy:=jX c d;have hr12:=(oq h2).2;have hs12:=I5 h4;clear h1 h2 h3 h4;go_enter func114,ntmps114;go_wp2_with fail;refine (eF _ _ _ _ _ _ _ ha hb hr hc hd hs).mono ?_;rintro e w1 ⟨rfl,hb1⟩;obtain ⟨hc1,hf1⟩:=ed hb1;have hz1:w.heap.size < w1.heap.size:=by have:=hb1.size; simp at this; omega
  have k:∀ o v,(w.alloc (.cells #[.string a,.string b,.string r,.string c,.string d,.string s] 73)).cell? ⟨w.heap.size,o,none⟩=some v→w1.cell? ⟨w.heap.size,o,none⟩=some v:=fun o v h=>by rw [hc1 _ _ (by simp)]; exact h
  have k0:=k 0 (.string a) (by simp);have k1:=k 1 (.string b) (by simp);have k2:=k 2 (.string r) (by simp);have k3:=k 3 (.string c) (by simp);have k4:=k 4 (.string d) (by simp);have k5:=k 5 (.string s) (by simp);have HB1:Below w.heap.size w w1:=((R3 _ _).alloc (R4 _) _).trans (hb1.mono (by simp));clear k hb1 hc1 hf1;have q1:(9223372036854775807 < (aF a b).size + 1)=False:=by simp; omega
  have q2:(9223372036854775807 < (aF a b).size + 1 + r.size)=False:=by simp; omega
  have q3:(9223372036854775807 < (aF a b).size + 1 + r.size + 1)=False:=by simp; omega
  have q4:(9223372036854775807 < (aF a b).size + 1 + r.size + 1 + (aF c d).size)=False:=by simp; omega
  go_wp2_with fail
  go_region_held3 (fun w'=>w'.cell? ⟨w.heap.size,0,none⟩=some (.string a)∧w'.cell? ⟨w.heap.size,1,none⟩=some (.string b)∧w'.cell? ⟨w.heap.size,2,none⟩=some (.string r)∧w'.cell? ⟨w.heap.size,3,none⟩=some (.string c)∧w'.cell? ⟨w.heap.size,4,none⟩=some (.string d)∧w'.cell? ⟨w.heap.size,5,none⟩=some (.string s)∧w.heap.size < w'.heap.size∧Below w.heap.size w w')
   (first | exact P8 (by assumption) hbx | exact ⟨k0,k1,k2,k3,k4,k5,hz1,HB1.drew⟩)
   (first | (go_at_call 139; refine (vV _ _ _ (by assumption) (by assumption)).mono ?_; rintro e w' ⟨rfl,hbx⟩))
  rename_i hH;obtain ⟨g0,g1,g2,g3,g4,g5,gz,gB⟩:=hH;clear k0 k1 k2 k3 k4 k5 hbx q1 q2 q3 q4 HB1;by_cases he:s.toList.isEmpty=true
  ·have HT:Hid (bu a b r c d s=_):=ow hn he;go_wp2;go_ret;exact ⟨jw HT.out.symm,gB⟩
  ·have he':s.toList.isEmpty=false:=by simpa using he
   have HT:Hid (bu a b r c d s=_):=oz hn he';clear he;go_wp2;go_ret;exact ⟨jw HT.out.symm,gB⟩
 ·have hn':df a b r c d s=false:=by simpa using hn
  have HT:Hid (bu a b r c d s=⟨#[]⟩):=xO hn';clear hn;go_enter func114,ntmps114;go_wp2_with fail;refine (eF _ _ _ _ _ _ _ ha hb hr hc hd hs).mono ?_;rintro e w1 ⟨rfl,hb1⟩;go_wp2;go_ret;exact ⟨jw HT.out.symm,((R3 _ _).alloc (R4 _) _).trans (hb1.mono (by simp))⟩
theorem vZ (a b r c d s:ByteArray) (w:World) (ha:a.size≤maxLen) (hb:b.size≤maxLen) (hr:r.size≤maxLen) (hc:c.size≤maxLen) (hd:d.size≤maxLen) (hs:s.size≤maxLen) :
  Calls prog 165 #[.agg #[.string a,.string b,.string r,.string c,.string d,.string s]] w fun e w'=>e=.returned (.string (bu a b r c d s))∧Below w.heap.size w w':=by
 by_cases hn:df a b r c d s=true
 ·obtain ⟨h1,h2,h3,h4⟩:=kF hn;have hx:=jX a b;have hy:=jX c d;have hr12:=(oq h2).2;have hs12:=I5 h4;clear h1 h2 h3 h4;go_enter func165,ntmps165;go_wp2_with fail;refine (fe _ _ _ _ _ _ _ ha hb hr hc hd hs).mono ?_;rintro e w1 ⟨rfl,hb1⟩;obtain ⟨hc1,hf1⟩:=ed hb1;have hz1:w.heap.size < w1.heap.size:=by have:=hb1.size; simp at this; omega
  have k:∀ o v,(w.alloc (.cells #[.string a,.string b,.string r,.string c,.string d,.string s] 73)).cell? ⟨w.heap.size,o,none⟩=some v→w1.cell? ⟨w.heap.size,o,none⟩=some v:=fun o v h=>by rw [hc1 _ _ (by simp)]; exact h
  have k0:=k 0 (.string a) (by simp);have k1:=k 1 (.string b) (by simp);have k2:=k 2 (.string r) (by simp);have k3:=k 3 (.string c) (by simp);have k4:=k 4 (.string d) (by simp);have k5:=k 5 (.string s) (by simp);have HB1:Below w.heap.size w w1:=((R3 _ _).alloc (R4 _) _).trans (hb1.mono (by simp));clear k hb1 hc1 hf1;have q1:(9223372036854775807 < (aF a b).size + 1)=False:=by simp; omega
  have q2:(9223372036854775807 < (aF a b).size + 1 + r.size)=False:=by simp; omega
  have q3:(9223372036854775807 < (aF a b).size + 1 + r.size + 1)=False:=by simp; omega
  have q4:(9223372036854775807 < (aF a b).size + 1 + r.size + 1 + (aF c d).size)=False:=by simp; omega
  go_wp2_with fail
  go_region_held3 (fun w'=>w'.cell? ⟨w.heap.size,0,none⟩=some (.string a)∧w'.cell? ⟨w.heap.size,1,none⟩=some (.string b)∧w'.cell? ⟨w.heap.size,2,none⟩=some (.string r)∧w'.cell? ⟨w.heap.size,3,none⟩=some (.string c)∧w'.cell? ⟨w.heap.size,4,none⟩=some (.string d)∧w'.cell? ⟨w.heap.size,5,none⟩=some (.string s)∧w.heap.size < w'.heap.size∧Below w.heap.size w w')
   (first | exact P8 (by assumption) hbx | exact ⟨k0,k1,k2,k3,k4,k5,hz1,HB1.drew⟩)
   (first | (go_at_call 177; refine (vW _ _ _ (by assumption) (by assumption)).mono ?_; rintro e w' ⟨rfl,hbx⟩))
  rename_i hH;obtain ⟨g0,g1,g2,g3,g4,g5,gz,gB⟩:=hH;clear k0 k1 k2 k3 k4 k5 hbx q1 q2 q3 q4 HB1;by_cases he:s.toList.isEmpty=true
  ·have HT:Hid (bu a b r c d s=_):=ow hn he;go_wp2;go_ret;exact ⟨jw HT.out.symm,gB⟩
  ·have he':s.toList.isEmpty=false:=by simpa using he
   have HT:Hid (bu a b r c d s=_):=oz hn he';clear he;go_wp2;go_ret;exact ⟨jw (HT.out.trans (by simp only [ByteArray.append_assoc])).symm,gB⟩
 ·have hn':df a b r c d s=false:=by simpa using hn
  have HT:Hid (bu a b r c d s=⟨#[]⟩):=xO hn';clear hn;go_enter func165,ntmps165;go_wp2_with fail;refine (fe _ _ _ _ _ _ _ ha hb hr hc hd hs).mono ?_;rintro e w1 ⟨rfl,hb1⟩;go_wp2;go_ret;exact ⟨jw HT.out.symm,((R3 _ _).alloc (R4 _) _).trans (hb1.mono (by simp))⟩
end Go.Proofs.YtdaoiceeidoehaaGreat
