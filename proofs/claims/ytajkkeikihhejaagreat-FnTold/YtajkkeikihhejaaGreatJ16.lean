/- Contracts of the law's helpers that weigh a schema. -/
import Derived.Test.YtajkkeikihhejaaGreatSq
import Derived.Test.YtajkkeikihhejaaGreatJ3
import Derived.Test.YtajkkeikihhejaaGreatJ15
open Go.Proofs.Tryz
set_option maxHeartbeats 80000000
namespace Go.Proofs.YtajkkeikihhejaaGreat
open Go.ChangeShapes Go.WideShapes Go.ChangeAt Go.RowKit
open Pl
def RR.row (r:RR):List Value:=[.string r.name,.slice r.ad r.rows.length r.cap]
def TR.row (r:TR):List Value:=[.string r.name,.slice r.ad r.rows.length r.cap]
theorem jM.chg {S:Nat→Prop} {w w':af} {ad:Option Addr} {xs:List Al} (h:jM w ad xs) (hc:Chg S w w') (hn:∀ g o,xs ≠ []→ad=some ⟨g,o,none⟩→¬ S g):jM w' ad xs:=by
 rcases h with h | ⟨b,off,e,hb,hr⟩
 ·exact .inl h
 by_cases hx:xs=[]
 ·exact .inl hx
 exact .inr ⟨b,off,e,TP hb hc.size,fun i hi=>(hr i hi).same fun o=>hc.cell hb (hn b off hx e)⟩
theorem pW.chg {S:Nat→Prop} {w w':af} {ad:Option Addr} {zs:List Int} (h:pW w ad zs) (hc:Chg S w w') (hn:∀ g o,zs ≠ []→ad=some ⟨g,o,none⟩→¬ S g):pW w' ad zs:=by
 rcases h with h | ⟨b,off,e,hb,hr⟩
 ·exact .inl h
 by_cases hx:zs=[]
 ·exact .inl hx
 exact .inr ⟨b,off,e,TP hb hc.size,fun i hi=>by rw [hc.cell hb (hn b off hx e)]; exact hr i hi⟩
def bA (r:ER) (g:Nat):Prop:=r.e.allow ≠ []∧r.adA=some ⟨g,0,none⟩
def bK (r:ER) (g:Nat):Prop:=r.e.kids ≠ []∧r.adK=some ⟨g,0,none⟩
def oJ (r:ER) (g:Nat):Prop:=bA r g ∨ bK r g
structure SepE (b:Nat) (rs:List ER):Prop where
 zeroA:∀ r ∈ rs,r.e.allow ≠ []→∃ g,r.adA=some ⟨g,0,none⟩
 zeroK:∀ r ∈ rs,r.e.kids ≠ []→∃ g,r.adK=some ⟨g,0,none⟩
 head:∀ r ∈ rs,¬ oJ r b
 one:∀ r ∈ rs,∀ g,bA r g→¬ bK r g
 two:∀ (x y:Nat) (hx:x < rs.length) (hy:y < rs.length),x ≠ y→∀ g,oJ rs[x] g→¬ oJ rs[y] g
def Ol (w:World) (b:Nat) (rs:List ER):Prop:=(b < w.heap.size∧gY w b)∧∀ r ∈ rs,∀ g,oJ r g→g < w.heap.size∧gY w g
theorem Ol.chg {S:Nat→Prop} {w w':af} {b:Nat} {rs:List ER} (h:Ol w b rs) (hc:Chg S w w'):Ol w' b rs :=
 ⟨⟨TP h.1.1 hc.size,hc.free b h.1.1 h.1.2⟩,fun r hr g hg=>⟨TP (h.2 r hr g hg).1 hc.size,hc.free g (h.2 r hr g hg).1 (h.2 r hr g hg).2⟩⟩
theorem ER.ok.chg {S:Nat→Prop} {w w':af} {r:ER} (h:r.ok w) (hc:Chg S w w') (hA:∀ g o,r.e.allow ≠ []→r.adA=some ⟨g,o,none⟩→¬ S g) (hK:∀ g o,r.e.kids ≠ []→r.adK=some ⟨g,o,none⟩→¬ S g):r.ok w' :=
 ⟨h.1.chg hc hA,h.2.chg hc hK⟩
def CP (w:World) (P:Nat→Prop):Prop:=∀ g,P g→g < w.heap.size∧gY w g
theorem CP.chg {S P:Nat→Prop} {w w':af} (h:CP w P) (hc:Chg S w w'):CP w' P:=fun g hg=>⟨TP (h g hg).1 hc.size,hc.free g (h g hg).1 (h g hg).2⟩
theorem CP.mono {P Q:Nat→Prop} {w:af} (h:CP w P) (hq:∀ g,Q g→P g):CP w Q:=fun g hg=>h g (hq g hg)
def IK (r:RR) (g:Nat):Prop:=(r.rows ≠ []∧r.ad=some ⟨g,0,none⟩) ∨ ∃ q ∈ r.rows,oJ q g
def Om (r:RR):Prop:=r.rows ≠ []→∃ b,r.ad=some ⟨b,0,none⟩∧SepE b r.rows
structure SepR (b:Nat) (rs:List RR):Prop where
 good:∀ r ∈ rs,Om r
 head:∀ r ∈ rs,¬ IK r b
 two:∀ (x y:Nat) (hx:x < rs.length) (hy:y < rs.length),x ≠ y→∀ g,IK rs[x] g→¬ IK rs[y] g
theorem RR.ok.chg {S:Nat→Prop} {w w':af} {r:RR} (h:r.ok w) (hc:Chg S w w') (hg:Om r) (hn:∀ g,IK r g→¬ S g):r.ok w':=by
 by_cases hz:r.rows=[]
 ·exact .inl hz
 obtain ⟨b,e,hsep⟩:=hg hz;rcases h with h | ⟨b',off,e',hb,hr,hk⟩
 ·exact .inl h
 rw [e] at e'; injection e' with e'; injection e' with e1 e2;subst e1; subst e2;refine .inr ⟨b,0,e,TP hb hc.size,fun i hi=>(hr i hi).same fun o=>hc.cell hb (hn b (.inl ⟨hz,e⟩)),fun q hq=>?_⟩;refine (hk q hq).chg hc (fun g o hne e2=>?_) (fun g o hne e2=>?_)
 ·obtain ⟨g0,e0⟩:=hsep.zeroA q hq hne;rw [e0] at e2; injection e2 with e2; injection e2 with e3 e4;subst e3;exact hn g0 (.inr ⟨q,hq,.inl ⟨hne,e0⟩⟩)
 obtain ⟨g0,e0⟩:=hsep.zeroK q hq hne;rw [e0] at e2; injection e2 with e2; injection e2 with e3 e4;subst e3;exact hn g0 (.inr ⟨q,hq,.inr ⟨hne,e0⟩⟩)
def Lm (r:TR) (g:Nat):Prop:=(r.rows ≠ []∧r.ad=some ⟨g,0,none⟩) ∨ ∃ q ∈ r.rows,IK q g
def Oo (r:TR):Prop:=r.rows ≠ []→∃ b,r.ad=some ⟨b,0,none⟩∧SepR b r.rows
structure SepT (b:Nat) (rs:List TR):Prop where
 good:∀ r ∈ rs,Oo r
 head:∀ r ∈ rs,¬ Lm r b
 two:∀ (x y:Nat) (hx:x < rs.length) (hy:y < rs.length),x ≠ y→∀ g,Lm rs[x] g→¬ Lm rs[y] g
theorem TR.ok.chg {S:Nat→Prop} {w w':af} {r:TR} (h:r.ok w) (hc:Chg S w w') (hg:Oo r) (hn:∀ g,Lm r g→¬ S g):r.ok w':=by
 by_cases hz:r.rows=[]
 ·exact .inl hz
 obtain ⟨b,e,hsep⟩:=hg hz;rcases h with h | ⟨b',off,e',hb,hr,hk⟩
 ·exact .inl h
 rw [e] at e'; injection e' with e'; injection e' with e1 e2;subst e1; subst e2;refine .inr ⟨b,0,e,TP hb hc.size,fun i hi=>(hr i hi).same fun o=>hc.cell hb (hn b (.inl ⟨hz,e⟩)),fun q hq=>?_⟩;exact (hk q hq).chg hc (hsep.good q hq) fun g hg=>hn g (.inr ⟨q,hq,hg⟩)
end Go.Proofs.YtajkkeikihhejaaGreat
namespace Go.Proofs.YtajkkeikihhejaaGreat
open Go.Sort
open Go.ChangeShapes Go.WideShapes Go.ChangeAt Go.RowKit
open Pl
attribute [local go_sem ↓] Go.wp_at_zero Go.wp_at_succ
theorem wH (b off cap:Nat) (ts:List Tp) (w:af) (hlen:ts.length≤maxLen) (hr:kJ w b off ts) (hb:b < w.heap.size) (hf:∀ t ∈ ts,t.fits) :
    Calls prog 99 #[.slice (some ⟨b,off,none⟩) ts.length cap] w fun e w'=>e=.returned (.bool (dJ ts))∧ag w w':=by
  unfold maxLen at hlen;by_cases hbig:40 < ts.length
  · have HT:Hid (dJ ts=false):=by show _=_; simp [dJ]; omega
    go_enter func99,ntmps99;go_wp2;go_ret;exact ⟨ah HT.out.symm,TT _ _⟩
  · go_enter func99,ntmps99;go_wp2;go_loopw [10] (fun i wr=>∃ k:Nat,k≤ts.length∧i=.int .i64 k∧Hid (tH ts k=true)∧ag w wr) (fun i _=>ts.length - (intOf i).toNat);case atStart=>exact ⟨0,TW _,rfl,rfl,TT _ _⟩
    obtain ⟨k,hk,rfl,hu,hB⟩:=hrel;by_cases hlt:k < ts.length
    · have Xr:=pU (hr.below hB hb);have UL:=pU hf;obtain ⟨t0,t1,t2,t3,t4,t5⟩:=Xr.out k hlt;have hk1:=bB k;have hk2:(k:Int) < (ts.length:Int):=by omega
      clear hr hf;obtain ⟨W1,hW1⟩:∃ W1,W1=wr.alloc (.cells #[.string ts[k].a,.string ts[k].b,.string ts[k].r,.string ts[k].c,.string ts[k].d,.string ts[k].s] 46):=⟨_,rfl⟩;have hal:ag wr W1:=by rw [hW1]; exact (TT _ _).alloc (TS _) _
      have c0:∀ d os,(grow (redrawn W1 d) os).cell? ⟨wr.heap.size,0,none⟩=some (.string ts[k].a):=cell_regrown (by rw [hW1]; simp);have c1:∀ d os,(grow (redrawn W1 d) os).cell? ⟨wr.heap.size,1,none⟩=some (.string ts[k].b):=cell_regrown (by rw [hW1]; simp);have c2:∀ d os,(grow (redrawn W1 d) os).cell? ⟨wr.heap.size,2,none⟩=some (.string ts[k].r):=cell_regrown (by rw [hW1]; simp);have c3:∀ d os,(grow (redrawn W1 d) os).cell? ⟨wr.heap.size,3,none⟩=some (.string ts[k].c):=cell_regrown (by rw [hW1]; simp);have c4:∀ d os,(grow (redrawn W1 d) os).cell? ⟨wr.heap.size,4,none⟩=some (.string ts[k].d):=cell_regrown (by rw [hW1]; simp);have c5:∀ d os,(grow (redrawn W1 d) os).cell? ⟨wr.heap.size,5,none⟩=some (.string ts[k].s):=cell_regrown (by rw [hW1]; simp);have Va:Hid (∀ d os,ag w (grow (redrawn W1 d) os)):=fun d os=>hB.trans ((hal.mono hB.size).trans ((below_regrown W1 d os).mono (TZ hB.size hal.size)));have HK:Hid (∀ p v,wr.cell? p=some v→W1.cell? p=some v):=fun p v h=>cell_later hal h;clear hal;go_wp2_with fail;rw [← hW1];clear hW1 t0 t1 t2 t3 t4 t5;have WS:Hid (∀ d os,Calls prog 108 #[.agg #[.string ts[k].a,.string ts[k].b,.string ts[k].r,.string ts[k].c,.string ts[k].d,.string ts[k].s]] (grow (redrawn W1 d) os) fun e w''=>e=.returned (.bool ts[k].ok)∧∃ p:Regrown,w''=grow (redrawn W1 p.d) p.os):=by
        obtain ⟨f0,f1,f2,f3,f4,f5⟩:=UL.out ts[k] (TQ hlt);exact dm fun W' _=>gm _ _ _ _ _ _ _ f0 f1 f2 f3 f4 f5
      cases hok:ts[k].ok;case false=>
        have HT:Hid (dJ ts=false):=uO hlt (Km hlt hok);rw [hok] at WS;clear hok;refine wp_region_quiet_below (by kernel_rfl) (by kernel_rfl) ?_
        repeat (go_big_quiet_step (exact WS.out _ _))
        refine wpQuiet_nil ?_;rintro _ ⟨⟨dq,osq⟩,rfl⟩;go_wp2;go_ret;exact ⟨ah HT.out.symm,Va.out dq osq⟩
      rw [hok] at WS;by_cases hz:k=0
      · have HU:Hid (tH ts (k + 1)=true):=by show _=_; rw [rz,hu.out]; subst hz; rw [wF hlt,hok]; rfl
        have hk8:decide ((0:Int) < (k:Int))=false:=by simp; omega
        have Z4:decide (0 < k)=false:=by simp; omega
        clear hok hz;refine wp_region_quiet_below (by kernel_rfl) (by kernel_rfl) ?_
        repeat (go_big_quiet_step (exact WS.out _ _))
        refine wpQuiet_nil ?_;rintro _ ⟨⟨dq,osq⟩,rfl⟩;go_wp2;go_roundw;case rel=>exact ⟨k + 1,by omega,by go_num,HU,Va.out dq osq⟩
        simp [intOf]; omega
      · obtain ⟨m,hm⟩:∃ m:Nat,k=m + 1:=⟨k - 1,by omega⟩;have U5:m < ts.length:=by omega
        obtain ⟨q0,q1,q2,q3,q4,q5⟩:=Xr.out m U5;replace q0:=cell_regrown (HK.out _ _ q0);replace q1:=cell_regrown (HK.out _ _ q1);replace q2:=cell_regrown (HK.out _ _ q2);replace q3:=cell_regrown (HK.out _ _ q3);replace q4:=cell_regrown (HK.out _ _ q4);replace q5:=cell_regrown (HK.out _ _ q5);have hkm:(k:Int) - 1=(m:Int):=by omega
        have hm1:=bB m;have hm2:(m:Int) < (ts.length:Int):=by omega
        have hpos:(0:Int) < (k:Int):=by omega
        have hposN:0 < k:=by omega
        have hwm:IntKind.i64.wrap (m:Int)=(m:Int):=by rw [IntKind.wrap_i64]; omega
        have HA:Hid (uN ts k=ts[m].ahead ts[k]):=by show _=_; subst hm; rw [rA hlt,hok]; rfl
        have Yy:Hid (∀ d os,Calls prog 141 #[.agg #[.string ts[m].a,.string ts[m].b,.string ts[m].r,.string ts[m].c,.string ts[m].d,.string ts[m].s],.agg #[.string ts[k].a,.string ts[k].b,.string ts[k].r,.string ts[k].c,.string ts[k].d,.string ts[k].s]] (grow (redrawn W1 d) os) fun e w''=>e=.returned (.bool (ts[m].ahead ts[k]))∧∃ p:Regrown,w''=grow (redrawn W1 p.d) p.os):=by
          obtain ⟨f0,f1,f2,f3,f4,f5⟩:=UL.out ts[k] (TQ hlt);obtain ⟨g0,g1,g2,g3,g4,g5⟩:=UL.out ts[m] (TQ U5);exact dm fun W' _=>BC _ _ _ _ _ _ _ _ _ _ _ _ _ g0 g1 g2 g3 g4 g5 f0 f1 f2 f3 f4 f5
        clear hm hz hok;cases ha:ts[m].ahead ts[k];case false=>
          have HT:Hid (dJ ts=false):=uO hlt (by rw [HA.out,ha]);rw [ha] at Yy;clear ha HA;refine wp_region_quiet_below (by kernel_rfl) (by kernel_rfl) ?_
          repeat (go_big_quiet_step (first | exact WS.out _ _ | exact Yy.out _ _))
          refine wpQuiet_nil ?_;rintro _ ⟨⟨dq,osq⟩,rfl⟩;go_wp2;go_ret;exact ⟨ah HT.out.symm,Va.out dq osq⟩
        have HU:Hid (tH ts (k + 1)=true):=by show _=_; rw [rz,hu.out,HA.out,ha]; rfl
        rw [ha] at Yy;clear ha HA;refine wp_region_quiet_below (by kernel_rfl) (by kernel_rfl) ?_
        repeat (go_big_quiet_step (first | exact WS.out _ _ | exact Yy.out _ _))
        refine wpQuiet_nil ?_;rintro _ ⟨⟨dq,osq⟩,rfl⟩;go_wp2;go_roundw;case rel=>exact ⟨k + 1,by omega,by go_num,HU,Va.out dq osq⟩
        simp [intOf]; omega
    · go_wp2;go_ret;exact ⟨ah (by have e:k=ts.length:=(by omega);subst e;simp [dJ,hu.out]; omega),hB⟩
end Go.Proofs.YtajkkeikihhejaaGreat
namespace Go.Proofs.YtajkkeikihhejaaGreat
open Go.Sort
open Go.ChangeShapes Go.WideShapes Go.ChangeAt Go.RowKit
open Pl
attribute [local go_sem ↓] Go.wp_at_zero Go.wp_at_succ
theorem wI (ad:Option Addr) (cap:Nat) (w:af) :
  Calls prog 93 #[.slice ad 0 cap] w fun e w'=>e=.returned (.bool (dJ []))∧ag w w':=by
 go_enter func93,ntmps93;go_wp2;go_loopw [3] (fun i wr=>∃ k:Nat,k=0∧i=.int .i64 k∧ag w wr) (fun i _=>(intOf i).toNat);case atStart=>exact ⟨0,rfl,rfl,TT _ _⟩
 obtain ⟨k,rfl,rfl,hB⟩:=hrel;go_wp2;go_ret;exact ⟨rfl,hB⟩
theorem wJ (ad:Option Addr) (cap:Nat) (w:af) :
  Calls prog 99 #[.slice ad 0 cap] w fun e w'=>e=.returned (.bool (dJ []))∧ag w w':=by
 go_enter func99,ntmps99;go_wp2;go_loopw [10] (fun i wr=>∃ k:Nat,k=0∧i=.int .i64 k∧ag w wr) (fun i _=>(intOf i).toNat);case atStart=>exact ⟨0,rfl,rfl,TT _ _⟩
 obtain ⟨k,rfl,rfl,hB⟩:=hrel;go_wp2;go_ret;exact ⟨rfl,hB⟩
theorem nY (ad:Option Addr) (cap:Nat) (ts:List Tp) (w:af) (hlen:ts.length≤maxLen) (hs:Sl w ad ts) (hf:∀ t ∈ ts,t.fits) :
  Calls prog 93 #[.slice ad ts.length cap] w fun e w'=>e=.returned (.bool (dJ ts))∧ag w w':=by
 rcases hs with rfl | ⟨b,off,rfl,hb,hr⟩
 ·exact wI ad cap w
 exact wG b off cap ts w hlen hr hb hf
theorem wK (ad:Option Addr) (cap:Nat) (ts:List Tp) (w:af) (hlen:ts.length≤maxLen) (hs:Sl w ad ts) (hf:∀ t ∈ ts,t.fits) :
  Calls prog 99 #[.slice ad ts.length cap] w fun e w'=>e=.returned (.bool (dJ ts))∧ag w w':=by
 rcases hs with rfl | ⟨b,off,rfl,hb,hr⟩
 ·exact wJ ad cap w
 exact wH b off cap ts w hlen hr hb hf
end Go.Proofs.YtajkkeikihhejaaGreat
