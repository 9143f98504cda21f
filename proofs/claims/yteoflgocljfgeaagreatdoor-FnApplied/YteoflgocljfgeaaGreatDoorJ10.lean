/- The document's reader in memory: its block, its nodes, each node's lists in blocks of their own; one more node. -/
import Derived.Test.YteoflgocljfgeaaGreatDoorJ9
open Go.Proofs.Tryz
set_option maxHeartbeats 80000000
namespace Go.Proofs.YteoflgocljfgeaaGreatDoor
set_option maxRecDepth 100000
open Go.ChangeShapes Go.WideShapes Go.ChangeAt Go.RowKit
open Pl
structure Went (R:Nat) (v:Value) (w:World) (v':Value) (w':World):Prop where
 onl:Onl R v w w'
 own:v'.ownBlock=v.ownBlock ∨ ∃ g,v'.ownBlock=some g∧w.heap.size≤g
theorem Onl.refl (R:Nat) (v:Value) (w:World):Onl R v w w:=⟨rfl,rfl,rfl,Nat.le_refl _,fun _ _ _ _=>rfl⟩
theorem Went.refl (R:Nat) (v:Value) (w:World):Went R v w v w:=⟨Onl.refl R v w,.inl rfl⟩
theorem Went.apart {R:Nat} {v v':Value} {w w':World} (h:Went R v w v' w') {k:Nat} (hk:k < w.heap.size) (hv:v.ownBlock ≠ some k):v'.ownBlock ≠ some k:=by
 rcases h.own with e | ⟨g,e,hg⟩
 ·rw [e]; exact hv
 ·rw [e]; intro h2; injection h2 with h2; omega
theorem Went.trans {R:Nat} {v v1 v2:Value} {w w1 w2:World} (h:Went R v w v1 w1) (h2:Went R v1 w1 v2 w2):Went R v w v2 w2:=by
 refine ⟨⟨h2.onl.os.trans h.onl.os,h2.onl.tape.trans h.onl.tape,h2.onl.output.trans h.onl.output,Nat.le_trans h.onl.size h2.onl.size,fun k hk h3 h4=>(h2.onl.block k (Nat.lt_of_lt_of_le hk h.onl.size) h3 (h.apart hk h4)).trans (h.onl.block k hk h3 h4)⟩,?_⟩;rcases h2.own with e | ⟨g,e,hg⟩
 ·rw [e]; exact h.own
 ·exact .inr ⟨g,e,Nat.le_trans h.onl.size hg⟩
abbrev lc:Value:=.slice none 0 0
theorem Onl.any {R:Nat} {w w':World} (h:Onl R lc w w') (v:Value):Went R v w v w':=⟨⟨h.os,h.tape,h.output,h.size,fun k hk h1 _=>h.block k hk h1 (by simp [Value.ownBlock])⟩,.inl rfl⟩
theorem Onl.of_grown {R:Nat} {w w':World} (h:w.grownBy w' (some R)):Onl R lc w w':=⟨h.os,h.tape,h.output,h.size,fun k hk h1 _=>h.block k hk (fun e=>h1 (by injection e))⟩
theorem Onl.trans0 {R:Nat} {w w1 w2:World} (h:Onl R lc w w1) (h2:Onl R lc w1 w2):Onl R lc w w2:=((h.any lc).trans (h2.any lc)).onl
theorem Onl.of_below {R:Nat} {w w':World} (h:Below w.heap.size w w'):Onl R lc w w':=⟨h.os,h.tape,h.output,h.size,fun k hk _ _=>h.block k hk⟩
def yx (w:World) (base:Nat) (q:ER):Prop:=(q.e.kids=[]∧q.adK=none∧q.capK=0) ∨ (q.e.kids ≠ []∧w.ownsRow base 2 1 (.slice q.adK q.e.kids.length q.capK) q.e.kids.length (ints q.e.kids))
structure RdF (w:World) (R:Nat) (s:ByteArray) (st:RS) (base:Nat) (v:Value) (qs:List ER):Prop where
 rd:RdC w R s st.p st.bad v
 own:w.ownsRow base 139 5 v qs.length (iH qs)
 out:au qs=st.out
 zA:∀ q ∈ qs,q.e.allow ≠ []→∃ g,q.adA=some ⟨g,0,none⟩
 zK:∀ q ∈ qs,q.e.kids ≠ []→∃ g,q.adK=some ⟨g,0,none⟩
 ok:∀ q ∈ qs,q.ok w
 lie:∀ q ∈ qs,∀ g,ny q g→base≤g∧g < w.heap.size∧iG w g∧v.ownBlock ≠ some g
 one:∀ q ∈ qs,∀ g,bA q g→¬ bK q g
 two:∀ (x y:Nat) (hx:x < qs.length) (hy:y < qs.length),x ≠ y→∀ g,ny qs[x] g→¬ ny qs[y] g
 cA:∀ q ∈ qs,q.e.allow.length≤q.capA
 cK:∀ q ∈ qs,yx w base q
theorem yx.heap {w w':World} {base:Nat} {q:ER} (h:yx w base q) (hz:q.e.kids ≠ []→∃ g,q.adK=some ⟨g,0,none⟩) (hh:∀ g,ny q g→w'.heap[g]?=w.heap[g]?):yx w' base q:=by
 rcases h with h | ⟨hne,h⟩
 ·exact .inl h
 ·obtain ⟨g,eg⟩:=hz hne;refine .inr ⟨hne,gX h fun g' hg'=>?_⟩;rw [eg] at hg';have:g=g':=by simpa [Value.ownBlock] using hg'
  subst this;exact hh g (.inr ⟨hne,eg⟩)
theorem yx.mono {w:World} {base base':Nat} {q:ER} (h:yx w base q) (hb:base'≤base):yx w base' q:=by
 rcases h with h | ⟨hne,h⟩
 ·exact .inl h
 ·refine .inr ⟨hne,h.1,?_⟩;rcases h.2 with hl | ⟨g,cap,cur,e,h1,h2⟩
  ·exact .inl hl
  ·exact .inr ⟨g,cap,cur,e,Nat.le_trans hb h1,h2⟩
theorem RdF.over {w w':World} {R:Nat} {s:ByteArray} {st:RS} {base:Nat} {v:Value} {qs:List ER} (h:RdF w R s st base v qs) (hR:R < base) (ho:Onl R lc w w') {p:Nat} {bad:Bool} (hr:RdC w' R s p bad v):RdF w' R s ⟨p,bad,st.out⟩ base v qs where
 rd:=hr
 own:=gX h.own fun g hg=>ho.block g (h.own.lt g hg).2 (by have:=(h.own.lt g hg).1; omega) (by simp [Value.ownBlock])
 out:=h.out
 zA:=h.zA
 zK:=h.zK
 ok q hq:=oL (h.ok q hq) ho.size (h.zA q hq) (h.zK q hq) fun g hg=>ho.block g (h.lie q hq g hg).2.1 (by have:=(h.lie q hq g hg).1; omega) (by simp [Value.ownBlock])
 lie q hq g hg:=by
  obtain ⟨h1,h2,h3,h4⟩:=h.lie q hq g hg;exact ⟨h1,Nat.lt_of_lt_of_le h2 ho.size,bF h3 (ho.block g h2 (by omega) (by simp [Value.ownBlock])),h4⟩
 one:=h.one
 two:=h.two
 cA:=h.cA
 cK q hq:=(h.cK q hq).heap (h.zK q hq) fun g hg=>ho.block g (h.lie q hq g hg).2.1 (by have:=(h.lie q hq g hg).1; omega) (by simp [Value.ownBlock])
theorem Di (R:Nat) (s:ByteArray) (st:RS) (base:Nat) (v:Value) (qs:List ER) (q:ER) (w:World) (h:RdF w R s st base v qs) (hR:R < base) (hB:base≤w.heap.size) (hn:qs.length≤100000)
  (hq:NewQ base w q) (hkid:yx w base q) (ha:∀ g,ny q g→v.ownBlock ≠ some g∧∀ q' ∈ qs,¬ ny q' g) :
  Calls prog 170 #[.pointer (some ⟨R,0,none⟩),q.val] w fun e w'=>∃ v',e=.returned (.int .i64 (st.out.length:Int))∧RdF w' R s (pK q.e st) base v' (qs ++ [q])∧Went R v w v' w':=by
 have hlen:qs.length=st.out.length:=by rw [← h.out]; simp [au]
 refine (KD R s st.p st.bad v base qs.length (iH qs) q w h.rd h.own hR hB hn).mono ?_;rintro e w' ⟨g,cap,rfl,hrd,hown,honl,hat⟩;have hW:Went R v w (.slice (some ⟨g,0,none⟩) (qs.length + 1) cap) w':=⟨honl,by
  rcases hat with e | e
  ·exact .inl (by rw [e]; rfl)
  ·exact .inr ⟨g,rfl,e⟩⟩
 have keep:∀ k,k < w.heap.size→base≤k→v.ownBlock ≠ some k→w'.heap[k]?=w.heap[k]?:=fun k h1 h2 h3=>honl.block k h1 (by omega) h3;refine ⟨.slice (some ⟨g,0,none⟩) (qs.length + 1) cap,by rw [hlen],?_,hW⟩;refine ⟨by unfold pK; rw [← hlen]; exact hrd,?_,?_,?_,?_,?_,?_,?_,?_,?_,?_⟩
 ·rw [List.length_append,List.length_singleton,Db]; exact hown
 ·simp [au,pK,← h.out]
 ·intro q' hq';rcases List.mem_append.1 hq' with h1 | h1
  ·exact h.zA q' h1
  ·rw [List.mem_singleton] at h1; subst h1; exact hq.zA
 ·intro q' hq';rcases List.mem_append.1 hq' with h1 | h1
  ·exact h.zK q' h1
  ·rw [List.mem_singleton] at h1; subst h1; exact hq.zK
 ·intro q' hq';rcases List.mem_append.1 hq' with h1 | h1
  ·exact oL (h.ok q' h1) honl.size (h.zA q' h1) (h.zK q' h1) fun k hk=>keep k (h.lie q' h1 k hk).2.1 (h.lie q' h1 k hk).1 (h.lie q' h1 k hk).2.2.2
  ·rw [List.mem_singleton] at h1; subst h1;exact oL hq.ok honl.size hq.zA hq.zK fun k hk=>keep k (hq.lie k hk).2.1 (hq.lie k hk).1 (ha k hk).1
 ·intro q' hq' k hk;rcases List.mem_append.1 hq' with h1 | h1
  ·obtain ⟨a1,a2,a3,a4⟩:=h.lie q' h1 k hk;exact ⟨a1,Nat.lt_of_lt_of_le a2 honl.size,bF a3 (keep k a2 a1 a4),hW.apart a2 a4⟩
  ·rw [List.mem_singleton] at h1; subst h1;obtain ⟨a1,a2,a3⟩:=hq.lie k hk;exact ⟨a1,Nat.lt_of_lt_of_le a2 honl.size,bF a3 (keep k a2 a1 (ha k hk).1),hW.apart a2 (ha k hk).1⟩
 ·intro q' hq';rcases List.mem_append.1 hq' with h1 | h1
  ·exact h.one q' h1
  ·rw [List.mem_singleton] at h1; subst h1; exact hq.one
 ·intro x y hx hy hxy k hkx hky;rw [List.length_append,List.length_singleton] at hx hy;by_cases ex:x < qs.length
  ·rw [List.getElem_append_left ex] at hkx;by_cases ey:y < qs.length
   ·rw [List.getElem_append_left ey] at hky;exact h.two x y ex ey hxy k hkx hky
   ·have:y=qs.length:=by omega
    subst this;rw [List.getElem_append_right (Nat.le_refl _)] at hky;simp at hky;exact (ha k hky).2 _ (List.getElem_mem ex) hkx
  ·have:x=qs.length:=by omega
   subst this;rw [List.getElem_append_right (Nat.le_refl _)] at hkx;simp at hkx;have ey:y < qs.length:=by omega
   rw [List.getElem_append_left ey] at hky;exact (ha k hkx).2 _ (List.getElem_mem ey) hky
 ·intro q' hq';rcases List.mem_append.1 hq' with h1 | h1
  ·exact h.cA q' h1
  ·rw [List.mem_singleton] at h1; subst h1; exact hq.cA
 ·intro q' hq';rcases List.mem_append.1 hq' with h1 | h1
  ·exact (h.cK q' h1).heap (h.zK q' h1) fun k hk=>keep k (h.lie q' h1 k hk).2.1 (h.lie q' h1 k hk).1 (h.lie q' h1 k hk).2.2.2
  ·rw [List.mem_singleton] at h1; subst h1;exact hkid.heap hq.zK fun k hk=>keep k (hq.lie k hk).2.1 (hq.lie k hk).1 (ha k hk).1
def rq (R:Nat) (s:ByteArray) (base:Nat) (v:Value) (qs:List ER) (w:World) (x:Int × RS) (e:Ending) (w':World):Prop :=
 ∃ v' ns,e=.returned (.int .i64 x.1)∧RdF w' R s x.2 base v' (qs ++ ns)∧Went R v w v' w'∧∀ q ∈ ns,∀ g,ny q g→w.heap.size≤g
def qw (s:ByteArray) (x:Int × RS):Int × RS:=if jM s dC x.2 then (x.1,jk dC x.2) else (x.1,qZ x.2)
theorem Dj {s:ByteArray} {x:Int × RS} (h:kz s dC x.2.p x.2.bad=true):qw s x=(x.1,jk dC x.2):=if_pos h
theorem FH {s:ByteArray} {x:Int × RS} (h:kz s dC x.2.p x.2.bad=false):qw s x=(x.1,qZ x.2):=if_neg (fun e=>by rw [jM,← kz,h] at e; cases e)
theorem RdF.is_no {w w':World} {R:Nat} {s t:ByteArray} {st:RS} {base:Nat} {v:Value} {qs:List ER} (h:RdF w R s st base v qs) (hR:R < base) (hb:kz s t st.p st.bad=false) (hr:RdC w' R s (KC s t st.p st.bad) st.bad v) (hg:w.grownBy w' (some R)):RdF w' R s st base v qs:=by
 rw [qp hb] at hr;exact h.over hR (Onl.of_grown hg) hr
theorem RdF.is_yes {w w':World} {R:Nat} {s t:ByteArray} {st:RS} {base:Nat} {v:Value} {qs:List ER} (h:RdF w R s st base v qs) (hR:R < base) (hb:kz s t st.p st.bad=true) (hr:RdC w' R s (KC s t st.p st.bad) st.bad v) (hg:w.grownBy w' (some R)):RdF w' R s (jk t st) base v qs:=by
 rw [ma hb] at hr;exact h.over hR (Onl.of_grown hg) hr
theorem sF {s t:ByteArray} {p:Nat} {bad:Bool} (h:kz s t p bad=true):p + t.size≤s.size:=by
 unfold kz at h;simp only [Bool.and_eq_true] at h;exact Bv h.2
theorem Ij (R:Nat) (s:ByteArray) (st:RS) (base:Nat) (v:Value) (qs:List ER) (w:World) (h:RdF w R s st base v qs) (hR:R < base) (hs:s.size≤1000) (hp:st.p≤s.size)
  (h0:kz s d9 st.p st.bad=false) (h1:kz s ig st.p st.bad=true) (x:Int × RS) (hx:x.2.p≤s.size)
  (hrow:∀ w1,RdF w1 R s (jk ig st) base v qs→w.heap.size≤w1.heap.size→Calls prog 152 #[.pointer (some ⟨R,0,none⟩)] w1 (rq R s base v qs w1 x)) :
  Calls prog 167 #[.pointer (some ⟨R,0,none⟩)] w (rq R s base v qs w (qw s x)):=by
 have H:=ai h;have HROW:=ai hrow;have HX:=ai hx;have HP:=ai hp;clear h hrow hx hp;go_enter func167,ntmps167;go_wp2_with fail;refine (iN R s d9 st.p st.bad v w H.out.rd hs HP.out (by decide)).mono ?_;rintro e w1 ⟨rfl,hr1,hg1⟩;have HF1:=ai (H.out.is_no hR h0 hr1 hg1);have HO1:=ai (Onl.of_grown hg1);rw [h0];clear hr1 hg1 h0;go_wp2_with fail;refine (iN R s ig st.p st.bad v w1 HF1.out.rd hs HP.out (by decide)).mono ?_;rintro e w2 ⟨rfl,hr2,hg2⟩;have HF2:=ai (HF1.out.is_yes hR h1 hr2 hg2);have HO2:=ai (HO1.out.trans0 (Onl.of_grown hg2));rw [h1];clear hr2 hg2 h1;go_wp2_with fail;refine (HROW.out w2 HF2.out HO2.out.size).mono ?_;rintro e w3 ⟨v3,ns,rfl,hF3,hW3,hns⟩;have HF3:=ai hF3;have HW3:=ai ((HO2.out.any v).trans hW3);have HNS:Hid (∀ q ∈ ns,∀ g,ny q g→w.heap.size≤g):=fun q hq g hg=>Nat.le_trans HO2.out.size (hns q hq g hg);clear hF3 hW3 hns HF1 HO1 HF2 HO2 HROW;go_wp2_with fail;refine (iN R s dC x.2.p x.2.bad v3 w3 HF3.out.rd hs HX.out (by decide)).mono ?_;rintro e w4 ⟨rfl,hr4,hg4⟩;cases hc:kz s dC x.2.p x.2.bad with
 | true =>
  have HF4:=ai (HF3.out.is_yes hR hc hr4 hg4);have HW4:=ai (HW3.out.trans ((Onl.of_grown hg4).any v3));have EQ:=ai (Dj (x:=x) hc);clear hr4 hg4 hc;go_wp2;exact bodyPost_ret (v:=.int .i64 x.1) (by simp [results,Tryz.results167,go_sem]) rfl (by rw [EQ.out]; exact ⟨v3,ns,rfl,HF4.out,HW4.out,HNS.out⟩)
 | false =>
  have HF4:=ai (HF3.out.is_no hR hc hr4 hg4);have HW4:=ai (HW3.out.trans ((Onl.of_grown hg4).any v3));have c2:=HF4.out.rd.c2;have f2:=HF4.out.rd.fr 2;have hl:=HF4.out.rd.lt;have EQ:=ai (FH (x:=x) hc);clear hr4 hg4 hc;go_wp2;exact bodyPost_ret (v:=.int .i64 x.1) (by simp [results,Tryz.results167,go_sem]) rfl (by rw [EQ.out]; exact ⟨v3,ns,rfl,HF4.out.over hR ((Onl.refl R lc w4).at_own _ _) HF4.out.rd.hurt,HW4.out.trans (((Onl.refl R lc w4).at_own _ _).any v3),HNS.out⟩)
theorem vV (n lo hi:Int) (w:World) :
  Calls prog 48 #[.int .i64 n,.int .i64 lo,.int .i64 hi] w fun e w'=>e=.returned (.bool (decide (lo≤n) && decide (n≤hi)))∧w'=w:=by
 go_enter func48,ntmps48;go_wp2
 all_goals go_ret
 all_goals exact ⟨ag (by simp [*] <;> omega),rfl⟩
set_option maxRecDepth 8000 in
theorem jW (r:ER) (w:World) (hf:r.e.fits) (h1:r.e.kind ≠ 1) :
  Calls prog 113 #[r.val] w fun e w'=>e=.returned (.bool (ay r.e))∧Below w.heap.size w w':=by
 obtain ⟨⟨kind,allow,over,name,kids⟩,adA,capA,adK,capK⟩:=r;obtain ⟨f1,f2,f3,f4,f5⟩:=hf;simp only at f1 f2 f3 f4 f5 h1;simp only [ER.val];unfold maxLen at f4 f5;by_cases h2:kind=2
 ·subst h2;clear h1;go_enter func113,ntmps113;go_wp2_with (go_at_call 78; refine (aD _ _ (by assumption)).mono ?_; rintro e w' ⟨rfl,rfl⟩)
  all_goals go_ret
  all_goals exact ⟨ag (by first | (simp [ay, *]; done) | (simp [ay, *]; omega) | (simp [ay, *]; rw [Bool.eq_iff_iff]; simp; done) | (simp [ay, *]; rw [Bool.eq_iff_iff]; simp; omega)),(Below.refl w.heap.size w).alloc (Nat.le_refl _) _⟩
 by_cases h3:kind=3
 ·subst h3;clear h1;go_enter func113,ntmps113;go_wp2_with (go_at_call 78; refine (aD _ _ (by assumption)).mono ?_; rintro e w' ⟨rfl,rfl⟩)
  all_goals go_ret
  all_goals exact ⟨ag (by first | (simp [ay, *]; done) | (simp [ay, *]; omega) | (simp [ay, *]; rw [Bool.eq_iff_iff]; simp; done) | (simp [ay, *]; rw [Bool.eq_iff_iff]; simp; omega)),(Below.refl w.heap.size w).alloc (Nat.le_refl _) _⟩
 by_cases h4:kind=4
 ·subst h4;clear h1;go_enter func113,ntmps113;go_wp2_with (go_at_call 78; refine (aD _ _ (by assumption)).mono ?_; rintro e w' ⟨rfl,rfl⟩)
  all_goals go_ret
  all_goals exact ⟨ag (by first | (simp [ay, *]; done) | (simp [ay, *]; omega) | (simp [ay, *]; rw [Bool.eq_iff_iff]; simp; done) | (simp [ay, *]; rw [Bool.eq_iff_iff]; simp; omega)),(Below.refl w.heap.size w).alloc (Nat.le_refl _) _⟩
 by_cases h5:kind=5
 ·subst h5;clear h1;go_enter func113,ntmps113;go_wp2_with (go_at_call 78; refine (aD _ _ (by assumption)).mono ?_; rintro e w' ⟨rfl,rfl⟩)
  all_goals go_ret
  all_goals exact ⟨ag (by first | (simp [ay, *]; done) | (simp [ay, *]; omega) | (simp [ay, *]; rw [Bool.eq_iff_iff]; simp; done) | (simp [ay, *]; rw [Bool.eq_iff_iff]; simp; omega)),(Below.refl w.heap.size w).alloc (Nat.le_refl _) _⟩
 by_cases h6:kind=6
 ·subst h6;clear h1;go_enter func113,ntmps113;go_wp2_with (go_at_call 78; refine (aD _ _ (by assumption)).mono ?_; rintro e w' ⟨rfl,rfl⟩)
  all_goals go_ret
  all_goals exact ⟨ag (by first | (simp [ay, *]; done) | (simp [ay, *]; omega) | (simp [ay, *]; rw [Bool.eq_iff_iff]; simp; done) | (simp [ay, *]; rw [Bool.eq_iff_iff]; simp; omega)),(Below.refl w.heap.size w).alloc (Nat.le_refl _) _⟩
 ·go_enter func113,ntmps113;go_wp2_with (go_at_call 78; refine (aD _ _ (by assumption)).mono ?_; rintro e w' ⟨rfl,rfl⟩)
  all_goals go_ret
  all_goals exact ⟨ag (by first | (simp [ay, *]; done) | (simp [ay, *]; omega) | (simp [ay, *]; rw [Bool.eq_iff_iff]; simp; done) | (simp [ay, *]; rw [Bool.eq_iff_iff]; simp; omega)),(Below.refl w.heap.size w).alloc (Nat.le_refl _) _⟩
theorem sG (x y:Al) {v:Bool} (h:jh x y=v) (w:World) :
  (binOp .eql 149 (.agg #[.string x.t,.string x.s]) (.agg #[.string y.t,.string y.s])).run prog w=.ok (.bool v) w:=by
 subst h;go_simp;unfold jh;by_cases h1:x.t.toList=y.t.toList <;> by_cases h2:x.s.toList=y.s.toList <;> simp [h1,h2]
theorem sH {xs:List Al} {j k:Nat} {a:Al} (hjk:j < k) (hj:j < xs.length) (h:jh xs[j] a=true):dz xs k a=true:=by
 unfold dz;rw [List.any_eq_true];refine ⟨xs[j],?_,h⟩;rw [List.mem_take_iff_getElem];exact ⟨j,by omega,rfl⟩
set_option maxRecDepth 8000 in
theorem yz (r:ER) (w:World) (hf:r.e.fits) (hok:r.ok w) (h1:r.e.kind=1) :
  Calls prog 113 #[r.val] w fun e w'=>e=.returned (.bool (ay r.e))∧Below w.heap.size w w':=by
 obtain ⟨⟨kind,allow,over,name,kids⟩,adA,capA,adK,capK⟩:=r;obtain ⟨f1,f2,f3,f4,f5⟩:=hf;obtain ⟨hA,hK⟩:=hok;simp only at f1 f2 f3 f4 f5 h1 hA hK;subst h1;simp only [ER.val];unfold maxLen at f4 f5;by_cases hl:1≤allow.length∧allow.length≤6
 ·obtain ⟨hl1,hl2⟩:=hl;obtain ⟨W,hW⟩:∃ W,W=w.alloc (.cells #[.int .i64 1,.slice adA allow.length capA,.string over,.string name,.slice adK kids.length capK] 139):=⟨_,rfl⟩;have HB0:Hid (Below w.heap.size w W):=by show Below _ _ _; rw [hW]; exact (Below.refl w.heap.size w).alloc (Nat.le_refl _) _
  have hz:w.heap.size < W.heap.size:=by rw [hW]; simp
  have b1:W.cell? ⟨w.heap.size,1,none⟩=some (.slice adA allow.length capA):=by rw [hW]; simp
  have b2:W.cell? ⟨w.heap.size,2,none⟩=some (.string over):=by rw [hW]; simp
  have b3:W.cell? ⟨w.heap.size,3,none⟩=some (.string name):=by rw [hW]; simp
  have HA:Hid (kF W adA allow):=hA.below HB0.out;have HF1:Hid (∀ a ∈ allow,a.fits):=f1;clear hA hK f1;go_enter func113,ntmps113;go_wp2_with fail;rw [← hW];clear hW;go_loopw [4] (fun i wr=>∃ k:Nat,k≤allow.length∧i=.int .i64 k∧Hid (yw allow k=true)∧Below W.heap.size W wr) (fun i _=>allow.length - (intOf i).toNat);case atStart=>exact ⟨0,Nat.zero_le _,rfl,rfl,Below.refl _ _⟩
  case round =>
   obtain ⟨k,hk,rfl,HU,hB⟩:=hrel;have a1:=kept hB hz b1;have a2:=kept hB hz b2;have a3:=kept hB hz b3;by_cases hlt:k < allow.length
   ·rcases HA.out.below hB with rfl | ⟨b,off,rfl,hb,hr⟩
    ·simp at hlt
    obtain ⟨t0,t1⟩:=hr k hlt;obtain ⟨z0,z1⟩:=HF1.out allow[k] (List.getElem_mem hlt);have HR:Hid (∀ (i:Nat) (h:i < allow.length),MZ wr b (off + i * 2) allow[i]):=hr;clear hr;obtain ⟨W1,hW1⟩:∃ W1,W1=wr.alloc (.cells #[.string allow[k].t,.string allow[k].s] 149):=⟨_,rfl⟩;have hal:Below wr.heap.size wr W1:=by rw [hW1]; exact (Below.refl _ _).alloc (Nat.le_refl _) _
    have hBW1:Below W.heap.size wr W1:=hal.mono hB.size;have hsz:w.heap.size < wr.heap.size:=Nat.lt_of_lt_of_le hz hB.size;have hWs:W.heap.size≤W1.heap.size:=Nat.le_trans hB.size hal.size;have c1:=kept hal hsz a1;have c2:=kept hal hsz a2;have c3:=kept hal hsz a3;have hbl:b < W1.heap.size:=Nat.lt_of_lt_of_le hb hal.size;have hgl:wr.heap.size < W1.heap.size:=by rw [hW1]; simp
    have g0:W1.cell? ⟨wr.heap.size,0,none⟩=some (.string allow[k].t):=by rw [hW1]; simp
    have g1:W1.cell? ⟨wr.heap.size,1,none⟩=some (.string allow[k].s):=by rw [hW1]; simp
    have HR1:Hid (∀ (i:Nat) (h:i < allow.length),MZ W1 b (off + i * 2) allow[i]):=fun i hi=>(HR.out i hi).same fun o=>hal.cell (p:=⟨b,o,none⟩) hb;cases hn:aU allow[k].t with
    | false =>
     have HN:Hid (yw allow allow.length=false):=kG allow k hlt (by simp [Br,hn]) _ hlt;go_wp2_with (go_at_call 78; refine (aD _ _ (by assumption)).mono ?_; rintro e w' ⟨rfl,rfl⟩);go_ret;exact ⟨ag (by simp [ay,dB,HN.out]),HB0.out.trans ((hB.trans ((Below.refl _ _).alloc hB.size _)).mono HB0.out.size)⟩
    | true =>
     cases he:allow[k].s.toList.isEmpty with
     | true =>
      have HAl:Hid (Br allow[k]=true):=by show _=_; simp [Br,qO,hn,he]
      go_wp2_with (go_at_call 78; refine (aD _ _ (by assumption)).mono ?_; rintro e w' ⟨rfl,rfl⟩);rw [← hW1];go_loopw [6] (fun i w2=>∃ j:Nat,j≤k∧i=.int .i64 j∧Hid (dz allow j allow[k]=false)∧Below W1.heap.size W1 w2) (fun i _=>k - (intOf i).toNat);case atStart=>exact ⟨0,Nat.zero_le _,rfl,lY _ _,Below.refl _ _⟩
      case round =>
       obtain ⟨j,hj,rfl,HP,hB2⟩:=hrel;rename_i w2 _;have d1:=kept hB2 (by omega) c1;have d2:=kept hB2 (by omega) c2;have d3:=kept hB2 (by omega) c3;have p0:=kept hB2 hgl g0;have p1:=kept hB2 hgl g1;by_cases hjk:j < k
       ·obtain ⟨q0,q1⟩:=(HR1.out j (by omega)).same fun o=>hB2.cell (p:=⟨b,o,none⟩) hbl;have hj1:=bR j;have hj2:(j:Int) < (allow.length:Int):=by omega
        cases hq:jh allow[j] allow[k] with
        | true =>
         have HE:=sG allow[j] allow[k] hq;have HN:Hid (yw allow allow.length=false):=kG allow k hlt (by rw [(sH hjk (by omega) hq)]; simp) _ hlt;go_wp2_with fail;go_quiet (fail);go_wp2;go_ret;exact ⟨ag (by simp [ay,dB,HN.out]),HB0.out.trans ((hB.trans (hBW1.trans (hB2.mono (by omega)))).mono HB0.out.size |> fun h=>below_drewN h _)⟩
        | false =>
         have HE:=sG allow[j] allow[k] hq;have HP2:Hid (dz allow (j + 1) allow[k]=false):=by show _=_; rw [lX _ _ _ (by omega),HP.out,hq]; rfl
         go_wp2_with fail;go_quiet (fail);go_wp2;go_roundw;case rel=>exact ⟨j + 1,by omega,by go_num,HP2,below_drewN hB2 _⟩
         case measure=>simp [intOf]; omega
       ·obtain rfl:j=k:=by omega
        have HU2:Hid (yw allow (j + 1)=true):=by show _=_; rw [qR _ _ hlt,HU.out,HAl.out,HP.out]; rfl
        go_wp2;go_roundw;case rel=>exact ⟨j + 1,by omega,by go_num,HU2,hB.trans (hBW1.trans (hB2.mono (by omega)))⟩
        case measure=>simp [intOf]; omega
     | false =>
      cases hm:aU allow[k].s with
      | false =>
       have HN:Hid (yw allow allow.length=false):=kG allow k hlt (by simp [Br,hn,qO,he,hm]) _ hlt;go_wp2_with (go_at_call 78; refine (aD _ _ (by assumption)).mono ?_; rintro e w' ⟨rfl,rfl⟩);go_ret;exact ⟨ag (by simp [ay,dB,HN.out]),HB0.out.trans ((hB.trans ((Below.refl _ _).alloc hB.size _)).mono HB0.out.size)⟩
      | true =>
       have HAl:Hid (Br allow[k]=true):=by show _=_; simp [Br,qO,hn,he,hm]
       go_wp2_with (go_at_call 78; refine (aD _ _ (by assumption)).mono ?_; rintro e w' ⟨rfl,rfl⟩);rw [← hW1];go_loopw [6] (fun i w2=>∃ j:Nat,j≤k∧i=.int .i64 j∧Hid (dz allow j allow[k]=false)∧Below W1.heap.size W1 w2) (fun i _=>k - (intOf i).toNat);case atStart=>exact ⟨0,Nat.zero_le _,rfl,lY _ _,Below.refl _ _⟩
       case round =>
        obtain ⟨j,hj,rfl,HP,hB2⟩:=hrel;rename_i w2 _;have d1:=kept hB2 (by omega) c1;have d2:=kept hB2 (by omega) c2;have d3:=kept hB2 (by omega) c3;have p0:=kept hB2 hgl g0;have p1:=kept hB2 hgl g1;by_cases hjk:j < k
        ·obtain ⟨q0,q1⟩:=(HR1.out j (by omega)).same fun o=>hB2.cell (p:=⟨b,o,none⟩) hbl;have hj1:=bR j;have hj2:(j:Int) < (allow.length:Int):=by omega
         cases hq:jh allow[j] allow[k] with
         | true =>
          have HE:=sG allow[j] allow[k] hq;have HN:Hid (yw allow allow.length=false):=kG allow k hlt (by rw [(sH hjk (by omega) hq)]; simp) _ hlt;go_wp2_with fail;go_quiet (fail);go_wp2;go_ret;exact ⟨ag (by simp [ay,dB,HN.out]),HB0.out.trans ((hB.trans (hBW1.trans (hB2.mono (by omega)))).mono HB0.out.size |> fun h=>below_drewN h _)⟩
         | false =>
          have HE:=sG allow[j] allow[k] hq;have HP2:Hid (dz allow (j + 1) allow[k]=false):=by show _=_; rw [lX _ _ _ (by omega),HP.out,hq]; rfl
          go_wp2_with fail;go_quiet (fail);go_wp2;go_roundw;case rel=>exact ⟨j + 1,by omega,by go_num,HP2,below_drewN hB2 _⟩
          case measure=>simp [intOf]; omega
        ·obtain rfl:j=k:=by omega
         have HU2:Hid (yw allow (j + 1)=true):=by show _=_; rw [qR _ _ hlt,HU.out,HAl.out,HP.out]; rfl
         go_wp2;go_roundw;case rel=>exact ⟨j + 1,by omega,by go_num,HU2,hB.trans (hBW1.trans (hB2.mono (by omega)))⟩
         case measure=>simp [intOf]; omega
   ·obtain rfl:k=allow.length:=by omega
    have HAW:Hid (dB allow=true):=by show _=_; simp [dB,hl1,hl2,HU.out]
    go_wp2
    all_goals go_ret
    all_goals exact ⟨ag (by first | (simp [ay,HAW.out, *]; done) | (simp [ay,HAW.out, *]; rw [Bool.eq_iff_iff]; simp; done)),HB0.out.trans (hB.mono HB0.out.size)⟩
 ·go_enter func113,ntmps113;go_wp2_with fail
  all_goals go_ret
  all_goals exact ⟨ag (by simp [ay,dB]; omega),(Below.refl w.heap.size w).alloc (Nat.le_refl _) _⟩
theorem Aa (r:ER) (w:World) (hf:r.e.fits) (hok:r.ok w) :
  Calls prog 113 #[r.val] w fun e w'=>e=.returned (.bool (ay r.e))∧Below w.heap.size w w':=by
 by_cases h:r.e.kind=1
 ·exact yz r w hf hok h
 ·exact jW r w hf h
theorem Onl.at_new {R:Nat} {v:Value} {w w':World} (h:Onl R v w w') {X:Nat} (hX:w.heap.size≤X) (o:Nat) (u:Value):Onl R v w (w'.setCell ⟨X,o,none⟩ u) :=
 ⟨h.os,h.tape,h.output,by simpa using h.size,fun k hk h1 h2=>(Below.heap_setCell w' _ _ k (by show k ≠ X; omega)).trans (h.block k hk h1 h2)⟩
theorem RdC.other {w:World} {R:Nat} {s:ByteArray} {p:Nat} {bad:Bool} {v:Value} (h:RdC w R s p bad v) {X:Nat} (hX:X ≠ R) (o:Nat) (u:Value):RdC (w.setCell ⟨X,o,none⟩ u) R s p bad v :=
 ⟨by simpa using h.lt,by rw [World.cell?_of_block (w:=w) (Below.heap_setCell w _ _ R (Ne.symm hX))]; exact h.c0,by rw [World.cell?_of_block (w:=w) (Below.heap_setCell w _ _ R (Ne.symm hX))]; exact h.c1,by rw [World.cell?_of_block (w:=w) (Below.heap_setCell w _ _ R (Ne.symm hX))]; exact h.c2,by rw [World.cell?_of_block (w:=w) (Below.heap_setCell w _ _ R (Ne.symm hX))]; exact h.c3,fun j=>by simpa using h.fr j⟩
theorem RdC.below {w w':World} {R:Nat} {s:ByteArray} {p:Nat} {bad:Bool} {v:Value} (h:RdC w R s p bad v) (hb:Below w.heap.size w w'):RdC w' R s p bad v :=
 h.grown (row:=none) ⟨hb.os,hb.tape,hb.output,hb.size,fun k hk _=>hb.block k hk⟩ (by simp)
theorem uK.below {w w':World} {g:Nat} {q:ER} (h:uK w g q) (hb:Below w.heap.size w w'):uK w' g q :=
 h.grown (row:=none) ⟨hb.os,hb.tape,hb.output,hb.size,fun k hk _=>hb.block k hk⟩ (by simp)
def bare (k:Int) (o n:ByteArray):ER:=⟨⟨k,[],o,n,[]⟩,none,0,none,0⟩
theorem jd (k:Int) (o n:ByteArray) (g:Nat):¬ ny (bare k o n) g:=by
 rintro (⟨h,-⟩ | ⟨h,-⟩) <;> exact h rfl
theorem ru (k:Int) (o n:ByteArray) (X:Nat) (w:World):NewQ X w (bare k o n) :=
 ⟨fun h=>absurd rfl h,fun h=>absurd rfl h,⟨.inl rfl,.inl rfl⟩,fun g h=>absurd h (jd k o n g),fun g h=>absurd (Or.inl h) (jd k o n g),Nat.le_refl _⟩
theorem Ik (w:World) (k:Int) (o n:ByteArray):uK (w.alloc (.cells #[.int .i64 k,.slice none 0 0,.string o,.string n,.slice none 0 0] 139)) w.heap.size (bare k o n):=by
 refine ⟨?_,?_,?_,?_,?_,?_⟩ <;> simp [bare]
theorem Il {w:World} {X:Nat} {a0 a1 a2 a3 a4:Value} (h0:w.cell? ⟨X,0,none⟩=some a0) (h1:w.cell? ⟨X,1,none⟩=some a1) (h2:w.cell? ⟨X,2,none⟩=some a2) (h3:w.cell? ⟨X,3,none⟩=some a3) (h4:w.cell? ⟨X,4,none⟩=some a4) (hl:X < w.heap.size) (k:Int) (o n:ByteArray) :
  uK (((((w.setCell ⟨X,0,none⟩ (.int .i64 k)).setCell ⟨X,1,none⟩ (.slice none 0 0)).setCell ⟨X,2,none⟩ (.string o)).setCell ⟨X,3,none⟩ (.string n)).setCell ⟨X,4,none⟩ (.slice none 0 0)) X (bare k o n):=by
 refine ⟨?_,?_,?_,?_,?_,by simpa using hl⟩
 ·rw [mO (by omega),mO (by omega),mO (by omega),mO (by omega)]; exact mS h0
 ·rw [mO (by omega),mO (by omega),mO (by omega)]; exact mS (by rw [mO (by omega)]; exact h1)
 ·rw [mO (by omega),mO (by omega)]; exact mS (by rw [mO (by omega),mO (by omega)]; exact h2)
 ·rw [mO (by omega)]; exact mS (by rw [mO (by omega),mO (by omega),mO (by omega)]; exact h3)
 ·exact mS (by rw [mO (by omega),mO (by omega),mO (by omega),mO (by omega)]; exact h4)
def VB (l:List Value) (R:Nat) (s:ByteArray) (p:Nat) (bad:Bool) (v:Value) (k:Nat) (u:Value) (w':World):Prop:=u=l.getD k undef∧(k=3→RdC w' R s p bad v)
structure GB (R:Nat) (s:ByteArray) (p:Nat) (bad:Bool) (v:Value) (X:Nat) (q:ER) (w:World) (listed:Array Bool) (w':World):Prop where
 rd:listed.getD 3 false=false→RdC w' R s p bad v
 box:uK w' X q
 onl:Onl R lc w w'
 fr:iG w' X
theorem GB.step {R:Nat} {s:ByteArray} {p:Nat} {bad:Bool} {v:Value} {X:Nat} {q:ER} {w w':World} {listed:Array Bool} (h:GB R s p bad v X q w listed w') {i:Nat} (hls:listed.size=6) (h3:i ≠ 3):GB R s p bad v X q w (listed.setIfInBounds i true) w' :=
 ⟨fun k=>h.rd (by
  by_cases hi:i < 6
  ·rw [aW _ _ _ (by omega),if_neg (Ne.symm h3)] at k; exact k
  ·rw [show listed.setIfInBounds i true=listed by rw [Array.setIfInBounds_eq_of_size_le (by omega)]] at k; exact k),h.box,h.onl,h.fr⟩
theorem GB.called {R:Nat} {s:ByteArray} {p:Nat} {bad:Bool} {v:Value} {X:Nat} {q:ER} {w w' w'':World} {listed:Array Bool} (h:GB R s p bad v X q w listed w') (hls:listed.size=6) (hg:w'.grownBy w'' (some R)) (hX:X ≠ R):GB R s p bad v X q w (listed.setIfInBounds 3 true) w'' :=
 ⟨fun k=>(by rw [aW _ _ _ (by omega),if_pos rfl] at k; cases k),h.box.grown hg (by intro e; injection e with e; exact hX e),h.onl.trans0 (Onl.of_grown hg),bF h.fr (hg.block X h.box.2.2.2.2.2 (by intro e; injection e with e; exact hX e))⟩
theorem Im {s:ByteArray} {st:RS} (h:kz s l8 (st.p + aj s st.p) st.bad=false):dM s st=⟨2,[],⟨#[]⟩,av s st.p,[]⟩∧aI s st=⟨st.p + aj s st.p,st.bad,st.out⟩:=by
 have e:jM s l8 (bf s st)=false:=h;exact ⟨by unfold dM; rw [e]; rfl,by unfold aI; rw [e]; rfl⟩
theorem FI {s:ByteArray} {st:RS} (h:kz s l8 (st.p + aj s st.p) st.bad=true):dM s st=⟨3,[],av s st.p,av s (st.p + aj s st.p + 2),[]⟩∧aI s st=⟨st.p + aj s st.p + 2 + aj s (st.p + aj s st.p + 2),st.bad,st.out⟩:=by
 have e:jM s l8 (bf s st)=true:=h;exact ⟨by unfold dM; rw [e]; rfl,by unfold aI; rw [e]; rfl⟩
theorem FJ (R:Nat) (s:ByteArray) (st:RS) (base:Nat) (v:Value) (qs:List ER) (w:World) (h:RdF w R s st base v qs) (hR:R < base) (hB:base≤w.heap.size) (hs:s.size≤1000) (hp:st.p≤s.size) (hn:qs.length≤100000)
  (h0:kz s d9 st.p st.bad=false) (h1:kz s ig st.p st.bad=false) :
  Calls prog 167 #[.pointer (some ⟨R,0,none⟩)] w (rq R s base v qs w ((st.out.length:Int),pK (dM s st) (judged (dM s st) (aI s st)))):=by
 have H:=ai h;have HP:=ai hp;clear h hp;go_enter func167,ntmps167;go_wp2_with fail;refine (iN R s d9 st.p st.bad v w H.out.rd hs HP.out (by decide)).mono ?_;rintro e w1 ⟨rfl,hr1,hg1⟩;have HF1:=ai (H.out.is_no hR h0 hr1 hg1);have HO1:=ai (Onl.of_grown hg1);rw [h0];clear hr1 hg1 h0;go_wp2_with fail;refine (iN R s ig st.p st.bad v w1 HF1.out.rd hs HP.out (by decide)).mono ?_;rintro e w2 ⟨rfl,hr2,hg2⟩;have HF2:=ai (HF1.out.is_no hR h1 hr2 hg2);have HO2:=ai (HO1.out.trans0 (Onl.of_grown hg2));rw [h1];clear hr2 hg2 h1 HF1 HO1;go_wp2_with fail;refine (rf R s st.p st.bad v w2 HF2.out.rd hs HP.out).mono ?_;rintro e w3 ⟨rfl,hr3,hg3⟩;have HF3:=ai (HF2.out.over hR (Onl.of_grown hg3) hr3);have HO3:=ai (HO2.out.trans0 (Onl.of_grown hg3));have HP3:=ai (jl s st.p HP.out);have HSZ:=ai (vR s st.p HP.out);clear hr3 hg3 HF2 HO2;obtain ⟨W4,hW4⟩:∃ W4,W4=w3.alloc (.cells #[.int .i64 2,.slice none 0 0,.string ⟨#[]⟩,.string (av s st.p),.slice none 0 0] 139):=⟨_,rfl⟩;have HV4:Hid (uK W4 w3.heap.size (bare 2 ⟨#[]⟩ (av s st.p))):=by rw [hW4]; exact Ik w3 2 ⟨#[]⟩ (av s st.p)
 have HO4a:Hid (Onl R lc w3 W4):=by rw [hW4]; exact Onl.of_below ((Below.refl _ _).alloc (Nat.le_refl _) _)
 have HF4:Hid (RdF W4 R s ⟨st.p + aj s st.p,st.bad,st.out⟩ base v qs):=HF3.out.over hR HO4a.out (by rw [hW4]; exact HF3.out.rd.below ((Below.refl _ _).alloc (Nat.le_refl _) _));have HO4:=ai (HO3.out.trans0 HO4a.out);have HFR4:Hid (iG W4 w3.heap.size):=fun y=>by rw [hW4]; simp
 have HXR:Hid (w3.heap.size ≠ R):=by have:=HF3.out.rd.lt; show _ ≠ _; omega
 have HX0:Hid (w.heap.size≤w3.heap.size):=HO3.out.size;have HX3:Hid (w3.heap.size≤w3.heap.size):=Nat.le_refl _;go_wp2_with fail;rw [← hW4];clear hW4;obtain ⟨X,hX⟩:∃ X,X=w3.heap.size:=⟨_,rfl⟩;rw [← hX] at HV4 HFR4 HXR HX0;replace HX3:Hid (w3.heap.size≤X):=Nat.le_of_eq hX.symm;rw [← hX];clear hX;refine (iN R s l8 (st.p + aj s st.p) st.bad v W4 HF4.out.rd hs HP3.out (by decide)).mono ?_;rintro e w5 ⟨rfl,hr5,hg5⟩;have HV5:=ai (HV4.out.grown hg5 (by intro e; injection e with e; exact HXR.out e));have HFR5:=ai (bF HFR4.out (hg5.block X HV4.out.2.2.2.2.2 (by intro e; injection e with e; exact HXR.out e)));have HO5:=ai (HO4.out.trans0 (Onl.of_grown hg5));have HO35:=ai (HO4a.out.trans0 (Onl.of_grown hg5));cases hc:kz s l8 (st.p + aj s st.p) st.bad with
 | false =>
  have HF5:=ai (HF4.out.is_no hR hc hr5 hg5);have EQ:=ai (Im hc);clear hr5 hg5 hc HF4 HO4 HV4 HFR4;obtain ⟨x0,x1,x2,x3,x4,xl⟩:=HV5.out;replace x0:w5.cell? ⟨X,0,none⟩=some (.int .i64 2):=x0;replace x1:w5.cell? ⟨X,1,none⟩=some (.slice none 0 0):=x1;replace x2:w5.cell? ⟨X,2,none⟩=some (.string ⟨#[]⟩):=x2;replace x3:w5.cell? ⟨X,3,none⟩=some (.string (av s st.p)):=x3;replace x4:w5.cell? ⟨X,4,none⟩=some (.slice none 0 0):=x4;go_wp2_with fail;refine (jW (bare 2 ⟨#[]⟩ (av s st.p)) w5 ⟨fun a ha=>(by cases ha),Nat.zero_le _,by show (av s st.p).size≤maxLen; rw [HSZ.out]; have:=HP3.out; unfold maxLen; omega,Nat.zero_le _,Nat.zero_le _⟩ (by show (2:Int) ≠ 1; decide)).mono ?_;rintro e w6 ⟨rfl,hB6⟩;have HO6:=ai (HO5.out.trans0 (Onl.of_below hB6));have HF6:=ai (HF5.out.over hR (Onl.of_below hB6) (HF5.out.rd.below hB6));obtain ⟨y0,y1,y2,y3,y4,yl⟩:=HV5.out.below hB6;replace y0:w6.cell? ⟨X,0,none⟩=some (.int .i64 2):=y0;replace y1:w6.cell? ⟨X,1,none⟩=some (.slice none 0 0):=y1;replace y2:w6.cell? ⟨X,2,none⟩=some (.string ⟨#[]⟩):=y2;replace y3:w6.cell? ⟨X,3,none⟩=some (.string (av s st.p)):=y3;replace y4:w6.cell? ⟨X,4,none⟩=some (.slice none 0 0):=y4;clear x0 x1 x2 x3 x4 xl hB6 HV5 HF5 HO5;cases hb:ay (bare 2 ⟨#[]⟩ (av s st.p)).e with
  | true =>
   have HE:Hid (dM s st=(bare 2 ⟨#[]⟩ (av s st.p)).e∧judged (dM s st) (aI s st)=(⟨st.p + aj s st.p,st.bad,st.out⟩:RS)):=by
    refine ⟨EQ.out.1,?_⟩;rw [EQ.out.1,EQ.out.2];exact if_pos hb
   clear hb;go_wp2_with fail;refine (Di R s ((⟨st.p + aj s st.p,st.bad,st.out⟩:RS)) base v qs (bare 2 ⟨#[]⟩ (av s st.p)) w6 HF6.out hR (Nat.le_trans hB HO6.out.size) hn (ru _ _ _ _ _) (.inl ⟨rfl,rfl,rfl⟩) (fun g hg=>absurd hg (jd _ _ _ g))).mono ?_;rintro e w7 ⟨v7,rfl,hF7,hW7⟩;have HF7:=ai hF7;have HW7:=ai ((HO6.out.any v).trans hW7);clear hF7 hW7;go_wp2;exact bodyPost_ret (v:=.int .i64 (st.out.length:Int)) (by simp [results,Tryz.results167,go_sem]) rfl (by rw [HE.out.1,← HE.out.1,HE.out.2,HE.out.1]; exact ⟨v7,[bare 2 ⟨#[]⟩ (av s st.p)],rfl,HF7.out,HW7.out,fun q hq g hg=>by rw [List.mem_singleton] at hq; subst hq; exact absurd hg (jd _ _ _ g)⟩)
  | false =>
   have HE:Hid (dM s st=(bare 2 ⟨#[]⟩ (av s st.p)).e∧judged (dM s st) (aI s st)=qZ ((⟨st.p + aj s st.p,st.bad,st.out⟩:RS))):=by
    refine ⟨EQ.out.1,?_⟩;rw [EQ.out.1,EQ.out.2];exact if_neg (fun e=>by have:=e.symm.trans hb; cases this)
   clear hb;have c2:=HF6.out.rd.c2;have f2:=HF6.out.rd.fr 2;have hl:=HF6.out.rd.lt;have hxr:=HXR.out;have hrx:=Ne.symm HXR.out;have HO7:Hid (Onl R lc w (w6.setCell ⟨R,2,none⟩ (.bool true))):=HO6.out.at_own _ _;have HF7:Hid (RdF (w6.setCell ⟨R,2,none⟩ (.bool true)) R s (qZ ((⟨st.p + aj s st.p,st.bad,st.out⟩:RS))) base v qs):=HF6.out.over hR ((Onl.refl R lc w6).at_own _ _) HF6.out.rd.hurt;go_wp2_with fail;refine (Di R s (qZ ((⟨st.p + aj s st.p,st.bad,st.out⟩:RS))) base v qs (bare 2 ⟨#[]⟩ (av s st.p)) _ HF7.out hR (Nat.le_trans hB HO7.out.size) hn (ru _ _ _ _ _) (.inl ⟨rfl,rfl,rfl⟩) (fun g hg=>absurd hg (jd _ _ _ g))).mono ?_;rintro e w8 ⟨v8,rfl,hF8,hW8⟩;have HF8:=ai hF8;have HW8:=ai ((HO7.out.any v).trans hW8);clear hF8 hW8;go_wp2;exact bodyPost_ret (v:=.int .i64 (st.out.length:Int)) (by simp [results,Tryz.results167,go_sem,qZ]) rfl (by rw [HE.out.1,← HE.out.1,HE.out.2,HE.out.1]; exact ⟨v8,[bare 2 ⟨#[]⟩ (av s st.p)],rfl,HF8.out,HW8.out,fun q hq g hg=>by rw [List.mem_singleton] at hq; subst hq; exact absurd hg (jd _ _ _ g)⟩)
 | true =>
  have HF5:=ai (HF4.out.is_yes hR hc hr5 hg5);have EQ:=ai (FI hc);have HP5:Hid (st.p + aj s st.p + 2≤s.size):=sF hc;clear hr5 hg5 hc HF4 HO4 HV4 HFR4;go_wp2_with fail;refine jV 5 (fun _=>undef) (fun f=>{ tmps:=List.toArray (Value.pointer (some ⟨R,0,none⟩)::undef::.int .i64 0::undef::undef::undef::.pointer (some ⟨X,0,none⟩)::.pointer (some ⟨R,0,none⟩)::.bool false::undef::undef::undef::undef::undef::undef::undef::undef::undef::undef::undef::undef::undef::undef::undef::undef::undef::undef::undef::undef::undef::undef::undef::undef::undef::undef::undef::undef::undef::undef::undef::.pointer (some ⟨R,0,none⟩)::.bool false::undef::undef::undef::undef::undef::undef::undef::undef::undef::.pointer (some ⟨R,0,none⟩)::.string (av s st.p)::.agg #[.int .i64 2,.slice none 0 0,.string ⟨#[]⟩,.string (av s st.p),.slice none 0 0]::.pointer (some ⟨R,0,none⟩)::.bool true::f 0::f 1::f 2::f 3::f 4::undef::undef::undef::undef::undef::undef::undef::undef::undef::[]),defers:=[] }) (VB (Value.pointer (some ⟨X,3,none⟩)::.string (av s st.p)::.pointer (some ⟨R,0,none⟩)::.string (av s (st.p + aj s st.p + 2))::.agg #[.int .i64 3,.slice none 0 0,.string (av s st.p),.string (av s (st.p + aj s st.p + 2)),.slice none 0 0]::[]) R s ((st.p + aj s st.p + 2) + aj s (st.p + aj s st.p + 2)) st.bad v) (GB R s (st.p + aj s st.p + 2) st.bad v X (bare 2 ⟨#[]⟩ (av s st.p)) w3) (by kernel_rfl) rfl (by decide +kernel) (by decide +kernel) rfl ⟨fun _=>HF5.out.rd.drewN 1,HV5.out,⟨HO35.out.os,HO35.out.tape,HO35.out.output,HO35.out.size,HO35.out.block⟩,HFR5.out⟩ ?jI ?finB;case jI =>
   rintro i hi o ho listed f w' hls hli hG hpre;have HG:=ai hG;have HM:Hid (∀ e ∈ o.after,Region.binds .any e=true→_):=hpre;clear hG hpre;have hc:i=0 ∨ i=1 ∨ i=2 ∨ i=3 ∨ i=4:=by omega
   clear hi
   repeat' rcases hc with rfl | hc
   ·obtain rfl:=Option.some.inj ho;have HS:=ai (HG.out.step (i:=0) hls (by decide));refine aa rfl fun K HK=>?_;clear ho HM;dsimp only;go_simp;exact HK.out _ _ ⟨Value.pointer (some ⟨X,3,none⟩),by simp [upd],HS.out,⟨rfl,fun e=>absurd e (by decide)⟩,fun k u _ hu=>hu⟩
   ·obtain rfl:=Option.some.inj ho;have e0:f 0=Value.pointer (some ⟨X,3,none⟩):=(HM.out ⟨0,.data⟩ (by simp) rfl).1;have x3:w'.cell? ⟨X,3,none⟩=some (.string (av s st.p)):=HG.out.box.2.2.2.1;have HS:=ai (HG.out.step (i:=1) hls (by decide));refine aa rfl fun K HK=>?_;clear ho HM;simp only [e0];go_simp;exact HK.out _ _ ⟨Value.string (av s st.p),by simp [upd,e0],HS.out,⟨rfl,fun e=>absurd e (by decide)⟩,fun k u _ hu=>hu⟩
   ·obtain rfl:=Option.some.inj ho;have HS:=ai (HG.out.step (i:=2) hls (by decide));refine aa rfl fun K HK=>?_;clear ho HM;dsimp only;go_simp;exact HK.out _ _ ⟨Value.pointer (some ⟨R,0,none⟩),by simp [upd],HS.out,⟨rfl,fun e=>absurd e (by decide)⟩,fun k u _ hu=>hu⟩
   ·obtain rfl:=Option.some.inj ho;have e2:f 2=Value.pointer (some ⟨R,0,none⟩):=(HM.out ⟨2,.data⟩ (by simp) rfl).1;have hrd:=ai (HG.out.rd (Dh hli hls (by omega)));refine aa rfl fun K HK=>?_;clear ho HM;simp only [e2];go_simp;refine (rf R s (st.p + aj s st.p + 2) st.bad v w' hrd.out hs HP5.out).mono ?_;rintro e w7 ⟨rfl,hr7,hg7⟩;have HS:=ai (HG.out.called hls hg7 HXR.out);have HR7:=ai hr7;clear hr7 hg7;go_wp2_with fail;exact HK.out _ _ ⟨Value.string (av s (st.p + aj s st.p + 2)),by simp [upd,e2],HS.out,⟨rfl,fun _=>HR7.out⟩,fun k u hk hu=>⟨hu.1,fun e=>absurd e hk⟩⟩
   ·obtain rfl:=Option.some.inj ho;have e1:f 1=Value.string (av s st.p):=(HM.out ⟨1,.data⟩ (by simp) rfl).1;have e3:f 3=Value.string (av s (st.p + aj s st.p + 2)):=(HM.out ⟨3,.data⟩ (by simp) rfl).1;have HS:=ai (HG.out.step (i:=4) hls (by decide));refine aa rfl fun K HK=>?_;clear ho HM;simp only [e1,e3];go_simp;exact HK.out _ _ ⟨Value.agg #[.int .i64 3,.slice none 0 0,.string (av s st.p),.string (av s (st.p + aj s st.p + 2)),.slice none 0 0],by simp [upd,e1,e3],HS.out,⟨rfl,fun e=>absurd e (by decide)⟩,fun k u _ hu=>hu⟩
  case finB =>
   rintro o ho listed f w' hG hall;obtain rfl:=Option.some.inj ho;have e4:f 4=Value.agg #[.int .i64 3,.slice none 0 0,.string (av s st.p),.string (av s (st.p + aj s st.p + 2)),.slice none 0 0]:=(hall 4 (by omega)).1;have HRD:=ai ((hall 3 (by omega)).2 rfl);have HG:=ai hG;obtain ⟨x0,x1,x2,x3,x4,xl⟩:=hG.box;have f0:=hG.fr 0;have f1:=hG.fr 1;have f2:=hG.fr 2;have f3:=hG.fr 3;have f4:=hG.fr 4;clear ho hall hG;refine wpOp_step rfl (fun K hK=>?_);have HK:Hid (∀ a w,_→K a w):=hK;clear hK;simp only [e4];go_simp;refine HK.out _ _ ?_;clear HK;obtain ⟨wz,hwz⟩:∃ wz,wz=(((((w'.setCell ⟨X,0,none⟩ (.int .i64 3)).setCell ⟨X,1,none⟩ (.slice none 0 0)).setCell ⟨X,2,none⟩ (.string (av s st.p))).setCell ⟨X,3,none⟩ (.string (av s (st.p + aj s st.p + 2)))).setCell ⟨X,4,none⟩ (.slice none 0 0)):=⟨_,rfl⟩;have HO3z:Hid (Onl R lc w3 wz):=by rw [hwz]; exact ((((HG.out.onl.at_new HX3.out _ _).at_new HX3.out _ _).at_new HX3.out _ _).at_new HX3.out _ _).at_new HX3.out _ _
   have HRz:Hid (RdC wz R s (st.p + aj s st.p + 2 + aj s (st.p + aj s st.p + 2)) st.bad v):=by rw [hwz]; exact ((((HRD.out.other HXR.out _ _).other HXR.out _ _).other HXR.out _ _).other HXR.out _ _).other HXR.out _ _
   have HVz:Hid (uK wz X (bare 3 (av s st.p) (av s (st.p + aj s st.p + 2)))):=by rw [hwz]; exact Il x0 x1 x2 x3 x4 xl _ _ _
   clear HV5 HF5 HO5 HO35 HFR5;have HF5:=ai (HF3.out.over hR HO3z.out HRz.out);have HO5:=ai (HO3.out.trans0 HO3z.out);rw [← hwz];clear hwz x0 x1 x2 x3 x4 xl f0 f1 f2 f3 f4 e4 HRz HO3z HG HRD;obtain ⟨x0,x1,x2,x3,x4,xl⟩:=HVz.out;replace x0:wz.cell? ⟨X,0,none⟩=some (.int .i64 3):=x0;replace x1:wz.cell? ⟨X,1,none⟩=some (.slice none 0 0):=x1;replace x2:wz.cell? ⟨X,2,none⟩=some (.string (av s st.p)):=x2;replace x3:wz.cell? ⟨X,3,none⟩=some (.string (av s (st.p + aj s st.p + 2))):=x3;replace x4:wz.cell? ⟨X,4,none⟩=some (.slice none 0 0):=x4;go_wp2_with fail;refine (jW (bare 3 (av s st.p) (av s (st.p + aj s st.p + 2))) wz ⟨fun a ha=>(by cases ha),by show (av s st.p).size≤maxLen; rw [HSZ.out]; have:=HP3.out; unfold maxLen; omega,by show (av s (st.p + aj s st.p + 2)).size≤maxLen; rw [vR s _ HP5.out]; have:=jl s _ HP5.out; unfold maxLen; omega,Nat.zero_le _,Nat.zero_le _⟩ (by show (3:Int) ≠ 1; decide)).mono ?_;rintro e w6 ⟨rfl,hB6⟩;have HO6:=ai (HO5.out.trans0 (Onl.of_below hB6));have HF6:=ai (HF5.out.over hR (Onl.of_below hB6) (HF5.out.rd.below hB6));obtain ⟨y0,y1,y2,y3,y4,yl⟩:=HVz.out.below hB6;replace y0:w6.cell? ⟨X,0,none⟩=some (.int .i64 3):=y0;replace y1:w6.cell? ⟨X,1,none⟩=some (.slice none 0 0):=y1;replace y2:w6.cell? ⟨X,2,none⟩=some (.string (av s st.p)):=y2;replace y3:w6.cell? ⟨X,3,none⟩=some (.string (av s (st.p + aj s st.p + 2))):=y3;replace y4:w6.cell? ⟨X,4,none⟩=some (.slice none 0 0):=y4;clear x0 x1 x2 x3 x4 xl hB6 HVz HF5 HO5;cases hb:ay (bare 3 (av s st.p) (av s (st.p + aj s st.p + 2))).e with
   | true =>
    have HE:Hid (dM s st=(bare 3 (av s st.p) (av s (st.p + aj s st.p + 2))).e∧judged (dM s st) (aI s st)=(⟨st.p + aj s st.p + 2 + aj s (st.p + aj s st.p + 2),st.bad,st.out⟩:RS)):=by
     refine ⟨EQ.out.1,?_⟩;rw [EQ.out.1,EQ.out.2];exact if_pos hb
    clear hb;go_wp2_with fail;refine (Di R s ((⟨st.p + aj s st.p + 2 + aj s (st.p + aj s st.p + 2),st.bad,st.out⟩:RS)) base v qs (bare 3 (av s st.p) (av s (st.p + aj s st.p + 2))) w6 HF6.out hR (Nat.le_trans hB HO6.out.size) hn (ru _ _ _ _ _) (.inl ⟨rfl,rfl,rfl⟩) (fun g hg=>absurd hg (jd _ _ _ g))).mono ?_;rintro e w7 ⟨v7,rfl,hF7,hW7⟩;have HF7:=ai hF7;have HW7:=ai ((HO6.out.any v).trans hW7);clear hF7 hW7;go_wp2;exact bodyPost_ret (v:=.int .i64 (st.out.length:Int)) (by simp [results,Tryz.results167,go_sem]) rfl (by rw [HE.out.1,← HE.out.1,HE.out.2,HE.out.1]; exact ⟨v7,[bare 3 (av s st.p) (av s (st.p + aj s st.p + 2))],rfl,HF7.out,HW7.out,fun q hq g hg=>by rw [List.mem_singleton] at hq; subst hq; exact absurd hg (jd _ _ _ g)⟩)
   | false =>
    have HE:Hid (dM s st=(bare 3 (av s st.p) (av s (st.p + aj s st.p + 2))).e∧judged (dM s st) (aI s st)=qZ ((⟨st.p + aj s st.p + 2 + aj s (st.p + aj s st.p + 2),st.bad,st.out⟩:RS))):=by
     refine ⟨EQ.out.1,?_⟩;rw [EQ.out.1,EQ.out.2];exact if_neg (fun e=>by have:=e.symm.trans hb; cases this)
    clear hb;have c2:=HF6.out.rd.c2;have f2:=HF6.out.rd.fr 2;have hl:=HF6.out.rd.lt;have hxr:=HXR.out;have hrx:=Ne.symm HXR.out;have HO7:Hid (Onl R lc w (w6.setCell ⟨R,2,none⟩ (.bool true))):=HO6.out.at_own _ _;have HF7:Hid (RdF (w6.setCell ⟨R,2,none⟩ (.bool true)) R s (qZ ((⟨st.p + aj s st.p + 2 + aj s (st.p + aj s st.p + 2),st.bad,st.out⟩:RS))) base v qs):=HF6.out.over hR ((Onl.refl R lc w6).at_own _ _) HF6.out.rd.hurt;go_wp2_with fail;refine (Di R s (qZ ((⟨st.p + aj s st.p + 2 + aj s (st.p + aj s st.p + 2),st.bad,st.out⟩:RS))) base v qs (bare 3 (av s st.p) (av s (st.p + aj s st.p + 2))) _ HF7.out hR (Nat.le_trans hB HO7.out.size) hn (ru _ _ _ _ _) (.inl ⟨rfl,rfl,rfl⟩) (fun g hg=>absurd hg (jd _ _ _ g))).mono ?_;rintro e w8 ⟨v8,rfl,hF8,hW8⟩;have HF8:=ai hF8;have HW8:=ai ((HO7.out.any v).trans hW8);clear hF8 hW8;go_wp2;exact bodyPost_ret (v:=.int .i64 (st.out.length:Int)) (by simp [results,Tryz.results167,go_sem,qZ]) rfl (by rw [HE.out.1,← HE.out.1,HE.out.2,HE.out.1]; exact ⟨v8,[bare 3 (av s st.p) (av s (st.p + aj s st.p + 2))],rfl,HF8.out,HW8.out,fun q hq g hg=>by rw [List.mem_singleton] at hq; subst hq; exact absurd hg (jd _ _ _ g)⟩)
end Go.Proofs.YteoflgocljfgeaaGreatDoor
