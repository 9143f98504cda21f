/- The document's reader in memory: its block, its nodes, each node's lists in blocks of their own; one more node. -/
import Derived.Test.YtajkkeikihhejaaGreatSq
import Derived.Test.YtajkkeikihhejaaGreatJ8
open Go.Proofs.Tryz
set_option maxHeartbeats 80000000
namespace Go.Proofs.YtajkkeikihhejaaGreat
set_option maxRecDepth 100000
open Go.ChangeShapes Go.WideShapes Go.ChangeAt Go.RowKit
open Pl
structure Went (R:Nat) (v:Value) (w:ae) (v':Value) (w':ae):Prop where
 onl:Onl R v w w'
 own:v'.ownBlock=v.ownBlock ∨ ∃ g,v'.ownBlock=some g∧w.heap.size≤g
theorem Onl.refl (R:Nat) (v:Value) (w:ae):Onl R v w w:=⟨rfl,rfl,rfl,Sy _,fun _ _ _ _=>rfl⟩
theorem Went.refl (R:Nat) (v:Value) (w:ae):Went R v w v w:=⟨Onl.refl R v w,.inl rfl⟩
theorem Went.apart {R:Nat} {v v':Value} {w w':ae} (h:Went R v w v' w') {k:Nat} (hk:k < w.heap.size) (hv:v.ownBlock ≠ some k):v'.ownBlock ≠ some k:=by
 rcases h.own with e | ⟨g,e,hg⟩
 ·rw [e]; exact hv
 rw [e]; intro h2; injection h2 with h2; omega
theorem Went.trans {R:Nat} {v v1 v2:Value} {w w1 w2:ae} (h:Went R v w v1 w1) (h2:Went R v1 w1 v2 w2):Went R v w v2 w2:=by
 refine ⟨⟨h2.onl.os.trans h.onl.os,h2.onl.tape.trans h.onl.tape,h2.onl.output.trans h.onl.output,SF h.onl.size h2.onl.size,fun k hk h3 h4=>(h2.onl.block k (Sv hk h.onl.size) h3 (h.apart hk h4)).trans (h.onl.block k hk h3 h4)⟩,?_⟩;rcases h2.own with e | ⟨g,e,hg⟩
 ·rw [e]; exact h.own
 exact .inr ⟨g,e,SF h.onl.size hg⟩
abbrev nE:Value:=.slice none 0 0
theorem Onl.any {R:Nat} {w w':ae} (h:Onl R nE w w') (v:Value):Went R v w v w':=⟨⟨h.os,h.tape,h.output,h.size,fun k hk h1 _=>h.block k hk h1 (by simp [Value.ownBlock])⟩,.inl rfl⟩
theorem Onl.of_grown {R:Nat} {w w':ae} (h:w.grownBy w' (some R)):Onl R nE w w':=⟨h.os,h.tape,h.output,h.size,fun k hk h1 _=>h.block k hk (fun e=>h1 (by injection e))⟩
theorem Onl.trans0 {R:Nat} {w w1 w2:ae} (h:Onl R nE w w1) (h2:Onl R nE w1 w2):Onl R nE w w2:=((h.any nE).trans (h2.any nE)).onl
theorem Onl.of_below {R:Nat} {w w':ae} (h:af w w'):Onl R nE w w':=⟨h.os,h.tape,h.output,h.size,fun k hk _ _=>h.block k hk⟩
def Bf (w:ae) (base:Nat) (q:ER):Prop:=(q.e.kids=[]∧q.adK=none∧q.capK=0) ∨ (q.e.kids ≠ []∧w.ownsRow base 2 1 (.slice q.adK q.e.kids.length q.capK) q.e.kids.length (ints q.e.kids))
structure RdF (w:ae) (R:Nat) (s:aD) (st:RS) (base:Nat) (v:Value) (qs:List ER):Prop where
 rd:RdC w R s st.p st.bad v
 own:w.ownsRow base 39 5 v qs.length (jJ qs)
 out:ak qs=st.out
 zA:∀ q ∈ qs,q.e.allow ≠ []→∃ g,q.adA=some ⟨g,0,none⟩
 zK:∀ q ∈ qs,q.e.kids ≠ []→∃ g,q.adK=some ⟨g,0,none⟩
 ok:∀ q ∈ qs,q.ok w
 lie:∀ q ∈ qs,∀ g,pI q g→base≤g∧g < w.heap.size∧jN w g∧v.ownBlock ≠ some g
 one:∀ q ∈ qs,∀ g,bA q g→¬ bK q g
 two:∀ (x y:Nat) (hx:x < qs.length) (hy:y < qs.length),x ≠ y→∀ g,pI qs[x] g→¬ pI qs[y] g
 cA:∀ q ∈ qs,q.e.allow.length≤q.capA
 cK:∀ q ∈ qs,Bf w base q
theorem Bf.heap {w w':ae} {base:Nat} {q:ER} (h:Bf w base q) (hz:q.e.kids ≠ []→∃ g,q.adK=some ⟨g,0,none⟩) (hh:∀ g,pI q g→w'.heap[g]?=w.heap[g]?):Bf w' base q:=by
 rcases h with h | ⟨hne,h⟩
 ·exact .inl h
 obtain ⟨g,eg⟩:=hz hne;refine .inr ⟨hne,jm h fun g' hg'=>?_⟩;rw [eg] at hg';have:g=g':=by simpa [Value.ownBlock] using hg'
 subst this;exact hh g (.inr ⟨hne,eg⟩)
theorem Bf.mono {w:ae} {base base':Nat} {q:ER} (h:Bf w base q) (hb:base'≤base):Bf w base' q:=by
 rcases h with h | ⟨hne,h⟩
 ·exact .inl h
 refine .inr ⟨hne,h.1,?_⟩;rcases h.2 with hl | ⟨g,cap,cur,e,h1,h2⟩
 ·exact .inl hl
 exact .inr ⟨g,cap,cur,e,SF hb h1,h2⟩
theorem RdF.over {w w':ae} {R:Nat} {s:ByteArray} {st:RS} {base:Nat} {v:Value} {qs:List ER} (h:RdF w R s st base v qs) (hR:R < base) (ho:Onl R nE w w') {p:Nat} {bad:Bool} (hr:RdC w' R s p bad v):RdF w' R s ⟨p,bad,st.out⟩ base v qs where
 rd:=hr
 own:=jm h.own fun g hg=>ho.block g (h.own.lt g hg).2 (by have:=(h.own.lt g hg).1; omega) (by simp [Value.ownBlock])
 out:=h.out
 zA:=h.zA
 zK:=h.zK
 ok q hq:=qQ (h.ok q hq) ho.size (h.zA q hq) (h.zK q hq) fun g hg=>ho.block g (h.lie q hq g hg).2.1 (by have:=(h.lie q hq g hg).1; omega) (by simp [Value.ownBlock])
 lie q hq g hg:=by
  obtain ⟨h1,h2,h3,h4⟩:=h.lie q hq g hg;exact ⟨h1,Sv h2 ho.size,cu h3 (ho.block g h2 (by omega) (by simp [Value.ownBlock])),h4⟩
 one:=h.one
 two:=h.two
 cA:=h.cA
 cK q hq:=(h.cK q hq).heap (h.zK q hq) fun g hg=>ho.block g (h.lie q hq g hg).2.1 (by have:=(h.lie q hq g hg).1; omega) (by simp [Value.ownBlock])
theorem GJ (R:Nat) (s:aD) (st:RS) (base:Nat) (v:Value) (qs:List ER) (q:ER) (w:ae) (h:RdF w R s st base v qs) (hR:R < base) (hB:base≤w.heap.size) (hn:qs.length≤100000)
  (hq:NewQ base w q) (Vx:Bf w base q) (ha:∀ g,pI q g→v.ownBlock ≠ some g∧∀ q' ∈ qs,¬ pI q' g) :
  Calls prog 237 #[.pointer (some ⟨R,0,none⟩),q.val] w fun e w'=>∃ v',e=.returned (.int .i64 (st.out.length:Int))∧RdF w' R s (rP q.e st) base v' (qs ++ [q])∧Went R v w v' w':=by
 have hlen:qs.length=st.out.length:=by rw [← h.out]; simp [ak]
 refine (Pg R s st.p st.bad v base qs.length (jJ qs) q w h.rd h.own hR hB hn).mono ?_;rintro e w' ⟨g,cap,rfl,hrd,hown,XK,hat⟩;have hW:Went R v w (.slice (some ⟨g,0,none⟩) (qs.length + 1) cap) w':=⟨XK,by
  rcases hat with e | e
  ·exact .inl (by rw [e]; rfl)
  exact .inr ⟨g,rfl,e⟩⟩
 have keep:∀ k,k < w.heap.size→base≤k→v.ownBlock ≠ some k→w'.heap[k]?=w.heap[k]?:=fun k h1 h2 h3=>XK.block k h1 (by omega) h3;refine ⟨.slice (some ⟨g,0,none⟩) (qs.length + 1) cap,by rw [hlen],?_,hW⟩;refine ⟨by unfold rP; rw [← hlen]; exact hrd,?_,?_,?_,?_,?_,?_,?_,?_,?_,?_⟩
 ·rw [SE,List.length_singleton,Gy]; exact hown
 ·simp [ak,rP,← h.out]
 ·intro q' hq';rcases SI.1 hq' with h1 | h1
  ·exact h.zA q' h1
  rw [SG] at h1; subst h1; exact hq.zA
 ·intro q' hq';rcases SI.1 hq' with h1 | h1
  ·exact h.zK q' h1
  rw [SG] at h1; subst h1; exact hq.zK
 ·intro q' hq';rcases SI.1 hq' with h1 | h1
  ·exact qQ (h.ok q' h1) XK.size (h.zA q' h1) (h.zK q' h1) fun k hk=>keep k (h.lie q' h1 k hk).2.1 (h.lie q' h1 k hk).1 (h.lie q' h1 k hk).2.2.2
  rw [SG] at h1; subst h1;exact qQ hq.ok XK.size hq.zA hq.zK fun k hk=>keep k (hq.lie k hk).2.1 (hq.lie k hk).1 (ha k hk).1
 ·intro q' hq' k hk;rcases SI.1 hq' with h1 | h1
  ·obtain ⟨a1,a2,a3,a4⟩:=h.lie q' h1 k hk;exact ⟨a1,Sv a2 XK.size,cu a3 (keep k a2 a1 a4),hW.apart a2 a4⟩
  rw [SG] at h1; subst h1;obtain ⟨a1,a2,a3⟩:=hq.lie k hk;exact ⟨a1,Sv a2 XK.size,cu a3 (keep k a2 a1 (ha k hk).1),hW.apart a2 (ha k hk).1⟩
 ·intro q' hq';rcases SI.1 hq' with h1 | h1
  ·exact h.one q' h1
  rw [SG] at h1; subst h1; exact hq.one
 ·intro x y hx hy hxy k hkx Yp;rw [SE,List.length_singleton] at hx hy;by_cases ex:x < qs.length
  ·rw [Ta ex] at hkx;by_cases ey:y < qs.length
   ·rw [Ta ey] at Yp;exact h.two x y ex ey hxy k hkx Yp
   have:y=qs.length:=by omega
   subst this;rw [Tf (Sy _)] at Yp;simp at Yp;exact (ha k Yp).2 _ (Sw ex) hkx
  have:x=qs.length:=by omega
  subst this;rw [Tf (Sy _)] at hkx;simp at hkx;have ey:y < qs.length:=by omega
  rw [Ta ey] at Yp;exact (ha k hkx).2 _ (Sw ey) Yp
 ·intro q' hq';rcases SI.1 hq' with h1 | h1
  ·exact h.cA q' h1
  rw [SG] at h1; subst h1; exact hq.cA
 intro q' hq';rcases SI.1 hq' with h1 | h1
 ·exact (h.cK q' h1).heap (h.zK q' h1) fun k hk=>keep k (h.lie q' h1 k hk).2.1 (h.lie q' h1 k hk).1 (h.lie q' h1 k hk).2.2.2
 rw [SG] at h1; subst h1;exact Vx.heap hq.zK fun k hk=>keep k (hq.lie k hk).2.1 (hq.lie k hk).1 (ha k hk).1
def ut (R:Nat) (s:aD) (base:Nat) (v:Value) (qs:List ER) (w:ae) (x:Int × RS) (e:Ending) (w':ae):Prop :=
 ∃ v' ns,e=.returned (.int .i64 x.1)∧RdF w' R s x.2 base v' (qs ++ ns)∧Went R v w v' w'∧∀ q ∈ ns,∀ g,pI q g→w.heap.size≤g
def sK (s:aD) (x:Int × RS):Int × RS:=if ll s dS x.2 then (x.1,kz dS x.2) else (x.1,ul x.2)
theorem GK {s:ByteArray} {x:Int × RS} (h:mr s dS x.2.p x.2.bad=true):sK s x=(x.1,kz dS x.2):=if_pos h
theorem JY {s:ByteArray} {x:Int × RS} (h:mr s dS x.2.p x.2.bad=false):sK s x=(x.1,ul x.2):=if_neg (fun e=>by rw [ll,← mr,h] at e; cases e)
theorem RdF.is_no {w w':ae} {R:Nat} {s t:ByteArray} {st:RS} {base:Nat} {v:Value} {qs:List ER} (h:RdF w R s st base v qs) (hR:R < base) (hb:mr s t st.p st.bad=false) (hr:RdC w' R s (Pf s t st.p st.bad) st.bad v) (hg:w.grownBy w' (some R)):RdF w' R s st base v qs:=by
 rw [sJ hb] at hr;exact h.over hR (Onl.of_grown hg) hr
theorem RdF.is_yes {w w':ae} {R:Nat} {s t:ByteArray} {st:RS} {base:Nat} {v:Value} {qs:List ER} (h:RdF w R s st base v qs) (hR:R < base) (hb:mr s t st.p st.bad=true) (hr:RdC w' R s (Pf s t st.p st.bad) st.bad v) (hg:w.grownBy w' (some R)):RdF w' R s (kz t st) base v qs:=by
 rw [oI hb] at hr;exact h.over hR (Onl.of_grown hg) hr
theorem vL {s t:ByteArray} {p:Nat} {bad:Bool} (h:mr s t p bad=true):p + t.size≤s.size:=by
 unfold mr at h;simp only [SB] at h;exact EK h.2
theorem MG (R:Nat) (s:aD) (st:RS) (base:Nat) (v:Value) (qs:List ER) (w:ae) (h:RdF w R s st base v qs) (hR:R < base) (hs:s.size≤1000) (hp:st.p≤s.size)
  (h0:mr s fJ st.p st.bad=false) (h1:mr s jw st.p st.bad=true) (x:Int × RS) (hx:x.2.p≤s.size)
  (hrow:∀ w1,RdF w1 R s (kz jw st) base v qs→w.heap.size≤w1.heap.size→Calls prog 219 #[.pointer (some ⟨R,0,none⟩)] w1 (ut R s base v qs w1 x)) :
  Calls prog 234 #[.pointer (some ⟨R,0,none⟩)] w (ut R s base v qs w (sK s x)):=by
 have H:=ai h;have UE:=ai hrow;have HX:=ai hx;have HP:=ai hp;clear h hrow hx hp;go_enter func234,ntmps234;go_wp2_with fail;refine (jQ R s fJ st.p st.bad v w H.out.rd hs HP.out (by decide)).mono ?_;rintro e w1 ⟨rfl,hr1,hg1⟩;have UL:=ai (H.out.is_no hR h0 hr1 hg1);have TE:=ai (Onl.of_grown hg1);rw [h0];clear hr1 hg1 h0;go_wp2_with fail;refine (jQ R s jw st.p st.bad v w1 UL.out.rd hs HP.out (by decide)).mono ?_;rintro e w2 ⟨rfl,hr2,hg2⟩;have U9:=ai (UL.out.is_yes hR h1 hr2 hg2);have Tx:=ai (TE.out.trans0 (Onl.of_grown hg2));rw [h1];clear hr2 hg2 h1;go_wp2_with fail;refine (UE.out w2 U9.out Tx.out.size).mono ?_;rintro e w3 ⟨v3,ns,rfl,Xd,hW3,hns⟩;have Yq:=ai Xd;have HW3:=ai ((Tx.out.any v).trans hW3);have HNS:Hid (∀ q ∈ ns,∀ g,pI q g→w.heap.size≤g):=fun q hq g hg=>SF Tx.out.size (hns q hq g hg);clear Xd hW3 hns UL TE U9 Tx UE;go_wp2_with fail;refine (jQ R s dS x.2.p x.2.bad v3 w3 Yq.out.rd hs HX.out (by decide)).mono ?_;rintro e w4 ⟨rfl,hr4,hg4⟩;cases hc:mr s dS x.2.p x.2.bad;case true=>
  have Vy:=ai (Yq.out.is_yes hR hc hr4 hg4);have HW4:=ai (HW3.out.trans ((Onl.of_grown hg4).any v3));have EQ:=ai (GK (x:=x) hc);clear hr4 hg4 hc;go_wp2;exact bodyPost_ret (v:=.int .i64 x.1) (by simp [results,Tryz.results234,go_sem]) rfl (by rw [EQ.out]; exact ⟨v3,ns,rfl,Vy.out,HW4.out,HNS.out⟩)
 have Vy:=ai (Yq.out.is_no hR hc hr4 hg4);have HW4:=ai (HW3.out.trans ((Onl.of_grown hg4).any v3));have c2:=Vy.out.rd.c2;have f2:=Vy.out.rd.fr 2;have hl:=Vy.out.rd.lt;have EQ:=ai (JY (x:=x) hc);clear hr4 hg4 hc;go_wp2;exact bodyPost_ret (v:=.int .i64 x.1) (by simp [results,Tryz.results234,go_sem]) rfl (by rw [EQ.out]; exact ⟨v3,ns,rfl,Vy.out.over hR ((Onl.refl R nE w4).at_own _ _) Vy.out.rd.hurt,HW4.out.trans (((Onl.refl R nE w4).at_own _ _).any v3),HNS.out⟩)
theorem MH (n lo hi:Int) (w:ae) :
  Calls prog 190 #[.int .i64 n,.int .i64 lo,.int .i64 hi] w fun e w'=>e=.returned (.bool (decide (lo≤n) && decide (n≤hi)))∧w'=w:=by
 go_enter func190,ntmps190;go_wp2
 all_goals go_ret
 all_goals exact ⟨ag (by simp [*] <;> omega),rfl⟩
set_option maxRecDepth 8000 in
theorem lW (r:ER) (w:ae) (hf:r.e.fits) (h1:r.e.kind ≠ 1) :
  Calls prog 189 #[r.val] w fun e w'=>e=.returned (.bool (ay r.e))∧af w w':=by
 obtain ⟨⟨kind,allow,over,name,kids⟩,adA,capA,adK,capK⟩:=r;obtain ⟨f1,f2,f3,f4,f5⟩:=hf;simp only at f1 f2 f3 f4 f5 h1;simp only [ER.val];unfold maxLen at f4 f5;by_cases h2:kind=2
 ·subst h2;clear h1;go_enter func189,ntmps189;go_wp2_with (go_at_call 111; refine (aS _ _ (by assumption)).mono ?_; rintro e w' ⟨rfl,rfl⟩)
  all_goals go_ret
  all_goals exact ⟨ag (by first | (simp [ay, *]; done) | (simp [ay, *]; omega) | (simp [ay, *]; rw [Bool.eq_iff_iff]; simp; done) | (simp [ay, *]; rw [Bool.eq_iff_iff]; simp; omega)),(Sz w.heap.size w).alloc (Sy _) _⟩
 by_cases h3:kind=3
 ·subst h3;clear h1;go_enter func189,ntmps189;go_wp2_with (go_at_call 111; refine (aS _ _ (by assumption)).mono ?_; rintro e w' ⟨rfl,rfl⟩)
  all_goals go_ret
  all_goals exact ⟨ag (by first | (simp [ay, *]; done) | (simp [ay, *]; omega) | (simp [ay, *]; rw [Bool.eq_iff_iff]; simp; done) | (simp [ay, *]; rw [Bool.eq_iff_iff]; simp; omega)),(Sz w.heap.size w).alloc (Sy _) _⟩
 by_cases h4:kind=4
 ·subst h4;clear h1;go_enter func189,ntmps189;go_wp2_with (go_at_call 111; refine (aS _ _ (by assumption)).mono ?_; rintro e w' ⟨rfl,rfl⟩)
  all_goals go_ret
  all_goals exact ⟨ag (by first | (simp [ay, *]; done) | (simp [ay, *]; omega) | (simp [ay, *]; rw [Bool.eq_iff_iff]; simp; done) | (simp [ay, *]; rw [Bool.eq_iff_iff]; simp; omega)),(Sz w.heap.size w).alloc (Sy _) _⟩
 by_cases h5:kind=5
 ·subst h5;clear h1;go_enter func189,ntmps189;go_wp2_with (go_at_call 111; refine (aS _ _ (by assumption)).mono ?_; rintro e w' ⟨rfl,rfl⟩)
  all_goals go_ret
  all_goals exact ⟨ag (by first | (simp [ay, *]; done) | (simp [ay, *]; omega) | (simp [ay, *]; rw [Bool.eq_iff_iff]; simp; done) | (simp [ay, *]; rw [Bool.eq_iff_iff]; simp; omega)),(Sz w.heap.size w).alloc (Sy _) _⟩
 by_cases h6:kind=6
 ·subst h6;clear h1;go_enter func189,ntmps189;go_wp2_with (go_at_call 111; refine (aS _ _ (by assumption)).mono ?_; rintro e w' ⟨rfl,rfl⟩)
  all_goals go_ret
  all_goals exact ⟨ag (by first | (simp [ay, *]; done) | (simp [ay, *]; omega) | (simp [ay, *]; rw [Bool.eq_iff_iff]; simp; done) | (simp [ay, *]; rw [Bool.eq_iff_iff]; simp; omega)),(Sz w.heap.size w).alloc (Sy _) _⟩
 go_enter func189,ntmps189;go_wp2_with (go_at_call 111; refine (aS _ _ (by assumption)).mono ?_; rintro e w' ⟨rfl,rfl⟩)
 all_goals go_ret
 all_goals exact ⟨ag (by first | (simp [ay, *]; done) | (simp [ay, *]; omega) | (simp [ay, *]; rw [Bool.eq_iff_iff]; simp; done) | (simp [ay, *]; rw [Bool.eq_iff_iff]; simp; omega)),(Sz w.heap.size w).alloc (Sy _) _⟩
theorem vM (x y:Al) {v:Bool} (h:jo x y=v) (w:ae) :
  (binOp .eql 43 (.agg #[.string x.t,.string x.s]) (.agg #[.string y.t,.string y.s])).run prog w=.ok (.bool v) w:=by
 subst h;go_simp;unfold jo;by_cases h1:x.t.toList=y.t.toList <;> by_cases h2:x.s.toList=y.s.toList <;> simp [h1,h2]
theorem vO {xs:List Al} {j k:Nat} {a:Al} (hjk:j < k) (hj:j < xs.length) (h:jo xs[j] a=true):dI xs k a=true:=by
 unfold dI;rw [Tq];refine ⟨xs[j],?_,h⟩;rw [List.mem_take_iff_getElem];exact ⟨j,by omega,rfl⟩
set_option maxRecDepth 8000 in
theorem Bg (r:ER) (w:ae) (hf:r.e.fits) (hok:r.ok w) (h1:r.e.kind=1) :
  Calls prog 189 #[r.val] w fun e w'=>e=.returned (.bool (ay r.e))∧af w w':=by
 obtain ⟨⟨kind,allow,over,name,kids⟩,adA,capA,adK,capK⟩:=r;obtain ⟨f1,f2,f3,f4,f5⟩:=hf;obtain ⟨hA,hK⟩:=hok;simp only at f1 f2 f3 f4 f5 h1 hA hK;subst h1;simp only [ER.val];unfold maxLen at f4 f5;by_cases hl:1≤allow.length∧allow.length≤6
 ·obtain ⟨hl1,hl2⟩:=hl;obtain ⟨W,hW⟩:∃ W,W=w.alloc (.cells #[.int .i64 1,.slice adA allow.length capA,.string over,.string name,.slice adK kids.length capK] 39):=⟨_,rfl⟩;have HB0:Hid (af w W):=by show Below _ _ _; rw [hW]; exact (Sz w.heap.size w).alloc (Sy _) _
  have hz:w.heap.size < W.heap.size:=by rw [hW]; simp
  have b1:W.cell? ⟨w.heap.size,1,none⟩=some (.slice adA allow.length capA):=by rw [hW]; simp
  have b2:W.cell? ⟨w.heap.size,2,none⟩=some (.string over):=by rw [hW]; simp
  have b3:W.cell? ⟨w.heap.size,3,none⟩=some (.string name):=by rw [hW]; simp
  have HA:=az (hA.below HB0.out);have UL:=az f1;clear hA hK f1;go_enter func189,ntmps189;go_wp2_with fail;rw [← hW];clear hW;go_loopw [4] (fun i wr=>∃ k:Nat,k≤allow.length∧i=.int .i64 k∧Hid (Be allow k=true)∧af W wr) (fun i _=>allow.length - (intOf i).toNat);case atStart=>exact ⟨0,SC _,rfl,rfl,Sz _ _⟩
  obtain ⟨k,hk,rfl,HU,hB⟩:=hrel;have a1:=kept hB hz b1;have a2:=kept hB hz b2;have a3:=kept hB hz b3;by_cases hlt:k < allow.length
  ·rcases HA.out.below hB with rfl | ⟨b,off,rfl,hb,hr⟩
   ·simp at hlt
   obtain ⟨t0,t1⟩:=hr k hlt;obtain ⟨z0,z1⟩:=UL.out allow[k] (Sw hlt);have HR:Hid (∀ (i:Nat) (h:i < allow.length),QK wr b (off + i * 2) allow[i]):=hr;clear hr;obtain ⟨W1,hW1⟩:∃ W1,W1=wr.alloc (.cells #[.string allow[k].t,.string allow[k].s] 43):=⟨_,rfl⟩;have hal:af wr W1:=by rw [hW1]; exact (Sz _ _).alloc (Sy _) _
   have hBW1:Below W.heap.size wr W1:=hal.mono hB.size;have hsz:w.heap.size < wr.heap.size:=Sv hz hB.size;have hWs:W.heap.size≤W1.heap.size:=SF hB.size hal.size;have c1:=kept hal hsz a1;have c2:=kept hal hsz a2;have c3:=kept hal hsz a3;have hbl:b < W1.heap.size:=Sv hb hal.size;have hgl:wr.heap.size < W1.heap.size:=by rw [hW1]; simp
   have g0:W1.cell? ⟨wr.heap.size,0,none⟩=some (.string allow[k].t):=by rw [hW1]; simp
   have g1:W1.cell? ⟨wr.heap.size,1,none⟩=some (.string allow[k].s):=by rw [hW1]; simp
   have HR1:Hid (∀ (i:Nat) (h:i < allow.length),QK W1 b (off + i * 2) allow[i]):=fun i hi=>(HR.out i hi).same fun o=>hal.cell (p:=⟨b,o,none⟩) hb;cases hn:aQ allow[k].t;case false=>
    have HN:Hid (Be allow allow.length=false):=mH allow k hlt (by simp [EG,hn]) _ hlt;go_wp2_with (go_at_call 111; refine (aS _ _ (by assumption)).mono ?_; rintro e w' ⟨rfl,rfl⟩);go_ret;exact ⟨ag (by simp [ay,dR,HN.out]),HB0.out.trans ((hB.trans ((Sz _ _).alloc hB.size _)).mono HB0.out.size)⟩
   cases he:allow[k].s.toList.isEmpty;case true=>
    have HAl:Hid (EG allow[k]=true):=by show _=_; simp [EG,tY,hn,he]
    go_wp2_with (go_at_call 111; refine (aS _ _ (by assumption)).mono ?_; rintro e w' ⟨rfl,rfl⟩);rw [← hW1];go_loopw [6] (fun i w2=>∃ j:Nat,j≤k∧i=.int .i64 j∧Hid (dI allow j allow[k]=false)∧af W1 w2) (fun i _=>k - (intOf i).toNat);case atStart=>exact ⟨0,SC _,rfl,oD _ _,Sz _ _⟩
    obtain ⟨j,hj,rfl,HP,hB2⟩:=hrel;rename_i w2 _;have d1:=kept hB2 (by omega) c1;have d2:=kept hB2 (by omega) c2;have d3:=kept hB2 (by omega) c3;have p0:=kept hB2 hgl g0;have p1:=kept hB2 hgl g1;by_cases hjk:j < k
    ·obtain ⟨q0,q1⟩:=(HR1.out j (by omega)).same fun o=>hB2.cell (p:=⟨b,o,none⟩) hbl;have hj1:=bq j;have hj2:(j:Int) < (allow.length:Int):=by omega
     cases hq:jo allow[j] allow[k];case true=>
      have HE:=vM allow[j] allow[k] hq;have HN:Hid (Be allow allow.length=false):=mH allow k hlt (by rw [(vO hjk (by omega) hq)]; simp) _ hlt;go_wp2_with fail;go_quiet (fail);go_wp2;go_ret;exact ⟨ag (by simp [ay,dR,HN.out]),HB0.out.trans ((hB.trans (hBW1.trans (hB2.mono (by omega)))).mono HB0.out.size |> fun h=>below_drewN h _)⟩
     have HE:=vM allow[j] allow[k] hq;have TG:Hid (dI allow (j + 1) allow[k]=false):=by show _=_; rw [oC _ _ _ (by omega),HP.out,hq]; rfl
     go_wp2_with fail;go_quiet (fail);go_wp2;go_roundw;case rel=>exact ⟨j + 1,by omega,by go_num,TG,below_drewN hB2 _⟩
     simp [intOf]; omega
    obtain rfl:j=k:=by omega
    have Wt:Hid (Be allow (j + 1)=true):=by show _=_; rw [uf _ _ hlt,HU.out,HAl.out,HP.out]; rfl
    go_wp2;go_roundw;case rel=>exact ⟨j + 1,by omega,by go_num,Wt,hB.trans (hBW1.trans (hB2.mono (by omega)))⟩
    simp [intOf]; omega
   cases hm:aQ allow[k].s;case false=>
    have HN:Hid (Be allow allow.length=false):=mH allow k hlt (by simp [EG,hn,tY,he,hm]) _ hlt;go_wp2_with (go_at_call 111; refine (aS _ _ (by assumption)).mono ?_; rintro e w' ⟨rfl,rfl⟩);go_ret;exact ⟨ag (by simp [ay,dR,HN.out]),HB0.out.trans ((hB.trans ((Sz _ _).alloc hB.size _)).mono HB0.out.size)⟩
   have HAl:Hid (EG allow[k]=true):=by show _=_; simp [EG,tY,hn,he,hm]
   go_wp2_with (go_at_call 111; refine (aS _ _ (by assumption)).mono ?_; rintro e w' ⟨rfl,rfl⟩);rw [← hW1];go_loopw [6] (fun i w2=>∃ j:Nat,j≤k∧i=.int .i64 j∧Hid (dI allow j allow[k]=false)∧af W1 w2) (fun i _=>k - (intOf i).toNat);case atStart=>exact ⟨0,SC _,rfl,oD _ _,Sz _ _⟩
   obtain ⟨j,hj,rfl,HP,hB2⟩:=hrel;rename_i w2 _;have d1:=kept hB2 (by omega) c1;have d2:=kept hB2 (by omega) c2;have d3:=kept hB2 (by omega) c3;have p0:=kept hB2 hgl g0;have p1:=kept hB2 hgl g1;by_cases hjk:j < k
   ·obtain ⟨q0,q1⟩:=(HR1.out j (by omega)).same fun o=>hB2.cell (p:=⟨b,o,none⟩) hbl;have hj1:=bq j;have hj2:(j:Int) < (allow.length:Int):=by omega
    cases hq:jo allow[j] allow[k];case true=>
     have HE:=vM allow[j] allow[k] hq;have HN:Hid (Be allow allow.length=false):=mH allow k hlt (by rw [(vO hjk (by omega) hq)]; simp) _ hlt;go_wp2_with fail;go_quiet (fail);go_wp2;go_ret;exact ⟨ag (by simp [ay,dR,HN.out]),HB0.out.trans ((hB.trans (hBW1.trans (hB2.mono (by omega)))).mono HB0.out.size |> fun h=>below_drewN h _)⟩
    have HE:=vM allow[j] allow[k] hq;have TG:Hid (dI allow (j + 1) allow[k]=false):=by show _=_; rw [oC _ _ _ (by omega),HP.out,hq]; rfl
    go_wp2_with fail;go_quiet (fail);go_wp2;go_roundw;case rel=>exact ⟨j + 1,by omega,by go_num,TG,below_drewN hB2 _⟩
    simp [intOf]; omega
   obtain rfl:j=k:=by omega
   have Wt:Hid (Be allow (j + 1)=true):=by show _=_; rw [uf _ _ hlt,HU.out,HAl.out,HP.out]; rfl
   go_wp2;go_roundw;case rel=>exact ⟨j + 1,by omega,by go_num,Wt,hB.trans (hBW1.trans (hB2.mono (by omega)))⟩
   simp [intOf]; omega
  obtain rfl:k=allow.length:=by omega
  have Y7:Hid (dR allow=true):=by show _=_; simp [dR,hl1,hl2,HU.out]
  go_wp2
  all_goals go_ret
  all_goals exact ⟨ag (by first | (simp [ay,Y7.out, *]; done) | (simp [ay,Y7.out, *]; rw [Bool.eq_iff_iff]; simp; done)),HB0.out.trans (hB.mono HB0.out.size)⟩
 go_enter func189,ntmps189;go_wp2_with fail
 all_goals go_ret
 all_goals exact ⟨ag (by simp [ay,dR]; omega),(Sz w.heap.size w).alloc (Sy _) _⟩
theorem Dr (r:ER) (w:ae) (hf:r.e.fits) (hok:r.ok w) :
  Calls prog 189 #[r.val] w fun e w'=>e=.returned (.bool (ay r.e))∧af w w':=by
 by_cases h:r.e.kind=1
 ·exact Bg r w hf hok h
 exact lW r w hf h
theorem Onl.at_new {R:Nat} {v:Value} {w w':ae} (h:Onl R v w w') {X:Nat} (hX:w.heap.size≤X) (o:Nat) (u:Value):Onl R v w (w'.setCell ⟨X,o,none⟩ u) :=
 ⟨h.os,h.tape,h.output,by simpa using h.size,fun k hk h1 h2=>(Below.heap_setCell w' _ _ k (by show k ≠ X; omega)).trans (h.block k hk h1 h2)⟩
theorem RdC.other {w:ae} {R:Nat} {s:ByteArray} {p:Nat} {bad:Bool} {v:Value} (h:RdC w R s p bad v) {X:Nat} (hX:X ≠ R) (o:Nat) (u:Value):RdC (w.setCell ⟨X,o,none⟩ u) R s p bad v :=
 ⟨by simpa using h.lt,by rw [Tc (w:=w) (Below.heap_setCell w _ _ R (Ne.symm hX))]; exact h.c0,by rw [Tc (w:=w) (Below.heap_setCell w _ _ R (Ne.symm hX))]; exact h.c1,by rw [Tc (w:=w) (Below.heap_setCell w _ _ R (Ne.symm hX))]; exact h.c2,by rw [Tc (w:=w) (Below.heap_setCell w _ _ R (Ne.symm hX))]; exact h.c3,fun j=>by simpa using h.fr j⟩
theorem RdC.below {w w':ae} {R:Nat} {s:ByteArray} {p:Nat} {bad:Bool} {v:Value} (h:RdC w R s p bad v) (hb:af w w'):RdC w' R s p bad v :=
 h.grown (row:=none) ⟨hb.os,hb.tape,hb.output,hb.size,fun k hk _=>hb.block k hk⟩ (by simp)
theorem xS.below {w w':ae} {g:Nat} {q:ER} (h:xS w g q) (hb:af w w'):xS w' g q :=
 h.grown (row:=none) ⟨hb.os,hb.tape,hb.output,hb.size,fun k hk _=>hb.block k hk⟩ (by simp)
def bare (k:Int) (o n:aD):ER:=⟨⟨k,[],o,n,[]⟩,none,0,none,0⟩
theorem j6 (k:Int) (o n:aD) (g:Nat):¬ pI (bare k o n) g:=by
 rintro (⟨h,-⟩ | ⟨h,-⟩) <;> exact h rfl
theorem uu (k:Int) (o n:aD) (X:Nat) (w:ae):NewQ X w (bare k o n) :=
 ⟨fun h=>absurd rfl h,fun h=>absurd rfl h,⟨.inl rfl,.inl rfl⟩,fun g h=>absurd h (j6 k o n g),fun g h=>absurd (Or.inl h) (j6 k o n g),Sy _⟩
theorem MI (w:ae) (k:Int) (o n:aD):xS (w.alloc (.cells #[.int .i64 k,.slice none 0 0,.string o,.string n,.slice none 0 0] 39)) w.heap.size (bare k o n):=by
 refine ⟨?_,?_,?_,?_,?_,?_⟩ <;> simp [bare]
theorem MJ {w:ae} {X:Nat} {a0 a1 a2 a3 a4:Value} (h0:w.cell? ⟨X,0,none⟩=some a0) (h1:w.cell? ⟨X,1,none⟩=some a1) (h2:w.cell? ⟨X,2,none⟩=some a2) (h3:w.cell? ⟨X,3,none⟩=some a3) (h4:w.cell? ⟨X,4,none⟩=some a4) (hl:X < w.heap.size) (k:Int) (o n:aD) :
  xS (((((w.setCell ⟨X,0,none⟩ (.int .i64 k)).setCell ⟨X,1,none⟩ (.slice none 0 0)).setCell ⟨X,2,none⟩ (.string o)).setCell ⟨X,3,none⟩ (.string n)).setCell ⟨X,4,none⟩ (.slice none 0 0)) X (bare k o n):=by
 refine ⟨?_,?_,?_,?_,?_,by simpa using hl⟩
 ·rw [mO (by omega),mO (by omega),mO (by omega),mO (by omega)]; exact mS h0
 ·rw [mO (by omega),mO (by omega),mO (by omega)]; exact mS (by rw [mO (by omega)]; exact h1)
 ·rw [mO (by omega),mO (by omega)]; exact mS (by rw [mO (by omega),mO (by omega)]; exact h2)
 ·rw [mO (by omega)]; exact mS (by rw [mO (by omega),mO (by omega),mO (by omega)]; exact h3)
 exact mS (by rw [mO (by omega),mO (by omega),mO (by omega),mO (by omega)]; exact h4)
def VB (l:List Value) (R:Nat) (s:aD) (p:Nat) (bad:Bool) (v:Value) (k:Nat) (u:Value) (w':ae):Prop:=u=l.getD k undef∧(k=3→RdC w' R s p bad v)
structure GB (R:Nat) (s:aD) (p:Nat) (bad:Bool) (v:Value) (X:Nat) (q:ER) (w:ae) (listed:Array Bool) (w':ae):Prop where
 rd:listed.getD 3 false=false→RdC w' R s p bad v
 box:xS w' X q
 onl:Onl R nE w w'
 fr:jN w' X
theorem GB.step {R:Nat} {s:ByteArray} {p:Nat} {bad:Bool} {v:Value} {X:Nat} {q:ER} {w w':ae} {listed:Array Bool} (h:GB R s p bad v X q w listed w') {i:Nat} (hls:listed.size=6) (h3:i ≠ 3):GB R s p bad v X q w (listed.setIfInBounds i true) w' :=
 ⟨fun k=>h.rd (by
  by_cases hi:i < 6
  ·rw [aP _ _ _ (by omega),if_neg (Ne.symm h3)] at k; exact k
  rw [show listed.setIfInBounds i true=listed by rw [Array.setIfInBounds_eq_of_size_le (by omega)]] at k; exact k),h.box,h.onl,h.fr⟩
theorem GB.called {R:Nat} {s:ByteArray} {p:Nat} {bad:Bool} {v:Value} {X:Nat} {q:ER} {w w' w'':ae} {listed:Array Bool} (h:GB R s p bad v X q w listed w') (hls:listed.size=6) (hg:w'.grownBy w'' (some R)) (hX:X ≠ R):GB R s p bad v X q w (listed.setIfInBounds 3 true) w'' :=
 ⟨fun k=>(by rw [aP _ _ _ (by omega),if_pos rfl] at k; cases k),h.box.grown hg (by intro e; injection e with e; exact hX e),h.onl.trans0 (Onl.of_grown hg),cu h.fr (hg.block X h.box.2.2.2.2.2 (by intro e; injection e with e; exact hX e))⟩
theorem MK {s:ByteArray} {st:RS} (h:mr s oH (st.p + aj s st.p) st.bad=false):eT s st=⟨2,[],⟨#[]⟩,av s st.p,[]⟩∧aJ s st=⟨st.p + aj s st.p,st.bad,st.out⟩:=by
 have e:ll s oH (bu s st)=false:=h;exact ⟨by unfold eT; rw [e]; rfl,by unfold aJ; rw [e]; rfl⟩
theorem JZ {s:ByteArray} {st:RS} (h:mr s oH (st.p + aj s st.p) st.bad=true):eT s st=⟨3,[],av s st.p,av s (st.p + aj s st.p + 2),[]⟩∧aJ s st=⟨st.p + aj s st.p + 2 + aj s (st.p + aj s st.p + 2),st.bad,st.out⟩:=by
 have e:ll s oH (bu s st)=true:=h;exact ⟨by unfold eT; rw [e]; rfl,by unfold aJ; rw [e]; rfl⟩
theorem J3 (R:Nat) (s:aD) (st:RS) (base:Nat) (v:Value) (qs:List ER) (w:ae) (h:RdF w R s st base v qs) (hR:R < base) (hB:base≤w.heap.size) (hs:s.size≤1000) (hp:st.p≤s.size) (hn:qs.length≤100000)
  (h0:mr s fJ st.p st.bad=false) (h1:mr s jw st.p st.bad=false) :
  Calls prog 234 #[.pointer (some ⟨R,0,none⟩)] w (ut R s base v qs w ((st.out.length:Int),rP (eT s st) (judged (eT s st) (aJ s st)))):=by
 have H:=ai h;have HP:=ai hp;clear h hp;go_enter func234,ntmps234;go_wp2_with fail;refine (jQ R s fJ st.p st.bad v w H.out.rd hs HP.out (by decide)).mono ?_;rintro e w1 ⟨rfl,hr1,hg1⟩;have UL:=ai (H.out.is_no hR h0 hr1 hg1);have TE:=ai (Onl.of_grown hg1);rw [h0];clear hr1 hg1 h0;go_wp2_with fail;refine (jQ R s jw st.p st.bad v w1 UL.out.rd hs HP.out (by decide)).mono ?_;rintro e w2 ⟨rfl,hr2,hg2⟩;have U9:=ai (UL.out.is_no hR h1 hr2 hg2);have Tx:=ai (TE.out.trans0 (Onl.of_grown hg2));rw [h1];clear hr2 hg2 h1 UL TE;go_wp2_with fail;refine (uq R s st.p st.bad v w2 U9.out.rd hs HP.out).mono ?_;rintro e w3 ⟨rfl,hr3,hg3⟩;have Yq:=ai (U9.out.over hR (Onl.of_grown hg3) hr3);have Ub:=ai (Tx.out.trans0 (Onl.of_grown hg3));have HP3:=ai (kC s st.p HP.out);have WF:=ai (yN s st.p HP.out);clear hr3 hg3 U9 Tx;obtain ⟨W4,TY⟩:∃ W4,W4=w3.alloc (.cells #[.int .i64 2,.slice none 0 0,.string ⟨#[]⟩,.string (av s st.p),.slice none 0 0] 39):=⟨_,rfl⟩;have HV4:Hid (xS W4 w3.heap.size (bare 2 ⟨#[]⟩ (av s st.p))):=by rw [TY]; exact MI w3 2 ⟨#[]⟩ (av s st.p)
 have HO4a:Hid (Onl R nE w3 W4):=by rw [TY]; exact Onl.of_below ((Sz _ _).alloc (Sy _) _)
 have Vy:Hid (RdF W4 R s ⟨st.p + aj s st.p,st.bad,st.out⟩ base v qs):=Yq.out.over hR HO4a.out (by rw [TY]; exact Yq.out.rd.below ((Sz _ _).alloc (Sy _) _));have TI:=ai (Ub.out.trans0 HO4a.out);have Zp:Hid (jN W4 w3.heap.size):=fun y=>by rw [TY]; simp
 have XL:Hid (w3.heap.size ≠ R):=by have:=Yq.out.rd.lt; show _ ≠ _; omega
 have HX0:Hid (w.heap.size≤w3.heap.size):=Ub.out.size;have Zq:Hid (w3.heap.size≤w3.heap.size):=Sy _;go_wp2_with fail;rw [← TY];clear TY;obtain ⟨X,hX⟩:∃ X,X=w3.heap.size:=⟨_,rfl⟩;rw [← hX] at HV4 Zp XL HX0;replace Zq:Hid (w3.heap.size≤X):=Nat.le_of_eq hX.symm;rw [← hX];clear hX;refine (jQ R s oH (st.p + aj s st.p) st.bad v W4 Vy.out.rd hs HP3.out (by decide)).mono ?_;rintro e w5 ⟨rfl,Yg,hg5⟩;have HV5:=ai (HV4.out.grown hg5 (by intro e; injection e with e; exact XL.out e));have HFR5:=ai (cu Zp.out (hg5.block X HV4.out.2.2.2.2.2 (by intro e; injection e with e; exact XL.out e)));have TK:=ai (TI.out.trans0 (Onl.of_grown hg5));have XM:=ai (HO4a.out.trans0 (Onl.of_grown hg5));cases hc:mr s oH (st.p + aj s st.p) st.bad;case false=>
  have Y8:=ai (Vy.out.is_no hR hc Yg hg5);have EQ:=ai (MK hc);clear Yg hg5 hc Vy TI HV4 Zp;obtain ⟨x0,x1,x2,x3,x4,xl⟩:=HV5.out;replace x0:w5.cell? ⟨X,0,none⟩=some (.int .i64 2):=x0;replace x1:w5.cell? ⟨X,1,none⟩=some (.slice none 0 0):=x1;replace x2:w5.cell? ⟨X,2,none⟩=some (.string ⟨#[]⟩):=x2;replace x3:w5.cell? ⟨X,3,none⟩=some (.string (av s st.p)):=x3;replace x4:w5.cell? ⟨X,4,none⟩=some (.slice none 0 0):=x4;go_wp2_with fail;refine (lW (bare 2 ⟨#[]⟩ (av s st.p)) w5 ⟨fun a ha=>(by cases ha),SC _,by show (av s st.p).size≤maxLen; rw [WF.out]; have:=HP3.out; unfold maxLen; omega,SC _,SC _⟩ (by show (2:Int) ≠ 1; decide)).mono ?_;rintro e w6 ⟨rfl,Xe⟩;have Uq:=ai (TK.out.trans0 (Onl.of_below Xe));have WG:=ai (Y8.out.over hR (Onl.of_below Xe) (Y8.out.rd.below Xe));obtain ⟨y0,y1,y2,y3,y4,yl⟩:=HV5.out.below Xe;replace y0:w6.cell? ⟨X,0,none⟩=some (.int .i64 2):=y0;replace y1:w6.cell? ⟨X,1,none⟩=some (.slice none 0 0):=y1;replace y2:w6.cell? ⟨X,2,none⟩=some (.string ⟨#[]⟩):=y2;replace y3:w6.cell? ⟨X,3,none⟩=some (.string (av s st.p)):=y3;replace y4:w6.cell? ⟨X,4,none⟩=some (.slice none 0 0):=y4;clear x0 x1 x2 x3 x4 xl Xe HV5 Y8 TK;cases hb:ay (bare 2 ⟨#[]⟩ (av s st.p)).e;case true=>
   have HE:Hid (eT s st=(bare 2 ⟨#[]⟩ (av s st.p)).e∧judged (eT s st) (aJ s st)=(⟨st.p + aj s st.p,st.bad,st.out⟩:RS)):=by
    refine ⟨EQ.out.1,?_⟩;rw [EQ.out.1,EQ.out.2];exact if_pos hb
   clear hb;go_wp2_with fail;refine (GJ R s ((⟨st.p + aj s st.p,st.bad,st.out⟩:RS)) base v qs (bare 2 ⟨#[]⟩ (av s st.p)) w6 WG.out hR (SF hB Uq.out.size) hn (uu _ _ _ _ _) (.inl ⟨rfl,rfl,rfl⟩) (fun g hg=>absurd hg (j6 _ _ _ g))).mono ?_;rintro e w7 ⟨v7,rfl,hF7,Yh⟩;have HF7:=ai hF7;have HW7:=ai ((Uq.out.any v).trans Yh);clear hF7 Yh;go_wp2;exact bodyPost_ret (v:=.int .i64 (st.out.length:Int)) (by simp [results,Tryz.results234,go_sem]) rfl (by rw [HE.out.1,← HE.out.1,HE.out.2,HE.out.1]; exact ⟨v7,[bare 2 ⟨#[]⟩ (av s st.p)],rfl,HF7.out,HW7.out,fun q hq g hg=>by rw [SG] at hq; subst hq; exact absurd hg (j6 _ _ _ g)⟩)
  have HE:Hid (eT s st=(bare 2 ⟨#[]⟩ (av s st.p)).e∧judged (eT s st) (aJ s st)=ul ((⟨st.p + aj s st.p,st.bad,st.out⟩:RS))):=by
   refine ⟨EQ.out.1,?_⟩;rw [EQ.out.1,EQ.out.2];exact if_neg (fun e=>by have:=e.symm.trans hb; cases this)
  clear hb;have c2:=WG.out.rd.c2;have f2:=WG.out.rd.fr 2;have hl:=WG.out.rd.lt;have hxr:=XL.out;have hrx:=Ne.symm XL.out;have Vt:Hid (Onl R nE w (w6.setCell ⟨R,2,none⟩ (.bool true))):=Uq.out.at_own _ _;have HF7:Hid (RdF (w6.setCell ⟨R,2,none⟩ (.bool true)) R s (ul ((⟨st.p + aj s st.p,st.bad,st.out⟩:RS))) base v qs):=WG.out.over hR ((Onl.refl R nE w6).at_own _ _) WG.out.rd.hurt;go_wp2_with fail;refine (GJ R s (ul ((⟨st.p + aj s st.p,st.bad,st.out⟩:RS))) base v qs (bare 2 ⟨#[]⟩ (av s st.p)) _ HF7.out hR (SF hB Vt.out.size) hn (uu _ _ _ _ _) (.inl ⟨rfl,rfl,rfl⟩) (fun g hg=>absurd hg (j6 _ _ _ g))).mono ?_;rintro e w8 ⟨v8,rfl,hF8,Vw⟩;have HF8:=ai hF8;have HW8:=ai ((Vt.out.any v).trans Vw);clear hF8 Vw;go_wp2;exact bodyPost_ret (v:=.int .i64 (st.out.length:Int)) (by simp [results,Tryz.results234,go_sem,ul]) rfl (by rw [HE.out.1,← HE.out.1,HE.out.2,HE.out.1]; exact ⟨v8,[bare 2 ⟨#[]⟩ (av s st.p)],rfl,HF8.out,HW8.out,fun q hq g hg=>by rw [SG] at hq; subst hq; exact absurd hg (j6 _ _ _ g)⟩)
 have Y8:=ai (Vy.out.is_yes hR hc Yg hg5);have EQ:=ai (JZ hc);have HP5:Hid (st.p + aj s st.p + 2≤s.size):=vL hc;clear Yg hg5 hc Vy TI HV4 Zp;go_wp2_with fail;refine lV 5 (fun _=>undef) (fun f=>{ tmps:=List.toArray (Value.pointer (some ⟨R,0,none⟩)::undef::.int .i64 0::undef::undef::undef::.pointer (some ⟨X,0,none⟩)::.pointer (some ⟨R,0,none⟩)::.bool false::undef::undef::undef::undef::undef::undef::undef::undef::undef::undef::undef::undef::undef::undef::undef::undef::undef::undef::undef::undef::undef::undef::undef::undef::undef::undef::undef::undef::undef::undef::undef::.pointer (some ⟨R,0,none⟩)::.bool false::undef::undef::undef::undef::undef::undef::undef::undef::undef::.pointer (some ⟨R,0,none⟩)::.string (av s st.p)::.agg #[.int .i64 2,.slice none 0 0,.string ⟨#[]⟩,.string (av s st.p),.slice none 0 0]::.pointer (some ⟨R,0,none⟩)::.bool true::f 0::f 1::f 2::f 3::f 4::undef::undef::undef::undef::undef::undef::undef::undef::undef::[]),defers:=[] }) (VB (Value.pointer (some ⟨X,3,none⟩)::.string (av s st.p)::.pointer (some ⟨R,0,none⟩)::.string (av s (st.p + aj s st.p + 2))::.agg #[.int .i64 3,.slice none 0 0,.string (av s st.p),.string (av s (st.p + aj s st.p + 2)),.slice none 0 0]::[]) R s ((st.p + aj s st.p + 2) + aj s (st.p + aj s st.p + 2)) st.bad v) (GB R s (st.p + aj s st.p + 2) st.bad v X (bare 2 ⟨#[]⟩ (av s st.p)) w3) (by kernel_rfl) rfl (by decide +kernel) (by decide +kernel) rfl ⟨fun _=>Y8.out.rd.drewN 1,HV5.out,⟨XM.out.os,XM.out.tape,XM.out.output,XM.out.size,XM.out.block⟩,HFR5.out⟩ ?xK ?finB;case xK =>
  rintro i hi o ho listed f w' hls UD hG hpre;have HG:=ai hG;have HM:Hid (∀ e ∈ o.after,Region.binds .any e=true→_):=hpre;clear hG hpre;have hc:i=0 ∨ i=1 ∨ i=2 ∨ i=3 ∨ i=4:=by omega
  clear hi
  repeat' rcases hc with rfl | hc
  ·cases ho;have HS:=ai (HG.out.step (i:=0) hls (by decide));refine aa rfl fun K HK=>?_;clear HM;dsimp only;go_simp;exact HK.out _ _ ⟨Value.pointer (some ⟨X,3,none⟩),by simp [upd],HS.out,⟨rfl,fun e=>absurd e (by decide)⟩,fun k u _ hu=>hu⟩
  ·cases ho;have e0:f 0=Value.pointer (some ⟨X,3,none⟩):=(HM.out ⟨0,.data⟩ (by simp) rfl).1;have x3:w'.cell? ⟨X,3,none⟩=some (.string (av s st.p)):=HG.out.box.2.2.2.1;have HS:=ai (HG.out.step (i:=1) hls (by decide));refine aa rfl fun K HK=>?_;clear HM;simp only [e0];go_simp;exact HK.out _ _ ⟨Value.string (av s st.p),by simp [upd,e0],HS.out,⟨rfl,fun e=>absurd e (by decide)⟩,fun k u _ hu=>hu⟩
  ·cases ho;have HS:=ai (HG.out.step (i:=2) hls (by decide));refine aa rfl fun K HK=>?_;clear HM;dsimp only;go_simp;exact HK.out _ _ ⟨Value.pointer (some ⟨R,0,none⟩),by simp [upd],HS.out,⟨rfl,fun e=>absurd e (by decide)⟩,fun k u _ hu=>hu⟩
  ·cases ho;have e2:f 2=Value.pointer (some ⟨R,0,none⟩):=(HM.out ⟨2,.data⟩ (by simp) rfl).1;have hrd:=ai (HG.out.rd (GI UD hls (by omega)));refine aa rfl fun K HK=>?_;clear HM;simp only [e2];go_simp;refine (uq R s (st.p + aj s st.p + 2) st.bad v w' hrd.out hs HP5.out).mono ?_;rintro e w7 ⟨rfl,hr7,VW⟩;have HS:=ai (HG.out.called hls VW XL.out);have HR7:=ai hr7;clear hr7 VW;go_wp2_with fail;exact HK.out _ _ ⟨Value.string (av s (st.p + aj s st.p + 2)),by simp [upd,e2],HS.out,⟨rfl,fun _=>HR7.out⟩,fun k u hk hu=>⟨hu.1,fun e=>absurd e hk⟩⟩
  cases ho;have e1:f 1=Value.string (av s st.p):=(HM.out ⟨1,.data⟩ (by simp) rfl).1;have e3:f 3=Value.string (av s (st.p + aj s st.p + 2)):=(HM.out ⟨3,.data⟩ (by simp) rfl).1;have HS:=ai (HG.out.step (i:=4) hls (by decide));refine aa rfl fun K HK=>?_;clear HM;simp only [e1,e3];go_simp;exact HK.out _ _ ⟨Value.agg #[.int .i64 3,.slice none 0 0,.string (av s st.p),.string (av s (st.p + aj s st.p + 2)),.slice none 0 0],by simp [upd,e1,e3],HS.out,⟨rfl,fun e=>absurd e (by decide)⟩,fun k u _ hu=>hu⟩
 rintro o ho listed f w' hG hall;obtain rfl:=Option.some.inj ho;have e4:f 4=Value.agg #[.int .i64 3,.slice none 0 0,.string (av s st.p),.string (av s (st.p + aj s st.p + 2)),.slice none 0 0]:=(hall 4 (by omega)).1;have Yo:=ai ((hall 3 (by omega)).2 rfl);have HG:=ai hG;obtain ⟨x0,x1,x2,x3,x4,xl⟩:=hG.box;have f0:=hG.fr 0;have f1:=hG.fr 1;have f2:=hG.fr 2;have f3:=hG.fr 3;have f4:=hG.fr 4;clear ho hall hG;refine wpOp_step rfl (fun K hK=>?_);have HK:Hid (∀ a w,_→K a w):=hK;clear hK;simp only [e4];go_simp;refine HK.out _ _ ?_;clear HK;obtain ⟨wz,hwz⟩:∃ wz,wz=(((((w'.setCell ⟨X,0,none⟩ (.int .i64 3)).setCell ⟨X,1,none⟩ (.slice none 0 0)).setCell ⟨X,2,none⟩ (.string (av s st.p))).setCell ⟨X,3,none⟩ (.string (av s (st.p + aj s st.p + 2)))).setCell ⟨X,4,none⟩ (.slice none 0 0)):=⟨_,rfl⟩;have HO3z:Hid (Onl R nE w3 wz):=by rw [hwz]; exact ((((HG.out.onl.at_new Zq.out _ _).at_new Zq.out _ _).at_new Zq.out _ _).at_new Zq.out _ _).at_new Zq.out _ _
 have HRz:Hid (RdC wz R s (st.p + aj s st.p + 2 + aj s (st.p + aj s st.p + 2)) st.bad v):=by rw [hwz]; exact ((((Yo.out.other XL.out _ _).other XL.out _ _).other XL.out _ _).other XL.out _ _).other XL.out _ _
 have HVz:Hid (xS wz X (bare 3 (av s st.p) (av s (st.p + aj s st.p + 2)))):=by rw [hwz]; exact MJ x0 x1 x2 x3 x4 xl _ _ _
 clear HV5 Y8 TK XM HFR5;have Y8:=ai (Yq.out.over hR HO3z.out HRz.out);have TK:=ai (Ub.out.trans0 HO3z.out);rw [← hwz];clear hwz x0 x1 x2 x3 x4 xl f0 f1 f2 f3 f4 e4 HRz HO3z HG Yo;obtain ⟨x0,x1,x2,x3,x4,xl⟩:=HVz.out;replace x0:wz.cell? ⟨X,0,none⟩=some (.int .i64 3):=x0;replace x1:wz.cell? ⟨X,1,none⟩=some (.slice none 0 0):=x1;replace x2:wz.cell? ⟨X,2,none⟩=some (.string (av s st.p)):=x2;replace x3:wz.cell? ⟨X,3,none⟩=some (.string (av s (st.p + aj s st.p + 2))):=x3;replace x4:wz.cell? ⟨X,4,none⟩=some (.slice none 0 0):=x4;go_wp2_with fail;refine (lW (bare 3 (av s st.p) (av s (st.p + aj s st.p + 2))) wz ⟨fun a ha=>(by cases ha),by show (av s st.p).size≤maxLen; rw [WF.out]; have:=HP3.out; unfold maxLen; omega,by show (av s (st.p + aj s st.p + 2)).size≤maxLen; rw [yN s _ HP5.out]; have:=kC s _ HP5.out; unfold maxLen; omega,SC _,SC _⟩ (by show (3:Int) ≠ 1; decide)).mono ?_;rintro e w6 ⟨rfl,Xe⟩;have Uq:=ai (TK.out.trans0 (Onl.of_below Xe));have WG:=ai (Y8.out.over hR (Onl.of_below Xe) (Y8.out.rd.below Xe));obtain ⟨y0,y1,y2,y3,y4,yl⟩:=HVz.out.below Xe;replace y0:w6.cell? ⟨X,0,none⟩=some (.int .i64 3):=y0;replace y1:w6.cell? ⟨X,1,none⟩=some (.slice none 0 0):=y1;replace y2:w6.cell? ⟨X,2,none⟩=some (.string (av s st.p)):=y2;replace y3:w6.cell? ⟨X,3,none⟩=some (.string (av s (st.p + aj s st.p + 2))):=y3;replace y4:w6.cell? ⟨X,4,none⟩=some (.slice none 0 0):=y4;clear x0 x1 x2 x3 x4 xl Xe HVz Y8 TK;cases hb:ay (bare 3 (av s st.p) (av s (st.p + aj s st.p + 2))).e;case true=>
  have HE:Hid (eT s st=(bare 3 (av s st.p) (av s (st.p + aj s st.p + 2))).e∧judged (eT s st) (aJ s st)=(⟨st.p + aj s st.p + 2 + aj s (st.p + aj s st.p + 2),st.bad,st.out⟩:RS)):=by
   refine ⟨EQ.out.1,?_⟩;rw [EQ.out.1,EQ.out.2];exact if_pos hb
  clear hb;go_wp2_with fail;refine (GJ R s ((⟨st.p + aj s st.p + 2 + aj s (st.p + aj s st.p + 2),st.bad,st.out⟩:RS)) base v qs (bare 3 (av s st.p) (av s (st.p + aj s st.p + 2))) w6 WG.out hR (SF hB Uq.out.size) hn (uu _ _ _ _ _) (.inl ⟨rfl,rfl,rfl⟩) (fun g hg=>absurd hg (j6 _ _ _ g))).mono ?_;rintro e w7 ⟨v7,rfl,hF7,Yh⟩;have HF7:=ai hF7;have HW7:=ai ((Uq.out.any v).trans Yh);clear hF7 Yh;go_wp2;exact bodyPost_ret (v:=.int .i64 (st.out.length:Int)) (by simp [results,Tryz.results234,go_sem]) rfl (by rw [HE.out.1,← HE.out.1,HE.out.2,HE.out.1]; exact ⟨v7,[bare 3 (av s st.p) (av s (st.p + aj s st.p + 2))],rfl,HF7.out,HW7.out,fun q hq g hg=>by rw [SG] at hq; subst hq; exact absurd hg (j6 _ _ _ g)⟩)
 have HE:Hid (eT s st=(bare 3 (av s st.p) (av s (st.p + aj s st.p + 2))).e∧judged (eT s st) (aJ s st)=ul ((⟨st.p + aj s st.p + 2 + aj s (st.p + aj s st.p + 2),st.bad,st.out⟩:RS))):=by
  refine ⟨EQ.out.1,?_⟩;rw [EQ.out.1,EQ.out.2];exact if_neg (fun e=>by have:=e.symm.trans hb; cases this)
 clear hb;have c2:=WG.out.rd.c2;have f2:=WG.out.rd.fr 2;have hl:=WG.out.rd.lt;have hxr:=XL.out;have hrx:=Ne.symm XL.out;have Vt:Hid (Onl R nE w (w6.setCell ⟨R,2,none⟩ (.bool true))):=Uq.out.at_own _ _;have HF7:Hid (RdF (w6.setCell ⟨R,2,none⟩ (.bool true)) R s (ul ((⟨st.p + aj s st.p + 2 + aj s (st.p + aj s st.p + 2),st.bad,st.out⟩:RS))) base v qs):=WG.out.over hR ((Onl.refl R nE w6).at_own _ _) WG.out.rd.hurt;go_wp2_with fail;refine (GJ R s (ul ((⟨st.p + aj s st.p + 2 + aj s (st.p + aj s st.p + 2),st.bad,st.out⟩:RS))) base v qs (bare 3 (av s st.p) (av s (st.p + aj s st.p + 2))) _ HF7.out hR (SF hB Vt.out.size) hn (uu _ _ _ _ _) (.inl ⟨rfl,rfl,rfl⟩) (fun g hg=>absurd hg (j6 _ _ _ g))).mono ?_;rintro e w8 ⟨v8,rfl,hF8,Vw⟩;have HF8:=ai hF8;have HW8:=ai ((Vt.out.any v).trans Vw);clear hF8 Vw;go_wp2;exact bodyPost_ret (v:=.int .i64 (st.out.length:Int)) (by simp [results,Tryz.results234,go_sem,ul]) rfl (by rw [HE.out.1,← HE.out.1,HE.out.2,HE.out.1]; exact ⟨v8,[bare 3 (av s st.p) (av s (st.p + aj s st.p + 2))],rfl,HF8.out,HW8.out,fun q hq g hg=>by rw [SG] at hq; subst hq; exact absurd hg (j6 _ _ _ g)⟩)
end Go.Proofs.YtajkkeikihhejaaGreat
