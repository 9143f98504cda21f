/- The document's reader in memory: its block, its nodes, each node's lists in blocks of their own; one more node. -/
import Derived.Test.YtajkkeikihhejaaGreatSq
import Derived.Test.YtajkkeikihhejaaGreatJ8
open Go.Proofs.Tryz
set_option maxHeartbeats 80000000
namespace Go.Proofs.YtajkkeikihhejaaGreat
set_option maxRecDepth 100000
open Go.ChangeShapes Go.WideShapes Go.ChangeAt Go.RowKit
open Pl
structure Went (R:Nat) (v:Value) (w:World) (v':Value) (w':World):Prop where
 onl:Onl R v w w'
 own:v'.ownBlock=v.ownBlock ∨ ∃ g,v'.ownBlock=some g∧w.heap.size≤g
theorem Onl.refl (R:Nat) (v:Value) (w:af):Onl R v w w:=⟨rfl,rfl,rfl,TS _,fun _ _ _ _=>rfl⟩
theorem Went.refl (R:Nat) (v:Value) (w:af):Went R v w v w:=⟨Onl.refl R v w,.inl rfl⟩
theorem Went.apart {R:Nat} {v v':Value} {w w':af} (h:Went R v w v' w') {k:Nat} (hk:k < w.heap.size) (hv:v.ownBlock ≠ some k):v'.ownBlock ≠ some k:=by
 rcases h.own with e | ⟨g,e,hg⟩
 ·rw [e]; exact hv
 rw [e]; intro h2; injection h2 with h2; omega
theorem Went.trans {R:Nat} {v v1 v2:Value} {w w1 w2:af} (h:Went R v w v1 w1) (h2:Went R v1 w1 v2 w2):Went R v w v2 w2:=by
 refine ⟨⟨h2.onl.os.trans h.onl.os,h2.onl.tape.trans h.onl.tape,h2.onl.output.trans h.onl.output,TZ h.onl.size h2.onl.size,fun k hk h3 h4=>(h2.onl.block k (TP hk h.onl.size) h3 (h.apart hk h4)).trans (h.onl.block k hk h3 h4)⟩,?_⟩;rcases h2.own with e | ⟨g,e,hg⟩
 ·rw [e]; exact h.own
 exact .inr ⟨g,e,TZ h.onl.size hg⟩
abbrev nI:Value:=.slice none 0 0
theorem Onl.any {R:Nat} {w w':af} (h:Onl R nI w w') (v:Value):Went R v w v w':=⟨⟨h.os,h.tape,h.output,h.size,fun k hk h1 _=>h.block k hk h1 (by simp [Value.ownBlock])⟩,.inl rfl⟩
theorem Onl.of_grown {R:Nat} {w w':af} (h:w.grownBy w' (some R)):Onl R nI w w':=⟨h.os,h.tape,h.output,h.size,fun k hk h1 _=>h.block k hk (fun e=>h1 (by injection e))⟩
theorem Onl.trans0 {R:Nat} {w w1 w2:af} (h:Onl R nI w w1) (h2:Onl R nI w1 w2):Onl R nI w w2:=((h.any nI).trans (h2.any nI)).onl
theorem Onl.of_below {R:Nat} {w w':af} (h:ag w w'):Onl R nI w w':=⟨h.os,h.tape,h.output,h.size,fun k hk _ _=>h.block k hk⟩
def BC (w:World) (base:Nat) (q:ER):Prop:=(q.e.kids=[]∧q.adK=none∧q.capK=0) ∨ (q.e.kids ≠ []∧w.ownsRow base 2 1 (.slice q.adK q.e.kids.length q.capK) q.e.kids.length (ints q.e.kids))
structure RdF (w:World) (R:Nat) (s:ByteArray) (st:RS) (base:Nat) (v:Value) (qs:List ER):Prop where
 rd:RdC w R s st.p st.bad v
 own:w.ownsRow base 39 5 v qs.length (gZ qs)
 out:ak qs=st.out
 zA:∀ q ∈ qs,q.e.allow ≠ []→∃ g,q.adA=some ⟨g,0,none⟩
 zK:∀ q ∈ qs,q.e.kids ≠ []→∃ g,q.adK=some ⟨g,0,none⟩
 ok:∀ q ∈ qs,q.ok w
 lie:∀ q ∈ qs,∀ g,oJ q g→base≤g∧g < w.heap.size∧gY w g∧v.ownBlock ≠ some g
 one:∀ q ∈ qs,∀ g,bA q g→¬ bK q g
 two:∀ (x y:Nat) (hx:x < qs.length) (hy:y < qs.length),x ≠ y→∀ g,oJ qs[x] g→¬ oJ qs[y] g
 cA:∀ q ∈ qs,q.e.allow.length≤q.capA
 cK:∀ q ∈ qs,BC w base q
theorem BC.heap {w w':af} {base:Nat} {q:ER} (h:BC w base q) (hz:q.e.kids ≠ []→∃ g,q.adK=some ⟨g,0,none⟩) (hh:∀ g,oJ q g→w'.heap[g]?=w.heap[g]?):BC w' base q:=by
 rcases h with h | ⟨hne,h⟩
 ·exact .inl h
 obtain ⟨g,eg⟩:=hz hne;refine .inr ⟨hne,jr h fun g' hg'=>?_⟩;rw [eg] at hg';have:g=g':=by simpa [Value.ownBlock] using hg'
 subst this;exact hh g (.inr ⟨hne,eg⟩)
theorem BC.mono {w:af} {base base':Nat} {q:ER} (h:BC w base q) (hb:base'≤base):BC w base' q:=by
 rcases h with h | ⟨hne,h⟩
 ·exact .inl h
 refine .inr ⟨hne,h.1,?_⟩;rcases h.2 with hl | ⟨g,cap,cur,e,h1,h2⟩
 ·exact .inl hl
 exact .inr ⟨g,cap,cur,e,TZ hb h1,h2⟩
theorem RdF.over {w w':af} {R:Nat} {s:ByteArray} {st:RS} {base:Nat} {v:Value} {qs:List ER} (h:RdF w R s st base v qs) (hR:R < base) (ho:Onl R nI w w') {p:Nat} {bad:Bool} (hr:RdC w' R s p bad v):RdF w' R s ⟨p,bad,st.out⟩ base v qs where
 rd:=hr
 own:=jr h.own fun g hg=>ho.block g (h.own.lt g hg).2 (by have:=(h.own.lt g hg).1; omega) (by simp [Value.ownBlock])
 out:=h.out
 zA:=h.zA
 zK:=h.zK
 ok q hq:=rf (h.ok q hq) ho.size (h.zA q hq) (h.zK q hq) fun g hg=>ho.block g (h.lie q hq g hg).2.1 (by have:=(h.lie q hq g hg).1; omega) (by simp [Value.ownBlock])
 lie q hq g hg:=by
  obtain ⟨h1,h2,h3,h4⟩:=h.lie q hq g hg;exact ⟨h1,TP h2 ho.size,df h3 (ho.block g h2 (by omega) (by simp [Value.ownBlock])),h4⟩
 one:=h.one
 two:=h.two
 cA:=h.cA
 cK q hq:=(h.cK q hq).heap (h.zK q hq) fun g hg=>ho.block g (h.lie q hq g hg).2.1 (by have:=(h.lie q hq g hg).1; omega) (by simp [Value.ownBlock])
theorem Ie (R:Nat) (s:bH) (st:RS) (base:Nat) (v:Value) (qs:List ER) (q:ER) (w:af) (h:RdF w R s st base v qs) (hR:R < base) (hB:base≤w.heap.size) (hn:qs.length≤100000)
  (hq:NewQ base w q) (Vh:BC w base q) (ha:∀ g,oJ q g→v.ownBlock ≠ some g∧∀ q' ∈ qs,¬ oJ q' g) :
  Calls prog 237 #[.pointer (some ⟨R,0,none⟩),q.val] w fun e w'=>∃ v',e=.returned (.int .i64 (st.out.length:Int))∧RdF w' R s (rV q.e st) base v' (qs ++ [q])∧Went R v w v' w':=by
 have hlen:qs.length=st.out.length:=by rw [← h.out]; simp [ak]
 refine (Qh R s st.p st.bad v base qs.length (gZ qs) q w h.rd h.own hR hB hn).mono ?_;rintro e w' ⟨g,cap,rfl,hrd,hown,YA,hat⟩;have hW:Went R v w (.slice (some ⟨g,0,none⟩) (qs.length + 1) cap) w':=⟨YA,by
  rcases hat with e | e
  ·exact .inl (by rw [e]; rfl)
  exact .inr ⟨g,rfl,e⟩⟩
 have keep:∀ k,k < w.heap.size→base≤k→v.ownBlock ≠ some k→w'.heap[k]?=w.heap[k]?:=fun k h1 h2 h3=>YA.block k h1 (by omega) h3;refine ⟨.slice (some ⟨g,0,none⟩) (qs.length + 1) cap,by rw [hlen],?_,hW⟩;refine ⟨by unfold rV; rw [← hlen]; exact hrd,?_,?_,?_,?_,?_,?_,?_,?_,?_,?_⟩
 ·rw [T9,List.length_singleton,H7]; exact hown
 ·simp [ak,rV,← h.out]
 ·intro q' hq';rcases Uc.1 hq' with h1 | h1
  ·exact h.zA q' h1
  rw [Ua] at h1; subst h1; exact hq.zA
 ·intro q' hq';rcases Uc.1 hq' with h1 | h1
  ·exact h.zK q' h1
  rw [Ua] at h1; subst h1; exact hq.zK
 ·intro q' hq';rcases Uc.1 hq' with h1 | h1
  ·exact rf (h.ok q' h1) YA.size (h.zA q' h1) (h.zK q' h1) fun k hk=>keep k (h.lie q' h1 k hk).2.1 (h.lie q' h1 k hk).1 (h.lie q' h1 k hk).2.2.2
  rw [Ua] at h1; subst h1;exact rf hq.ok YA.size hq.zA hq.zK fun k hk=>keep k (hq.lie k hk).2.1 (hq.lie k hk).1 (ha k hk).1
 ·intro q' hq' k hk;rcases Uc.1 hq' with h1 | h1
  ·obtain ⟨a1,a2,a3,a4⟩:=h.lie q' h1 k hk;exact ⟨a1,TP a2 YA.size,df a3 (keep k a2 a1 a4),hW.apart a2 a4⟩
  rw [Ua] at h1; subst h1;obtain ⟨a1,a2,a3⟩:=hq.lie k hk;exact ⟨a1,TP a2 YA.size,df a3 (keep k a2 a1 (ha k hk).1),hW.apart a2 (ha k hk).1⟩
 ·intro q' hq';rcases Uc.1 hq' with h1 | h1
  ·exact h.one q' h1
  rw [Ua] at h1; subst h1; exact hq.one
 ·intro x y hx hy hxy k hkx Zd;rw [T9,List.length_singleton] at hx hy;by_cases ex:x < qs.length
  ·rw [Uk ex] at hkx;by_cases ey:y < qs.length
   ·rw [Uk ey] at Zd;exact h.two x y ex ey hxy k hkx Zd
   have:y=qs.length:=by omega
   subst this;rw [Ur (TS _)] at Zd;simp at Zd;exact (ha k Zd).2 _ (TQ ex) hkx
  have:x=qs.length:=by omega
  subst this;rw [Ur (TS _)] at hkx;simp at hkx;have ey:y < qs.length:=by omega
  rw [Uk ey] at Zd;exact (ha k hkx).2 _ (TQ ey) Zd
 ·intro q' hq';rcases Uc.1 hq' with h1 | h1
  ·exact h.cA q' h1
  rw [Ua] at h1; subst h1; exact hq.cA
 intro q' hq';rcases Uc.1 hq' with h1 | h1
 ·exact (h.cK q' h1).heap (h.zK q' h1) fun k hk=>keep k (h.lie q' h1 k hk).2.1 (h.lie q' h1 k hk).1 (h.lie q' h1 k hk).2.2.2
 rw [Ua] at h1; subst h1;exact Vh.heap hq.zK fun k hk=>keep k (hq.lie k hk).2.1 (hq.lie k hk).1 (ha k hk).1
def uC (R:Nat) (s:ByteArray) (base:Nat) (v:Value) (qs:List ER) (w:World) (x:Int × RS) (e:Ending) (w':World):Prop :=
 ∃ v' ns,e=.returned (.int .i64 x.1)∧RdF w' R s x.2 base v' (qs ++ ns)∧Went R v w v' w'∧∀ q ∈ ns,∀ g,oJ q g→w.heap.size≤g
def sQ (s:ByteArray) (x:Int × RS):Int × RS:=if kZ s dU x.2 then (x.1,ko dU x.2) else (x.1,uz x.2)
theorem Ig {s:ByteArray} {x:Int × RS} (h:mG s dU x.2.p x.2.bad=true):sQ s x=(x.1,ko dU x.2):=if_pos h
theorem KW {s:ByteArray} {x:Int × RS} (h:mG s dU x.2.p x.2.bad=false):sQ s x=(x.1,uz x.2):=if_neg (fun e=>by rw [kZ,← mG,h] at e; cases e)
theorem RdF.is_no {w w':af} {R:Nat} {s t:ByteArray} {st:RS} {base:Nat} {v:Value} {qs:List ER} (h:RdF w R s st base v qs) (hR:R < base) (hb:mG s t st.p st.bad=false) (hr:RdC w' R s (Qg s t st.p st.bad) st.bad v) (hg:w.grownBy w' (some R)):RdF w' R s st base v qs:=by
 rw [sP hb] at hr;exact h.over hR (Onl.of_grown hg) hr
theorem RdF.is_yes {w w':af} {R:Nat} {s t:ByteArray} {st:RS} {base:Nat} {v:Value} {qs:List ER} (h:RdF w R s st base v qs) (hR:R < base) (hb:mG s t st.p st.bad=true) (hr:RdC w' R s (Qg s t st.p st.bad) st.bad v) (hg:w.grownBy w' (some R)):RdF w' R s (ko t st) base v qs:=by
 rw [oP hb] at hr;exact h.over hR (Onl.of_grown hg) hr
theorem wh {s t:ByteArray} {p:Nat} {bad:Bool} (h:mG s t p bad=true):p + t.size≤s.size:=by
 unfold mG at h;simp only [TU] at h;exact FE h.2
theorem Ny (R:Nat) (s:bH) (st:RS) (base:Nat) (v:Value) (qs:List ER) (w:af) (h:RdF w R s st base v qs) (hR:R < base) (hs:s.size≤1000) (hp:st.p≤s.size)
  (h0:mG s fT st.p st.bad=false) (h1:mG s jA st.p st.bad=true) (x:Int × RS) (hx:x.2.p≤s.size)
  (hrow:∀ w1,RdF w1 R s (ko jA st) base v qs→w.heap.size≤w1.heap.size→Calls prog 219 #[.pointer (some ⟨R,0,none⟩)] w1 (uC R s base v qs w1 x)) :
  Calls prog 234 #[.pointer (some ⟨R,0,none⟩)] w (uC R s base v qs w (sQ s x)):=by
 have H:=ai h;have Vp:=ai hrow;have HX:=ai hx;have HP:=ai hp;clear h hrow hx hp;go_enter func234,ntmps234;go_wp2_with fail;refine (jS R s fT st.p st.bad v w H.out.rd hs HP.out (by decide)).mono ?_;rintro e w1 ⟨rfl,hr1,hg1⟩;have Vz:=ai (H.out.is_no hR h0 hr1 hg1);have UV:=ai (Onl.of_grown hg1);rw [h0];clear hr1 hg1 h0;go_wp2_with fail;refine (jS R s jA st.p st.bad v w1 Vz.out.rd hs HP.out (by decide)).mono ?_;rintro e w2 ⟨rfl,hr2,hg2⟩;have VK:=ai (Vz.out.is_yes hR h1 hr2 hg2);have UB:=ai (UV.out.trans0 (Onl.of_grown hg2));rw [h1];clear hr2 hg2 h1;go_wp2_with fail;refine (Vp.out w2 VK.out UB.out.size).mono ?_;rintro e w3 ⟨v3,ns,rfl,XX,hW3,hns⟩;have Ze:=ai XX;have HW3:=ai ((UB.out.any v).trans hW3);have HNS:Hid (∀ q ∈ ns,∀ g,oJ q g→w.heap.size≤g):=fun q hq g hg=>TZ UB.out.size (hns q hq g hg);clear XX hW3 hns Vz UV VK UB Vp;go_wp2_with fail;refine (jS R s dU x.2.p x.2.bad v3 w3 Ze.out.rd hs HX.out (by decide)).mono ?_;rintro e w4 ⟨rfl,hr4,hg4⟩;cases hc:mG s dU x.2.p x.2.bad;case true=>
  have Wv:=ai (Ze.out.is_yes hR hc hr4 hg4);have HW4:=ai (HW3.out.trans ((Onl.of_grown hg4).any v3));have EQ:=ai (Ig (x:=x) hc);clear hr4 hg4 hc;go_wp2;exact bodyPost_ret (v:=.int .i64 x.1) (by simp [results,Tryz.results234,go_sem]) rfl (by rw [EQ.out]; exact ⟨v3,ns,rfl,Wv.out,HW4.out,HNS.out⟩)
 have Wv:=ai (Ze.out.is_no hR hc hr4 hg4);have HW4:=ai (HW3.out.trans ((Onl.of_grown hg4).any v3));have c2:=Wv.out.rd.c2;have f2:=Wv.out.rd.fr 2;have hl:=Wv.out.rd.lt;have EQ:=ai (KW (x:=x) hc);clear hr4 hg4 hc;go_wp2;exact bodyPost_ret (v:=.int .i64 x.1) (by simp [results,Tryz.results234,go_sem]) rfl (by rw [EQ.out]; exact ⟨v3,ns,rfl,Wv.out.over hR ((Onl.refl R nI w4).at_own _ _) Wv.out.rd.hurt,HW4.out.trans (((Onl.refl R nI w4).at_own _ _).any v3),HNS.out⟩)
theorem Nz (n lo hi:Int) (w:af) :
  Calls prog 190 #[.int .i64 n,.int .i64 lo,.int .i64 hi] w fun e w'=>e=.returned (.bool (decide (lo≤n) && decide (n≤hi)))∧w'=w:=by
 go_enter func190,ntmps190;go_wp2
 all_goals go_ret
 all_goals exact ⟨ah (by simp [*] <;> omega),rfl⟩
set_option maxRecDepth 8000 in
theorem l5 (r:ER) (w:af) (hf:r.e.fits) (h1:r.e.kind ≠ 1) :
  Calls prog 189 #[r.val] w fun e w'=>e=.returned (.bool (ax r.e))∧ag w w':=by
 obtain ⟨⟨kind,allow,over,name,kids⟩,adA,capA,adK,capK⟩:=r;obtain ⟨f1,f2,f3,f4,f5⟩:=hf;simp only at f1 f2 f3 f4 f5 h1;simp only [ER.val];unfold maxLen at f4 f5;by_cases h2:kind=2
 ·subst h2;clear h1;go_enter func189,ntmps189;go_wp2_with (go_at_call 111; refine (aS _ _ (by assumption)).mono ?_; rintro e w' ⟨rfl,rfl⟩)
  all_goals go_ret
  all_goals exact ⟨ah (by first | (simp [ax, *]; done) | (simp [ax, *]; omega) | (simp [ax, *]; rw [Bool.eq_iff_iff]; simp; done) | (simp [ax, *]; rw [Bool.eq_iff_iff]; simp; omega)),(TT w.heap.size w).alloc (TS _) _⟩
 by_cases h3:kind=3
 ·subst h3;clear h1;go_enter func189,ntmps189;go_wp2_with (go_at_call 111; refine (aS _ _ (by assumption)).mono ?_; rintro e w' ⟨rfl,rfl⟩)
  all_goals go_ret
  all_goals exact ⟨ah (by first | (simp [ax, *]; done) | (simp [ax, *]; omega) | (simp [ax, *]; rw [Bool.eq_iff_iff]; simp; done) | (simp [ax, *]; rw [Bool.eq_iff_iff]; simp; omega)),(TT w.heap.size w).alloc (TS _) _⟩
 by_cases h4:kind=4
 ·subst h4;clear h1;go_enter func189,ntmps189;go_wp2_with (go_at_call 111; refine (aS _ _ (by assumption)).mono ?_; rintro e w' ⟨rfl,rfl⟩)
  all_goals go_ret
  all_goals exact ⟨ah (by first | (simp [ax, *]; done) | (simp [ax, *]; omega) | (simp [ax, *]; rw [Bool.eq_iff_iff]; simp; done) | (simp [ax, *]; rw [Bool.eq_iff_iff]; simp; omega)),(TT w.heap.size w).alloc (TS _) _⟩
 by_cases h5:kind=5
 ·subst h5;clear h1;go_enter func189,ntmps189;go_wp2_with (go_at_call 111; refine (aS _ _ (by assumption)).mono ?_; rintro e w' ⟨rfl,rfl⟩)
  all_goals go_ret
  all_goals exact ⟨ah (by first | (simp [ax, *]; done) | (simp [ax, *]; omega) | (simp [ax, *]; rw [Bool.eq_iff_iff]; simp; done) | (simp [ax, *]; rw [Bool.eq_iff_iff]; simp; omega)),(TT w.heap.size w).alloc (TS _) _⟩
 by_cases h6:kind=6
 ·subst h6;clear h1;go_enter func189,ntmps189;go_wp2_with (go_at_call 111; refine (aS _ _ (by assumption)).mono ?_; rintro e w' ⟨rfl,rfl⟩)
  all_goals go_ret
  all_goals exact ⟨ah (by first | (simp [ax, *]; done) | (simp [ax, *]; omega) | (simp [ax, *]; rw [Bool.eq_iff_iff]; simp; done) | (simp [ax, *]; rw [Bool.eq_iff_iff]; simp; omega)),(TT w.heap.size w).alloc (TS _) _⟩
 go_enter func189,ntmps189;go_wp2_with (go_at_call 111; refine (aS _ _ (by assumption)).mono ?_; rintro e w' ⟨rfl,rfl⟩)
 all_goals go_ret
 all_goals exact ⟨ah (by first | (simp [ax, *]; done) | (simp [ax, *]; omega) | (simp [ax, *]; rw [Bool.eq_iff_iff]; simp; done) | (simp [ax, *]; rw [Bool.eq_iff_iff]; simp; omega)),(TT w.heap.size w).alloc (TS _) _⟩
theorem D9 (x y:Al) {v:Bool} (h:jQ x y=v) (w:af) :
  (binOp .eql 43 (.agg #[.string x.t,.string x.s]) (.agg #[.string y.t,.string y.s])).run prog w=.ok (.bool v) w:=by
 subst h;go_simp;unfold jQ;by_cases h1:x.t.toList=y.t.toList <;> by_cases h2:x.s.toList=y.s.toList <;> simp [h1,h2]
theorem Cn {xs:List Al} {j k:Nat} {a:Al} (hjk:j < k) (hj:j < xs.length) (h:jQ xs[j] a=true):dF xs k a=true:=by
 unfold dF;rw [Uo];refine ⟨xs[j],?_,h⟩;rw [List.mem_take_iff_getElem];exact ⟨j,by omega,rfl⟩
set_option maxRecDepth 8000 in
theorem BD (r:ER) (w:af) (hf:r.e.fits) (hok:r.ok w) (h1:r.e.kind=1) :
  Calls prog 189 #[r.val] w fun e w'=>e=.returned (.bool (ax r.e))∧ag w w':=by
 obtain ⟨⟨kind,allow,over,name,kids⟩,adA,capA,adK,capK⟩:=r;obtain ⟨f1,f2,f3,f4,f5⟩:=hf;obtain ⟨hA,hK⟩:=hok;simp only at f1 f2 f3 f4 f5 h1 hA hK;subst h1;simp only [ER.val];unfold maxLen at f4 f5;by_cases hl:1≤allow.length∧allow.length≤6
 ·obtain ⟨hl1,hl2⟩:=hl;obtain ⟨W,hW⟩:∃ W,W=w.alloc (.cells #[.int .i64 1,.slice adA allow.length capA,.string over,.string name,.slice adK kids.length capK] 39):=⟨_,rfl⟩;have HB0:Hid (ag w W):=by show Below _ _ _; rw [hW]; exact (TT w.heap.size w).alloc (TS _) _
  have hz:w.heap.size < W.heap.size:=by rw [hW]; simp
  have b1:W.cell? ⟨w.heap.size,1,none⟩=some (.slice adA allow.length capA):=by rw [hW]; simp
  have b2:W.cell? ⟨w.heap.size,2,none⟩=some (.string over):=by rw [hW]; simp
  have b3:W.cell? ⟨w.heap.size,3,none⟩=some (.string name):=by rw [hW]; simp
  have HA:=az (hA.below HB0.out);have Vz:=az f1;clear hA hK f1;go_enter func189,ntmps189;go_wp2_with fail;rw [← hW];clear hW;go_loopw [4] (fun i wr=>∃ k:Nat,k≤allow.length∧i=.int .i64 k∧Hid (DZ allow k=true)∧ag W wr) (fun i _=>allow.length - (intOf i).toNat);case atStart=>exact ⟨0,TW _,rfl,rfl,TT _ _⟩
  obtain ⟨k,hk,rfl,HU,hB⟩:=hrel;have a1:=kept hB hz b1;have a2:=kept hB hz b2;have a3:=kept hB hz b3;by_cases hlt:k < allow.length
  ·rcases HA.out.below hB with rfl | ⟨b,off,rfl,hb,hr⟩
   ·simp at hlt
   obtain ⟨t0,t1⟩:=hr k hlt;obtain ⟨z0,z1⟩:=Vz.out allow[k] (TQ hlt);have HR:Hid (∀ (i:Nat) (h:i < allow.length),RU wr b (off + i * 2) allow[i]):=hr;clear hr;obtain ⟨W1,hW1⟩:∃ W1,W1=wr.alloc (.cells #[.string allow[k].t,.string allow[k].s] 43):=⟨_,rfl⟩;have hal:ag wr W1:=by rw [hW1]; exact (TT _ _).alloc (TS _) _
   have hBW1:Below W.heap.size wr W1:=hal.mono hB.size;have hsz:w.heap.size < wr.heap.size:=TP hz hB.size;have hWs:W.heap.size≤W1.heap.size:=TZ hB.size hal.size;have c1:=kept hal hsz a1;have c2:=kept hal hsz a2;have c3:=kept hal hsz a3;have hbl:b < W1.heap.size:=TP hb hal.size;have hgl:wr.heap.size < W1.heap.size:=by rw [hW1]; simp
   have g0:W1.cell? ⟨wr.heap.size,0,none⟩=some (.string allow[k].t):=by rw [hW1]; simp
   have g1:W1.cell? ⟨wr.heap.size,1,none⟩=some (.string allow[k].s):=by rw [hW1]; simp
   have HR1:Hid (∀ (i:Nat) (h:i < allow.length),RU W1 b (off + i * 2) allow[i]):=fun i hi=>(HR.out i hi).same fun o=>hal.cell (p:=⟨b,o,none⟩) hb;cases hn:aP allow[k].t;case false=>
    have HN:Hid (DZ allow allow.length=false):=oL allow k hlt (by simp [Fz,hn]) _ hlt;go_wp2_with (go_at_call 111; refine (aS _ _ (by assumption)).mono ?_; rintro e w' ⟨rfl,rfl⟩);go_ret;exact ⟨ah (by simp [ax,eu,HN.out]),HB0.out.trans ((hB.trans ((TT _ _).alloc hB.size _)).mono HB0.out.size)⟩
   cases he:allow[k].s.toList.isEmpty
   case' true =>
    have HAl:Hid (Fz allow[k]=true):=by show _=_; simp [Fz,ul,hn,he]
    go_wp2_with (go_at_call 111; refine (aS _ _ (by assumption)).mono ?_; rintro e w' ⟨rfl,rfl⟩);rw [← hW1]
   case' false =>
    cases hm:aP allow[k].s;case false =>
     have HN:Hid (DZ allow allow.length=false):=oL allow k hlt (by simp [Fz,hn,ul,he,hm]) _ hlt;go_wp2_with (go_at_call 111; refine (aS _ _ (by assumption)).mono ?_; rintro e w' ⟨rfl,rfl⟩);go_ret;exact ⟨ah (by simp [ax,eu,HN.out]),HB0.out.trans ((hB.trans ((TT _ _).alloc hB.size _)).mono HB0.out.size)⟩
    have HAl:Hid (Fz allow[k]=true):=by show _=_; simp [Fz,ul,hn,he,hm]
    go_wp2_with (go_at_call 111; refine (aS _ _ (by assumption)).mono ?_; rintro e w' ⟨rfl,rfl⟩);rw [← hW1]
   all_goals
    go_loopw [6] (fun i w2=>∃ j:Nat,j≤k∧i=.int .i64 j∧Hid (dF allow j allow[k]=false)∧ag W1 w2) (fun i _=>k - (intOf i).toNat);case atStart=>exact ⟨0,TW _,rfl,sO _ _,TT _ _⟩
    obtain ⟨j,hj,rfl,HP,hB2⟩:=hrel;rename_i w2 _;have d1:=kept hB2 (by omega) c1;have d2:=kept hB2 (by omega) c2;have d3:=kept hB2 (by omega) c3;have p0:=kept hB2 hgl g0;have p1:=kept hB2 hgl g1;by_cases hjk:j < k
    ·obtain ⟨q0,q1⟩:=(HR1.out j (by omega)).same fun o=>hB2.cell (p:=⟨b,o,none⟩) hbl;have hj1:=bB j;have hj2:(j:Int) < (allow.length:Int):=by omega
     cases hq:jQ allow[j] allow[k];case true=>
      have HE:=D9 allow[j] allow[k] hq;have HN:Hid (DZ allow allow.length=false):=oL allow k hlt (by rw [(Cn hjk (by omega) hq)]; simp) _ hlt;go_wp2_with fail;go_quiet (fail);go_wp2;go_ret;exact ⟨ah (by simp [ax,eu,HN.out]),HB0.out.trans ((hB.trans (hBW1.trans (hB2.mono (by omega)))).mono HB0.out.size |> fun h=>below_drewN h _)⟩
     have HE:=D9 allow[j] allow[k] hq;have UI:Hid (dF allow (j + 1) allow[k]=false):=by show _=_; rw [sN _ _ _ (by omega),HP.out,hq]; rfl
     go_wp2_with fail;go_quiet (fail);go_wp2;go_roundw;case rel=>exact ⟨j + 1,by omega,by go_num,UI,below_drewN hB2 _⟩
     simp [intOf]; omega
    obtain rfl:j=k:=by omega
    have YB:Hid (DZ allow (j + 1)=true):=by show _=_; rw [yU _ _ hlt,HU.out,HAl.out,HP.out]; rfl
    go_wp2;go_roundw;case rel=>exact ⟨j + 1,by omega,by go_num,YB,hB.trans (hBW1.trans (hB2.mono (by omega)))⟩
    simp [intOf]; omega
  obtain rfl:k=allow.length:=by omega
  have ZN:Hid (eu allow=true):=by show _=_; simp [eu,hl1,hl2,HU.out]
  go_wp2
  all_goals go_ret
  all_goals exact ⟨ah (by first | (simp [ax,ZN.out, *]; done) | (simp [ax,ZN.out, *]; rw [Bool.eq_iff_iff]; simp; done)),HB0.out.trans (hB.mono HB0.out.size)⟩
 go_enter func189,ntmps189;go_wp2_with fail
 all_goals go_ret
 all_goals exact ⟨ah (by simp [ax,eu]; omega),(TT w.heap.size w).alloc (TS _) _⟩
theorem Ea (r:ER) (w:af) (hf:r.e.fits) (hok:r.ok w) :
  Calls prog 189 #[r.val] w fun e w'=>e=.returned (.bool (ax r.e))∧ag w w':=by
 by_cases h:r.e.kind=1
 ·exact BD r w hf hok h
 exact l5 r w hf h
theorem Onl.at_new {R:Nat} {v:Value} {w w':af} (h:Onl R v w w') {X:Nat} (hX:w.heap.size≤X) (o:Nat) (u:Value):Onl R v w (w'.setCell ⟨X,o,none⟩ u) :=
 ⟨h.os,h.tape,h.output,by simpa using h.size,fun k hk h1 h2=>(Below.heap_setCell w' _ _ k (by show k ≠ X; omega)).trans (h.block k hk h1 h2)⟩
theorem RdC.other {w:af} {R:Nat} {s:ByteArray} {p:Nat} {bad:Bool} {v:Value} (h:RdC w R s p bad v) {X:Nat} (hX:X ≠ R) (o:Nat) (u:Value):RdC (w.setCell ⟨X,o,none⟩ u) R s p bad v :=
 ⟨by simpa using h.lt,by rw [Ul (w:=w) (Below.heap_setCell w _ _ R (Ne.symm hX))]; exact h.c0,by rw [Ul (w:=w) (Below.heap_setCell w _ _ R (Ne.symm hX))]; exact h.c1,by rw [Ul (w:=w) (Below.heap_setCell w _ _ R (Ne.symm hX))]; exact h.c2,by rw [Ul (w:=w) (Below.heap_setCell w _ _ R (Ne.symm hX))]; exact h.c3,fun j=>by simpa using h.fr j⟩
theorem RdC.below {w w':af} {R:Nat} {s:ByteArray} {p:Nat} {bad:Bool} {v:Value} (h:RdC w R s p bad v) (hb:ag w w'):RdC w' R s p bad v :=
 h.grown (row:=none) ⟨hb.os,hb.tape,hb.output,hb.size,fun k hk _=>hb.block k hk⟩ (by simp)
theorem ym.below {w w':af} {g:Nat} {q:ER} (h:ym w g q) (hb:ag w w'):ym w' g q :=
 h.grown (row:=none) ⟨hb.os,hb.tape,hb.output,hb.size,fun k hk _=>hb.block k hk⟩ (by simp)
def bare (k:Int) (o n:ByteArray):ER:=⟨⟨k,[],o,n,[]⟩,none,0,none,0⟩
theorem jZ (k:Int) (o n:bH) (g:Nat):¬ oJ (bare k o n) g:=by
 rintro (⟨h,-⟩ | ⟨h,-⟩) <;> exact h rfl
theorem uD (k:Int) (o n:bH) (X:Nat) (w:af):NewQ X w (bare k o n) :=
 ⟨fun h=>absurd rfl h,fun h=>absurd rfl h,⟨.inl rfl,.inl rfl⟩,fun g h=>absurd h (jZ k o n g),fun g h=>absurd (Or.inl h) (jZ k o n g),TS _⟩
theorem NA (w:af) (k:Int) (o n:bH):ym (w.alloc (.cells #[.int .i64 k,.slice none 0 0,.string o,.string n,.slice none 0 0] 39)) w.heap.size (bare k o n):=by
 refine ⟨?_,?_,?_,?_,?_,?_⟩ <;> simp [bare]
theorem NC {w:af} {X:Nat} {a0 a1 a2 a3 a4:Value} (h0:w.cell? ⟨X,0,none⟩=some a0) (h1:w.cell? ⟨X,1,none⟩=some a1) (h2:w.cell? ⟨X,2,none⟩=some a2) (h3:w.cell? ⟨X,3,none⟩=some a3) (h4:w.cell? ⟨X,4,none⟩=some a4) (hl:X < w.heap.size) (k:Int) (o n:bH) :
  ym (((((w.setCell ⟨X,0,none⟩ (.int .i64 k)).setCell ⟨X,1,none⟩ (.slice none 0 0)).setCell ⟨X,2,none⟩ (.string o)).setCell ⟨X,3,none⟩ (.string n)).setCell ⟨X,4,none⟩ (.slice none 0 0)) X (bare k o n):=by
 refine ⟨?_,?_,?_,?_,?_,by simpa using hl⟩
 ·rw [mO (by omega),mO (by omega),mO (by omega),mO (by omega)]; exact mS h0
 ·rw [mO (by omega),mO (by omega),mO (by omega)]; exact mS (by rw [mO (by omega)]; exact h1)
 ·rw [mO (by omega),mO (by omega)]; exact mS (by rw [mO (by omega),mO (by omega)]; exact h2)
 ·rw [mO (by omega)]; exact mS (by rw [mO (by omega),mO (by omega),mO (by omega)]; exact h3)
 exact mS (by rw [mO (by omega),mO (by omega),mO (by omega),mO (by omega)]; exact h4)
def VB (l:List Value) (R:Nat) (s:ByteArray) (p:Nat) (bad:Bool) (v:Value) (k:Nat) (u:Value) (w':World):Prop:=u=l.getD k undef∧(k=3→RdC w' R s p bad v)
structure GB (R:Nat) (s:ByteArray) (p:Nat) (bad:Bool) (v:Value) (X:Nat) (q:ER) (w:World) (listed:Array Bool) (w':World):Prop where
 rd:listed.getD 3 false=false→RdC w' R s p bad v
 box:ym w' X q
 onl:Onl R nI w w'
 fr:gY w' X
theorem GB.step {R:Nat} {s:ByteArray} {p:Nat} {bad:Bool} {v:Value} {X:Nat} {q:ER} {w w':af} {listed:Array Bool} (h:GB R s p bad v X q w listed w') {i:Nat} (hls:listed.size=6) (h3:i ≠ 3):GB R s p bad v X q w (listed.setIfInBounds i true) w' :=
 ⟨fun k=>h.rd (by
  by_cases hi:i < 6
  ·rw [aO _ _ _ (by omega),if_neg (Ne.symm h3)] at k; exact k
  rw [show listed.setIfInBounds i true=listed by rw [Array.setIfInBounds_eq_of_size_le (by omega)]] at k; exact k),h.box,h.onl,h.fr⟩
theorem GB.called {R:Nat} {s:ByteArray} {p:Nat} {bad:Bool} {v:Value} {X:Nat} {q:ER} {w w' w'':af} {listed:Array Bool} (h:GB R s p bad v X q w listed w') (hls:listed.size=6) (hg:w'.grownBy w'' (some R)) (hX:X ≠ R):GB R s p bad v X q w (listed.setIfInBounds 3 true) w'' :=
 ⟨fun k=>(by rw [aO _ _ _ (by omega),if_pos rfl] at k; cases k),h.box.grown hg (by intro e; injection e with e; exact hX e),h.onl.trans0 (Onl.of_grown hg),df h.fr (hg.block X h.box.2.2.2.2.2 (by intro e; injection e with e; exact hX e))⟩
theorem ND {s:ByteArray} {st:RS} (h:mG s oO (st.p + aj s st.p) st.bad=false):eZ s st=⟨2,[],⟨#[]⟩,av s st.p,[]⟩∧aI s st=⟨st.p + aj s st.p,st.bad,st.out⟩:=by
 have e:kZ s oO (bz s st)=false:=h;exact ⟨by unfold eZ; rw [e]; rfl,by unfold aI; rw [e]; rfl⟩
theorem KX {s:ByteArray} {st:RS} (h:mG s oO (st.p + aj s st.p) st.bad=true):eZ s st=⟨3,[],av s st.p,av s (st.p + aj s st.p + 2),[]⟩∧aI s st=⟨st.p + aj s st.p + 2 + aj s (st.p + aj s st.p + 2),st.bad,st.out⟩:=by
 have e:kZ s oO (bz s st)=true:=h;exact ⟨by unfold eZ; rw [e]; rfl,by unfold aI; rw [e]; rfl⟩
theorem KY (R:Nat) (s:bH) (st:RS) (base:Nat) (v:Value) (qs:List ER) (w:af) (h:RdF w R s st base v qs) (hR:R < base) (hB:base≤w.heap.size) (hs:s.size≤1000) (hp:st.p≤s.size) (hn:qs.length≤100000)
  (h0:mG s fT st.p st.bad=false) (h1:mG s jA st.p st.bad=false) :
  Calls prog 234 #[.pointer (some ⟨R,0,none⟩)] w (uC R s base v qs w ((st.out.length:Int),rV (eZ s st) (judged (eZ s st) (aI s st)))):=by
 have H:=ai h;have HP:=ai hp;clear h hp;go_enter func234,ntmps234;go_wp2_with fail;refine (jS R s fT st.p st.bad v w H.out.rd hs HP.out (by decide)).mono ?_;rintro e w1 ⟨rfl,hr1,hg1⟩;have Vz:=ai (H.out.is_no hR h0 hr1 hg1);have UV:=ai (Onl.of_grown hg1);rw [h0];clear hr1 hg1 h0;go_wp2_with fail;refine (jS R s jA st.p st.bad v w1 Vz.out.rd hs HP.out (by decide)).mono ?_;rintro e w2 ⟨rfl,hr2,hg2⟩;have VK:=ai (Vz.out.is_no hR h1 hr2 hg2);have UB:=ai (UV.out.trans0 (Onl.of_grown hg2));rw [h1];clear hr2 hg2 h1 Vz UV;go_wp2_with fail;refine (uA R s st.p st.bad v w2 VK.out.rd hs HP.out).mono ?_;rintro e w3 ⟨rfl,hr3,hg3⟩;have Ze:=ai (VK.out.over hR (Onl.of_grown hg3) hr3);have UY:=ai (UB.out.trans0 (Onl.of_grown hg3));have HP3:=ai (kr s st.p HP.out);have Xt:=ai (zb s st.p HP.out);clear hr3 hg3 VK UB;obtain ⟨W4,VX⟩:∃ W4,W4=w3.alloc (.cells #[.int .i64 2,.slice none 0 0,.string ⟨#[]⟩,.string (av s st.p),.slice none 0 0] 39):=⟨_,rfl⟩;have HV4:Hid (ym W4 w3.heap.size (bare 2 ⟨#[]⟩ (av s st.p))):=by rw [VX]; exact NA w3 2 ⟨#[]⟩ (av s st.p)
 have HO4a:Hid (Onl R nI w3 W4):=by rw [VX]; exact Onl.of_below ((TT _ _).alloc (TS _) _)
 have Wv:Hid (RdF W4 R s ⟨st.p + aj s st.p,st.bad,st.out⟩ base v qs):=Ze.out.over hR HO4a.out (by rw [VX]; exact Ze.out.rd.below ((TT _ _).alloc (TS _) _));have UT:=ai (UY.out.trans0 HO4a.out);have Z9:Hid (gY W4 w3.heap.size):=fun y=>by rw [VX]; simp
 have YC:Hid (w3.heap.size ≠ R):=by have:=Ze.out.rd.lt; show _ ≠ _; omega
 have HX0:Hid (w.heap.size≤w3.heap.size):=UY.out.size;have HX3:Hid (w3.heap.size≤w3.heap.size):=TS _;go_wp2_with fail;rw [← VX];clear VX;obtain ⟨X,hX⟩:∃ X,X=w3.heap.size:=⟨_,rfl⟩;rw [← hX] at HV4 Z9 YC HX0;replace HX3:Hid (w3.heap.size≤X):=Nat.le_of_eq hX.symm;rw [← hX];clear hX;refine (jS R s oO (st.p + aj s st.p) st.bad v W4 Wv.out.rd hs HP3.out (by decide)).mono ?_;rintro e w5 ⟨rfl,Y3,hg5⟩;have HV5:=ai (HV4.out.grown hg5 (by intro e; injection e with e; exact YC.out e));have HFR5:=ai (df Z9.out (hg5.block X HV4.out.2.2.2.2.2 (by intro e; injection e with e; exact YC.out e)));have UK:=ai (UT.out.trans0 (Onl.of_grown hg5));have YD:=ai (HO4a.out.trans0 (Onl.of_grown hg5));cases hc:mG s oO (st.p + aj s st.p) st.bad;case false=>
  have ZO:=ai (Wv.out.is_no hR hc Y3 hg5);have EQ:=ai (ND hc);clear Y3 hg5 hc Wv UT HV4 Z9;obtain ⟨x0,x1,x2,x3,x4,xl⟩:=HV5.out;replace x0:w5.cell? ⟨X,0,none⟩=some (.int .i64 2):=x0;replace x1:w5.cell? ⟨X,1,none⟩=some (.slice none 0 0):=x1;replace x2:w5.cell? ⟨X,2,none⟩=some (.string ⟨#[]⟩):=x2;replace x3:w5.cell? ⟨X,3,none⟩=some (.string (av s st.p)):=x3;replace x4:w5.cell? ⟨X,4,none⟩=some (.slice none 0 0):=x4;go_wp2_with fail;refine (l5 (bare 2 ⟨#[]⟩ (av s st.p)) w5 ⟨fun a ha=>(by cases ha),TW _,by show (av s st.p).size≤maxLen; rw [Xt.out]; have:=HP3.out; unfold maxLen; omega,TW _,TW _⟩ (by show (2:Int) ≠ 1; decide)).mono ?_;rintro e w6 ⟨rfl,XY⟩;have Vj:=ai (UK.out.trans0 (Onl.of_below XY));have Xu:=ai (ZO.out.over hR (Onl.of_below XY) (ZO.out.rd.below XY));obtain ⟨y0,y1,y2,y3,y4,yl⟩:=HV5.out.below XY;replace y0:w6.cell? ⟨X,0,none⟩=some (.int .i64 2):=y0;replace y1:w6.cell? ⟨X,1,none⟩=some (.slice none 0 0):=y1;replace y2:w6.cell? ⟨X,2,none⟩=some (.string ⟨#[]⟩):=y2;replace y3:w6.cell? ⟨X,3,none⟩=some (.string (av s st.p)):=y3;replace y4:w6.cell? ⟨X,4,none⟩=some (.slice none 0 0):=y4;clear x0 x1 x2 x3 x4 xl XY HV5 ZO UK;cases hb:ax (bare 2 ⟨#[]⟩ (av s st.p)).e;case true=>
   have HE:Hid (eZ s st=(bare 2 ⟨#[]⟩ (av s st.p)).e∧judged (eZ s st) (aI s st)=(⟨st.p + aj s st.p,st.bad,st.out⟩:RS)):=by
    refine ⟨EQ.out.1,?_⟩;rw [EQ.out.1,EQ.out.2];exact if_pos hb
   clear hb;go_wp2_with fail;refine (Ie R s ((⟨st.p + aj s st.p,st.bad,st.out⟩:RS)) base v qs (bare 2 ⟨#[]⟩ (av s st.p)) w6 Xu.out hR (TZ hB Vj.out.size) hn (uD _ _ _ _ _) (.inl ⟨rfl,rfl,rfl⟩) (fun g hg=>absurd hg (jZ _ _ _ g))).mono ?_;rintro e w7 ⟨v7,rfl,hF7,Y4⟩;have HF7:=ai hF7;have HW7:=ai ((Vj.out.any v).trans Y4);clear hF7 Y4;go_wp2;exact bodyPost_ret (v:=.int .i64 (st.out.length:Int)) (by simp [results,Tryz.results234,go_sem]) rfl (by rw [HE.out.1,← HE.out.1,HE.out.2,HE.out.1]; exact ⟨v7,[bare 2 ⟨#[]⟩ (av s st.p)],rfl,HF7.out,HW7.out,fun q hq g hg=>by rw [Ua] at hq; subst hq; exact absurd hg (jZ _ _ _ g)⟩)
  have HE:Hid (eZ s st=(bare 2 ⟨#[]⟩ (av s st.p)).e∧judged (eZ s st) (aI s st)=uz ((⟨st.p + aj s st.p,st.bad,st.out⟩:RS))):=by
   refine ⟨EQ.out.1,?_⟩;rw [EQ.out.1,EQ.out.2];exact if_neg (fun e=>by have:=e.symm.trans hb; cases this)
  clear hb;have c2:=Xu.out.rd.c2;have f2:=Xu.out.rd.fr 2;have hl:=Xu.out.rd.lt;have hxr:=YC.out;have hrx:=Ne.symm YC.out;have WM:Hid (Onl R nI w (w6.setCell ⟨R,2,none⟩ (.bool true))):=Vj.out.at_own _ _;have HF7:Hid (RdF (w6.setCell ⟨R,2,none⟩ (.bool true)) R s (uz ((⟨st.p + aj s st.p,st.bad,st.out⟩:RS))) base v qs):=Xu.out.over hR ((Onl.refl R nI w6).at_own _ _) Xu.out.rd.hurt;go_wp2_with fail;refine (Ie R s (uz ((⟨st.p + aj s st.p,st.bad,st.out⟩:RS))) base v qs (bare 2 ⟨#[]⟩ (av s st.p)) _ HF7.out hR (TZ hB WM.out.size) hn (uD _ _ _ _ _) (.inl ⟨rfl,rfl,rfl⟩) (fun g hg=>absurd hg (jZ _ _ _ g))).mono ?_;rintro e w8 ⟨v8,rfl,hF8,Wu⟩;have HF8:=ai hF8;have HW8:=ai ((WM.out.any v).trans Wu);clear hF8 Wu;go_wp2;exact bodyPost_ret (v:=.int .i64 (st.out.length:Int)) (by simp [results,Tryz.results234,go_sem,uz]) rfl (by rw [HE.out.1,← HE.out.1,HE.out.2,HE.out.1]; exact ⟨v8,[bare 2 ⟨#[]⟩ (av s st.p)],rfl,HF8.out,HW8.out,fun q hq g hg=>by rw [Ua] at hq; subst hq; exact absurd hg (jZ _ _ _ g)⟩)
 have ZO:=ai (Wv.out.is_yes hR hc Y3 hg5);have EQ:=ai (KX hc);have HP5:Hid (st.p + aj s st.p + 2≤s.size):=wh hc;clear Y3 hg5 hc Wv UT HV4 Z9;go_wp2_with fail;refine lZ 5 (fun _=>undef) (fun f=>{ tmps:=List.toArray (Value.pointer (some ⟨R,0,none⟩)::undef::.int .i64 0::undef::undef::undef::.pointer (some ⟨X,0,none⟩)::.pointer (some ⟨R,0,none⟩)::.bool false::undef::undef::undef::undef::undef::undef::undef::undef::undef::undef::undef::undef::undef::undef::undef::undef::undef::undef::undef::undef::undef::undef::undef::undef::undef::undef::undef::undef::undef::undef::undef::.pointer (some ⟨R,0,none⟩)::.bool false::undef::undef::undef::undef::undef::undef::undef::undef::undef::.pointer (some ⟨R,0,none⟩)::.string (av s st.p)::.agg #[.int .i64 2,.slice none 0 0,.string ⟨#[]⟩,.string (av s st.p),.slice none 0 0]::.pointer (some ⟨R,0,none⟩)::.bool true::f 0::f 1::f 2::f 3::f 4::undef::undef::undef::undef::undef::undef::undef::undef::undef::[]),defers:=[] }) (VB (Value.pointer (some ⟨X,3,none⟩)::.string (av s st.p)::.pointer (some ⟨R,0,none⟩)::.string (av s (st.p + aj s st.p + 2))::.agg #[.int .i64 3,.slice none 0 0,.string (av s st.p),.string (av s (st.p + aj s st.p + 2)),.slice none 0 0]::[]) R s ((st.p + aj s st.p + 2) + aj s (st.p + aj s st.p + 2)) st.bad v) (GB R s (st.p + aj s st.p + 2) st.bad v X (bare 2 ⟨#[]⟩ (av s st.p)) w3) (by kernel_rfl) rfl (by decide +kernel) (by decide +kernel) rfl ⟨fun _=>ZO.out.rd.drewN 1,HV5.out,⟨YD.out.os,YD.out.tape,YD.out.output,YD.out.size,YD.out.block⟩,HFR5.out⟩ ?xY ?finB;case xY =>
  rintro i hi o ho listed f w' hls Vn hG hpre;have HG:=ai hG;have HM:Hid (∀ e ∈ o.after,Region.binds .any e=true→_):=hpre;clear hG hpre;have hc:i=0 ∨ i=1 ∨ i=2 ∨ i=3 ∨ i=4:=by omega
  clear hi
  repeat' rcases hc with rfl | hc
  ·cases ho;have HS:=ai (HG.out.step (i:=0) hls (by decide));refine aa rfl fun K HK=>?_;clear HM;dsimp only;go_simp;exact HK.out _ _ ⟨Value.pointer (some ⟨X,3,none⟩),by simp [upd],HS.out,⟨rfl,fun e=>absurd e (by decide)⟩,fun k u _ hu=>hu⟩
  ·cases ho;have e0:f 0=Value.pointer (some ⟨X,3,none⟩):=(HM.out ⟨0,.data⟩ (by simp) rfl).1;have x3:w'.cell? ⟨X,3,none⟩=some (.string (av s st.p)):=HG.out.box.2.2.2.1;have HS:=ai (HG.out.step (i:=1) hls (by decide));refine aa rfl fun K HK=>?_;clear HM;simp only [e0];go_simp;exact HK.out _ _ ⟨Value.string (av s st.p),by simp [upd,e0],HS.out,⟨rfl,fun e=>absurd e (by decide)⟩,fun k u _ hu=>hu⟩
  ·cases ho;have HS:=ai (HG.out.step (i:=2) hls (by decide));refine aa rfl fun K HK=>?_;clear HM;dsimp only;go_simp;exact HK.out _ _ ⟨Value.pointer (some ⟨R,0,none⟩),by simp [upd],HS.out,⟨rfl,fun e=>absurd e (by decide)⟩,fun k u _ hu=>hu⟩
  ·cases ho;have e2:f 2=Value.pointer (some ⟨R,0,none⟩):=(HM.out ⟨2,.data⟩ (by simp) rfl).1;have hrd:=ai (HG.out.rd (Ic Vn hls (by omega)));refine aa rfl fun K HK=>?_;clear HM;simp only [e2];go_simp;refine (uA R s (st.p + aj s st.p + 2) st.bad v w' hrd.out hs HP5.out).mono ?_;rintro e w7 ⟨rfl,hr7,WN⟩;have HS:=ai (HG.out.called hls WN YC.out);have HR7:=ai hr7;clear hr7 WN;go_wp2_with fail;exact HK.out _ _ ⟨Value.string (av s (st.p + aj s st.p + 2)),by simp [upd,e2],HS.out,⟨rfl,fun _=>HR7.out⟩,fun k u hk hu=>⟨hu.1,fun e=>absurd e hk⟩⟩
  cases ho;have e1:f 1=Value.string (av s st.p):=(HM.out ⟨1,.data⟩ (by simp) rfl).1;have e3:f 3=Value.string (av s (st.p + aj s st.p + 2)):=(HM.out ⟨3,.data⟩ (by simp) rfl).1;have HS:=ai (HG.out.step (i:=4) hls (by decide));refine aa rfl fun K HK=>?_;clear HM;simp only [e1,e3];go_simp;exact HK.out _ _ ⟨Value.agg #[.int .i64 3,.slice none 0 0,.string (av s st.p),.string (av s (st.p + aj s st.p + 2)),.slice none 0 0],by simp [upd,e1,e3],HS.out,⟨rfl,fun e=>absurd e (by decide)⟩,fun k u _ hu=>hu⟩
 case finB =>
  rintro o ho listed f w' hG hall;obtain rfl:=Option.some.inj ho;have e4:f 4=Value.agg #[.int .i64 3,.slice none 0 0,.string (av s st.p),.string (av s (st.p + aj s st.p + 2)),.slice none 0 0]:=(hall 4 (by omega)).1;have Zc:=ai ((hall 3 (by omega)).2 rfl);have HG:=ai hG;obtain ⟨x0,x1,x2,x3,x4,xl⟩:=hG.box;have f0:=hG.fr 0;have f1:=hG.fr 1;have f2:=hG.fr 2;have f3:=hG.fr 3;have f4:=hG.fr 4;clear ho hall hG;refine wpOp_step rfl (fun K hK=>?_);have HK:Hid (∀ a w,_→K a w):=hK;clear hK;simp only [e4];go_simp;refine HK.out _ _ ?_;clear HK;obtain ⟨wz,hwz⟩:∃ wz,wz=(((((w'.setCell ⟨X,0,none⟩ (.int .i64 3)).setCell ⟨X,1,none⟩ (.slice none 0 0)).setCell ⟨X,2,none⟩ (.string (av s st.p))).setCell ⟨X,3,none⟩ (.string (av s (st.p + aj s st.p + 2)))).setCell ⟨X,4,none⟩ (.slice none 0 0)):=⟨_,rfl⟩;have HO3z:Hid (Onl R nI w3 wz):=by rw [hwz]; exact ((((HG.out.onl.at_new HX3.out _ _).at_new HX3.out _ _).at_new HX3.out _ _).at_new HX3.out _ _).at_new HX3.out _ _
  have HRz:Hid (RdC wz R s (st.p + aj s st.p + 2 + aj s (st.p + aj s st.p + 2)) st.bad v):=by rw [hwz]; exact ((((Zc.out.other YC.out _ _).other YC.out _ _).other YC.out _ _).other YC.out _ _).other YC.out _ _
  have HVz:Hid (ym wz X (bare 3 (av s st.p) (av s (st.p + aj s st.p + 2)))):=by rw [hwz]; exact NC x0 x1 x2 x3 x4 xl _ _ _
  clear HV5 ZO UK YD HFR5;have ZO:=ai (Ze.out.over hR HO3z.out HRz.out);have UK:=ai (UY.out.trans0 HO3z.out);rw [← hwz];clear hwz x0 x1 x2 x3 x4 xl f0 f1 f2 f3 f4 e4 HRz HO3z HG Zc;obtain ⟨x0,x1,x2,x3,x4,xl⟩:=HVz.out;replace x0:wz.cell? ⟨X,0,none⟩=some (.int .i64 3):=x0;replace x1:wz.cell? ⟨X,1,none⟩=some (.slice none 0 0):=x1;replace x2:wz.cell? ⟨X,2,none⟩=some (.string (av s st.p)):=x2;replace x3:wz.cell? ⟨X,3,none⟩=some (.string (av s (st.p + aj s st.p + 2))):=x3;replace x4:wz.cell? ⟨X,4,none⟩=some (.slice none 0 0):=x4;go_wp2_with fail;refine (l5 (bare 3 (av s st.p) (av s (st.p + aj s st.p + 2))) wz ⟨fun a ha=>(by cases ha),by show (av s st.p).size≤maxLen; rw [Xt.out]; have:=HP3.out; unfold maxLen; omega,by show (av s (st.p + aj s st.p + 2)).size≤maxLen; rw [zb s _ HP5.out]; have:=kr s _ HP5.out; unfold maxLen; omega,TW _,TW _⟩ (by show (3:Int) ≠ 1; decide)).mono ?_;rintro e w6 ⟨rfl,XY⟩;have Vj:=ai (UK.out.trans0 (Onl.of_below XY));have Xu:=ai (ZO.out.over hR (Onl.of_below XY) (ZO.out.rd.below XY));obtain ⟨y0,y1,y2,y3,y4,yl⟩:=HVz.out.below XY;replace y0:w6.cell? ⟨X,0,none⟩=some (.int .i64 3):=y0;replace y1:w6.cell? ⟨X,1,none⟩=some (.slice none 0 0):=y1;replace y2:w6.cell? ⟨X,2,none⟩=some (.string (av s st.p)):=y2;replace y3:w6.cell? ⟨X,3,none⟩=some (.string (av s (st.p + aj s st.p + 2))):=y3;replace y4:w6.cell? ⟨X,4,none⟩=some (.slice none 0 0):=y4;clear x0 x1 x2 x3 x4 xl XY HVz ZO UK;cases hb:ax (bare 3 (av s st.p) (av s (st.p + aj s st.p + 2))).e;case true=>
   have HE:Hid (eZ s st=(bare 3 (av s st.p) (av s (st.p + aj s st.p + 2))).e∧judged (eZ s st) (aI s st)=(⟨st.p + aj s st.p + 2 + aj s (st.p + aj s st.p + 2),st.bad,st.out⟩:RS)):=by
    refine ⟨EQ.out.1,?_⟩;rw [EQ.out.1,EQ.out.2];exact if_pos hb
   clear hb;go_wp2_with fail;refine (Ie R s ((⟨st.p + aj s st.p + 2 + aj s (st.p + aj s st.p + 2),st.bad,st.out⟩:RS)) base v qs (bare 3 (av s st.p) (av s (st.p + aj s st.p + 2))) w6 Xu.out hR (TZ hB Vj.out.size) hn (uD _ _ _ _ _) (.inl ⟨rfl,rfl,rfl⟩) (fun g hg=>absurd hg (jZ _ _ _ g))).mono ?_;rintro e w7 ⟨v7,rfl,hF7,Y4⟩;have HF7:=ai hF7;have HW7:=ai ((Vj.out.any v).trans Y4);clear hF7 Y4;go_wp2;exact bodyPost_ret (v:=.int .i64 (st.out.length:Int)) (by simp [results,Tryz.results234,go_sem]) rfl (by rw [HE.out.1,← HE.out.1,HE.out.2,HE.out.1]; exact ⟨v7,[bare 3 (av s st.p) (av s (st.p + aj s st.p + 2))],rfl,HF7.out,HW7.out,fun q hq g hg=>by rw [Ua] at hq; subst hq; exact absurd hg (jZ _ _ _ g)⟩)
  have HE:Hid (eZ s st=(bare 3 (av s st.p) (av s (st.p + aj s st.p + 2))).e∧judged (eZ s st) (aI s st)=uz ((⟨st.p + aj s st.p + 2 + aj s (st.p + aj s st.p + 2),st.bad,st.out⟩:RS))):=by
   refine ⟨EQ.out.1,?_⟩;rw [EQ.out.1,EQ.out.2];exact if_neg (fun e=>by have:=e.symm.trans hb; cases this)
  clear hb;have c2:=Xu.out.rd.c2;have f2:=Xu.out.rd.fr 2;have hl:=Xu.out.rd.lt;have hxr:=YC.out;have hrx:=Ne.symm YC.out;have WM:Hid (Onl R nI w (w6.setCell ⟨R,2,none⟩ (.bool true))):=Vj.out.at_own _ _;have HF7:Hid (RdF (w6.setCell ⟨R,2,none⟩ (.bool true)) R s (uz ((⟨st.p + aj s st.p + 2 + aj s (st.p + aj s st.p + 2),st.bad,st.out⟩:RS))) base v qs):=Xu.out.over hR ((Onl.refl R nI w6).at_own _ _) Xu.out.rd.hurt;go_wp2_with fail;refine (Ie R s (uz ((⟨st.p + aj s st.p + 2 + aj s (st.p + aj s st.p + 2),st.bad,st.out⟩:RS))) base v qs (bare 3 (av s st.p) (av s (st.p + aj s st.p + 2))) _ HF7.out hR (TZ hB WM.out.size) hn (uD _ _ _ _ _) (.inl ⟨rfl,rfl,rfl⟩) (fun g hg=>absurd hg (jZ _ _ _ g))).mono ?_;rintro e w8 ⟨v8,rfl,hF8,Wu⟩;have HF8:=ai hF8;have HW8:=ai ((WM.out.any v).trans Wu);clear hF8 Wu;go_wp2;exact bodyPost_ret (v:=.int .i64 (st.out.length:Int)) (by simp [results,Tryz.results234,go_sem,uz]) rfl (by rw [HE.out.1,← HE.out.1,HE.out.2,HE.out.1]; exact ⟨v8,[bare 3 (av s st.p) (av s (st.p + aj s st.p + 2))],rfl,HF8.out,HW8.out,fun q hq g hg=>by rw [Ua] at hq; subst hq; exact absurd hg (jZ _ _ _ g)⟩)
end Go.Proofs.YtajkkeikihhejaaGreat
