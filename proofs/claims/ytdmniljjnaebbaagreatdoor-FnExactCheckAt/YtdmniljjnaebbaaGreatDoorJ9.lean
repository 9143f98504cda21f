/- The document's change of right tuples: its code and the tuples behind it, in a row of their own. -/
import Derived.Test.YtdmniljjnaebbaaGreatDoorJ6
import Derived.Test.YtdmniljjnaebbaaGreatDoorJ8
open Go.Proofs.Tryz
set_option maxHeartbeats 80000000
namespace Go.Proofs.YtdmniljjnaebbaaGreatDoor
set_option maxRecDepth 100000
set_option linter.unusedVariables false
open Go.ChangeShapes Go.WideShapes Go.ChangeAt Go.RowKit
open Pl
theorem aC {p:Prop} (h:p):Hid p:=h
def qI (fit:Tp→Bool) (ts:List Tp) (k:Int) (t:Tp):List Tp:=if bi fit ts k t=0 then dC ts k t else ts
def oD (w:World) (n:Nat) (k:Int) (t:Tp):Prop:=w.cell? ⟨n,0,none⟩=some (.int .i64 k)∧w.cell? ⟨n,1,none⟩=some (.string t.a)∧w.cell? ⟨n,2,none⟩=some (.string t.b)∧w.cell? ⟨n,3,none⟩=some (.string t.r)∧w.cell? ⟨n,4,none⟩=some (.string t.c)∧w.cell? ⟨n,5,none⟩=some (.string t.d)∧w.cell? ⟨n,6,none⟩=some (.string t.s)∧n < w.heap.size
theorem oD.below {w w':World} {n:Nat} {k:Int} {t:Tp} (h:oD w n k t) (hb:Below w.heap.size w w'):oD w' n k t:=by
 obtain ⟨h0,h1,h2,h3,h4,h5,h6,hl⟩:=h;exact ⟨(hb.cell (p:=⟨n,0,none⟩) hl).trans h0,(hb.cell (p:=⟨n,1,none⟩) hl).trans h1,(hb.cell (p:=⟨n,2,none⟩) hl).trans h2,(hb.cell (p:=⟨n,3,none⟩) hl).trans h3,(hb.cell (p:=⟨n,4,none⟩) hl).trans h4,(hb.cell (p:=⟨n,5,none⟩) hl).trans h5,(hb.cell (p:=⟨n,6,none⟩) hl).trans h6,Nat.lt_of_lt_of_le hl hb.size⟩
theorem iw {w:World} {base base':Nat} {e:TypeId} {size:Nat} {v:Value} {n:Nat} {xs:List Value} (h:w.ownsRow base e size v n xs) (hb:base'≤base):w.ownsRow base' e size v n xs:=by
 refine ⟨h.1,?_⟩;rcases h.2 with h0 | ⟨g,cap,cur,e1,h1,h2⟩
 ·exact .inl h0
 ·exact .inr ⟨g,cap,cur,e1,Nat.le_trans hb h1,h2⟩
theorem Cf {w:World} {base:Nat} {e:TypeId} {size:Nat} {v:Value} {n:Nat} {xs:List Value} (h:w.ownsRow base e size v n xs) {g:Nat} (hg:v.ownBlock=some g):∃ g c,v=.slice (some ⟨g,0,none⟩) n c:=by
 rcases h.2 with ⟨e1,h0⟩ | ⟨g,cap,cur,rfl,-⟩
 ·rw [e1] at hg; cases hg
 ·exact ⟨g,cap,rfl⟩
theorem oD.grown {w w':World} {n:Nat} {k:Int} {t:Tp} {o:Option Nat} (h:oD w n k t) (hg:w.grownBy w' o) (hne:o ≠ some n):oD w' n k t:=by
 obtain ⟨h0,h1,h2,h3,h4,h5,h6,hl⟩:=h;have hs:w'.heap[n]?=w.heap[n]?:=hg.block n hl (Ne.symm hne);exact ⟨(World.cell?_of_block (w:=w) (a:=⟨n,0,none⟩) hs).trans h0,(World.cell?_of_block (w:=w) (a:=⟨n,1,none⟩) hs).trans h1,(World.cell?_of_block (w:=w) (a:=⟨n,2,none⟩) hs).trans h2,(World.cell?_of_block (w:=w) (a:=⟨n,3,none⟩) hs).trans h3,(World.cell?_of_block (w:=w) (a:=⟨n,4,none⟩) hs).trans h4,(World.cell?_of_block (w:=w) (a:=⟨n,5,none⟩) hs).trans h5,(World.cell?_of_block (w:=w) (a:=⟨n,6,none⟩) hs).trans h6,Nat.lt_of_lt_of_le hl hg.size⟩
def ME (w:World) (fit:Tp→Bool) (ts:List Tp) (k:Int) (t:Tp) (e:Ending) (w':World):Prop :=
 ∃ g c,e=.returned (.tuple #[.slice (some ⟨g,0,none⟩) (qI fit ts k t).length c,.int .i64 (bi fit ts k t)])∧w'.ownsRow w.heap.size 42 6 (.slice (some ⟨g,0,none⟩) (qI fit ts k t).length c) (qI fit ts k t).length (aB (qI fit ts k t))∧Below w.heap.size w w'
theorem tT {w w':World} {fit:Tp→Bool} {ts:List Tp} {k:Int} {t:Tp} {g c n:Nat} {L:List Tp} {z:Int} (hz:bi fit ts k t=z) (hL:qI fit ts k t=L) (hn:n=L.length) (ho:w'.ownsRow w.heap.size 42 6 (.slice (some ⟨g,0,none⟩) L.length c) L.length (aB L)) (hb:Below w.heap.size w w'):ME w fit ts k t (.returned (.tuple #[.slice (some ⟨g,0,none⟩) n c,.int .i64 z])) w':=by
 subst hz; subst hL; subst hn;exact ⟨g,c,rfl,ho,hb⟩
theorem nX {fit:Tp→Bool} {ts:List Tp} {k:Int} {t:Tp} {z:Int} (h:bi fit ts k t=z) (hz:z ≠ 0):qI fit ts k t=ts:=by unfold qI; rw [if_neg (by rw [h]; exact hz)]
theorem wy {fit:Tp→Bool} {ts:List Tp} {k:Int} {t:Tp} (h:bi fit ts k t=0):qI fit ts k t=dC ts k t:=by unfold qI; rw [if_pos h]
theorem yu (sv:Value) (fit:Tp→Bool) (b off cap:Nat) (ts:List Tp) (k:Int) (t:Tp) (w:World) (hfit:∀ w1:World,Below w.heap.size w w1→Calls prog 76 #[sv,.agg #[.string t.a,.string t.b,.string t.r,.string t.c,.string t.d,.string t.s]] w1 fun e w'=>e=.returned (.bool (fit t))∧Below w1.heap.size w1 w') (hts:ts.length≤40) (hcap:ts.length≤cap) (hrow:eH w b off ts) (hb:b < w.heap.size) (hf:∀ x ∈ ts,x.fits) (ht:t.fits) :
  Calls prog 51 #[sv,.slice (some ⟨b,off,none⟩) ts.length cap,.agg #[.int .i64 k,.string t.a,.string t.b,.string t.r,.string t.c,.string t.d,.string t.s]] w (ME w fit ts k t):=by
 obtain ⟨iT,hiT,zT0,zT1,zT2⟩:=info_parts (P:=prog) (e:=42) (z:=.agg #[.string ⟨#[]⟩,.string ⟨#[]⟩,.string ⟨#[]⟩,.string ⟨#[]⟩,.string ⟨#[]⟩,.string ⟨#[]⟩]) (size:=6) (bytes:=96) (by kernel_rfl);have HIT:Hid (prog.info? 42=some iT∧iT.zero=some (.agg #[.string ⟨#[]⟩,.string ⟨#[]⟩,.string ⟨#[]⟩,.string ⟨#[]⟩,.string ⟨#[]⟩,.string ⟨#[]⟩])∧iT.size=6∧iT.bytes=96):=⟨hiT,zT0,zT1,zT2⟩;have HFT:=aC hfit;have HR:=aC hrow;have HF:=aC hf;have HT:=aC ht;clear hfit hrow hf ht hiT zT0 zT1 zT2;obtain ⟨W0,hW0⟩:∃ W0,W0=w.alloc (.cells #[.int .i64 k,.string t.a,.string t.b,.string t.r,.string t.c,.string t.d,.string t.s] 44):=⟨_,rfl⟩;obtain ⟨W1,hW1⟩:∃ W1,W1=W0.alloc (.cells #[] 42):=⟨_,rfl⟩;have HX0:Hid (oD W0 w.heap.size k t):=by show oD _ _ _ _; rw [hW0]; refine ⟨?_,?_,?_,?_,?_,?_,?_,?_⟩ <;> simp
 have HB0:=mq hW0;have HB01:=mq hW1;have HB1:Hid (Below w.heap.size w W1):=HB0.out.trans (HB01.out.mono HB0.out.size);have HX1:Hid (oD W1 w.heap.size k t):=HX0.out.below HB01.out;have HLIT:Hid (W1.ownsRow w.heap.size 42 6 (.slice (some ⟨w.heap.size + 1,0,none⟩) 0 0) 0 []):=by
  show World.ownsRow _ _ _ _ _ _ _;rw [hW1,← show W0.heap.size=w.heap.size + 1 by rw [hW0]; simp];exact World.ownsRow_lit W0 #[] 0 HB0.out.size (by unfold maxLen; omega) (by simp)
 have hz1:w.heap.size≤W1.heap.size:=HB1.out.size;have HR1:Hid (eH W1 b off ts):=HR.out.below HB1.out hb;go_enter func51,ntmps51;go_wp2_with (at_builtin; rw [← hW0,← hW1]; clear hW0 hW1; refine wpList_append_own_at _ rfl _ _ 38 rfl w.heap.size 42 iT (.agg #[.string ⟨#[]⟩,.string ⟨#[]⟩,.string ⟨#[]⟩,.string ⟨#[]⟩,.string ⟨#[]⟩,.string ⟨#[]⟩]) 6 96 underlying38 HIT.out.1 HIT.out.2.1 HIT.out.2.2.1 HIT.out.2.2.2 rfl (by decide) _ 0 [] rfl HLIT.out ⟨b,off,none⟩ ts.length cap (aB ts) rfl (dX ts) (iL HR1.out) (iM _) (by unfold maxLen; omega) (by omega) hz1 ?_);intro v2 w2 hown2 hgr2 _ hat2;have hsome:∃ g c,v2=.slice (some ⟨g,0,none⟩) ts.length c:=by
  rcases hat2 with e | e
  ·exact Cf hown2 (g:=w.heap.size + 1) (by rw [e]; rfl)
  ·exact Cf hown2 e
 obtain ⟨gO,cO,rfl⟩:=hsome;have HB2:Hid (Below w.heap.size w w2):=HB1.out.grown hgr2 HB1.out.size (fun g hg=>by have:=(HLIT.out.lt g hg).1; omega);have HX2:Hid (oD w2 w.heap.size k t):=HX1.out.grown hgr2 (fun e=>by simp [Value.ownBlock] at e);have HO2:=aC hown2;have HRB2:Hid (eH w2 b off ts):=HR.out.below HB2.out hb;have hbl2:b < w2.heap.size:=Nat.lt_of_lt_of_le hb HB2.out.size;clear hown2 hgr2 hat2 HB0 HB01 HB1 HX0 HX1 HLIT HR1 hz1 HR;obtain ⟨c0,c1,c2,c3,c4,c5,c6,cl⟩:=HX2.out;obtain ⟨f0,f1,f2,f3,f4,f5⟩:=HT.out;by_cases hk:k=1 ∨ k=2
 ·have hin:(decide (1≤k) && decide (k≤2))=true:=by rcases hk with rfl | rfl <;> decide
  go_wp2_with fail;refine (mG k 1 2 _).mono ?_;rintro e w' ⟨rfl,rfl⟩;rw [hin];go_wp2_with fail;refine (bu t.a t.b t.r t.c t.d t.s _ f0 f1 f2 f3 f4 f5).mono ?_;rintro e w3 ⟨rfl,hb3⟩;have HB3:=aC (HB2.out.trans (hb3.mono HB2.out.size));have HX3:=aC (HX2.out.below hb3);have HO3:=aC (aH HO2.out hb3);have HR3:=aC (HRB2.out.below hb3 hbl2);have hbl3:b < w3.heap.size:=Nat.lt_of_lt_of_le hbl2 hb3.size;clear hb3 HB2 HX2 HO2 HRB2 hbl2 c0 c1 c2 c3 c4 c5 c6 cl;have HRB3:=HR3;obtain ⟨c0,c1,c2,c3,c4,c5,c6,cl⟩:=HX3.out;cases hok:aT t.a t.b t.r t.c t.d t.s with
  | false =>
   have HC:Hid (bi fit ts k t=2):=jD (fun h=>by have h2:aT t.a t.b t.r t.c t.d t.s=true:=h.2; rw [hok] at h2; cases h2);go_wp2;exact bodyPost_ret (v:=.tuple #[.slice (some ⟨gO,0,none⟩) ts.length cO,.int .i64 2]) (by simp [results,Tryz.results51,go_sem]) rfl (tT HC.out (nX HC.out (by decide)) rfl HO3.out HB3.out)
  | true =>
   have hto:t.ok=true:=hok;rcases hk with rfl | rfl
   ·go_wp2_with fail;refine (HFT.out _ HB3.out).mono ?_;rintro e w4 ⟨rfl,hb4⟩;have HB4:=aC (HB3.out.trans (hb4.mono HB3.out.size));have HX4:=aC (HX3.out.below hb4);have HO4:=aC (aH HO3.out hb4);have HR4:=aC (HRB3.out.below hb4 hbl3);have hbl4:b < w4.heap.size:=Nat.lt_of_lt_of_le hbl3 hb4.size;clear hb4 HB3 HX3 HO3 HRB3 hbl3 c0 c1 c2 c3 c4 c5 c6 cl;have HRB4:=HR4;obtain ⟨c0,c1,c2,c3,c4,c5,c6,cl⟩:=HX4.out;cases hfi:fit t with
    | false =>
     have HC:Hid (bi fit ts 1 t=3):=by show _=_; rw [kG hto,hfi]; rfl
     go_wp2;exact bodyPost_ret (v:=.tuple #[.slice (some ⟨gO,0,none⟩) ts.length cO,.int .i64 3]) (by simp [results,Tryz.results51,go_sem]) rfl (tT HC.out (nX HC.out (by decide)) rfl HO4.out HB4.out)
    | true =>
     go_wp2_with fail;refine (yX _ _ ts t _ (by omega) (.inr ⟨b,off,rfl,hbl4,HRB4.out⟩)).mono ?_;rintro e w5 ⟨rfl,hb5⟩;have HB5:=aC (HB4.out.trans (hb5.mono HB4.out.size));have HX5:=aC (HX4.out.below hb5);have HO5:=aC (aH HO4.out hb5);have HR5:=aC (HRB4.out.below hb5 hbl4);have hbl5:b < w5.heap.size:=Nat.lt_of_lt_of_le hbl4 hb5.size;clear hb5 HB4 HX4 HO4 HRB4 hbl4 c0 c1 c2 c3 c4 c5 c6 cl;have HRB5:=HR5;obtain ⟨c0,c1,c2,c3,c4,c5,c6,cl⟩:=HX5.out;cases hha:gm ts t with
     | true =>
      have HC:Hid (bi fit ts 1 t=4):=by show _=_; rw [kG hto,hfi,hha]; rfl
      go_wp2;exact bodyPost_ret (v:=.tuple #[.slice (some ⟨gO,0,none⟩) ts.length cO,.int .i64 4]) (by simp [results,Tryz.results51,go_sem]) rfl (tT HC.out (nX HC.out (by decide)) rfl HO5.out HB5.out)
     | false =>
      by_cases h40:ts.length=40
      ·have hd:((ts.length:Int) == 40)=true:=by simp; omega
       have HC:Hid (bi fit ts 1 t=6):=by show _=_; rw [kG hto,hfi,hha,if_pos rfl,if_neg (by decide),if_pos (by omega)]
       go_wp2;exact bodyPost_ret (v:=.tuple #[.slice (some ⟨gO,0,none⟩) ts.length cO,.int .i64 6]) (by simp [results,Tryz.results51,go_sem,h40]) rfl (tT HC.out (nX HC.out (by decide)) rfl HO5.out HB5.out)
      ·have hd:((ts.length:Int) == 40)=false:=by simp; omega
       have HC:Hid (bi fit ts 1 t=0):=by show _=_; rw [kG hto,hfi,hha,if_pos rfl,if_neg (by decide),if_neg (by omega)]
       go_wp2_with fail;refine (GY b off cap ts t _ (by omega) hcap HRB5.out hbl5 HF.out HT.out).mono ?_;rintro e w6 ⟨v6,rfl,hown6,hb6⟩;obtain ⟨g6,c6',rfl⟩:∃ g c,v6=.slice (some ⟨g,0,none⟩) (jA ts t).length c:=by
        rcases hown6.2 with ⟨-,h0⟩ | ⟨g,cp,cur,e,-⟩
        ·rw [vV] at h0; omega
        ·exact ⟨g,cp,e⟩
       have HO6:=aC (iw hown6 HB5.out.size);have HB6:=aC (HB5.out.trans (hb6.mono HB5.out.size));clear hown6 hb6;go_wp2;exact bodyPost_ret (v:=.tuple #[.slice (some ⟨g6,0,none⟩) (jA ts t).length c6',.int .i64 0]) (by simp [results,Tryz.results51,go_sem]) rfl (tT HC.out (wy HC.out) rfl HO6.out HB6.out)
   ·go_wp2_with fail;refine (yX _ _ ts t _ (by omega) (.inr ⟨b,off,rfl,hbl3,HRB3.out⟩)).mono ?_;rintro e w4 ⟨rfl,hb4⟩;have HB4:=aC (HB3.out.trans (hb4.mono HB3.out.size));have HX4:=aC (HX3.out.below hb4);have HO4:=aC (aH HO3.out hb4);have HR4:=aC (HRB3.out.below hb4 hbl3);have hbl4:b < w4.heap.size:=Nat.lt_of_lt_of_le hbl3 hb4.size;clear hb4 HB3 HX3 HO3 HRB3 hbl3 c0 c1 c2 c3 c4 c5 c6 cl;have HRB4:=HR4;obtain ⟨c0,c1,c2,c3,c4,c5,c6,cl⟩:=HX4.out;cases hha:gm ts t with
    | false =>
     have HC:Hid (bi fit ts 2 t=5):=by show _=_; rw [nR hto,hha]; rfl
     go_wp2;exact bodyPost_ret (v:=.tuple #[.slice (some ⟨gO,0,none⟩) ts.length cO,.int .i64 5]) (by simp [results,Tryz.results51,go_sem]) rfl (tT HC.out (nX HC.out (by decide)) rfl HO4.out HB4.out)
    | true =>
     have HC:Hid (bi fit ts 2 t=0):=by show _=_; rw [nR hto,hha]; rfl
     go_wp2_with fail;refine (Eh _ _ ts t _ (by omega) (.inr ⟨b,off,rfl,hbl4,HRB4.out⟩)).mono ?_;rintro e w6 ⟨g6,c6',rfl,hown6,hb6⟩;have HO6:=aC (iw hown6 (Nat.le_trans HB4.out.size (Nat.le_succ _)));have HB6:=aC (HB4.out.trans (hb6.mono HB4.out.size));clear hown6 hb6;go_wp2;exact bodyPost_ret (v:=.tuple #[.slice (some ⟨g6,0,none⟩) (dB ts t).length c6',.int .i64 0]) (by simp [results,Tryz.results51,go_sem]) rfl (tT HC.out (wy HC.out) rfl HO6.out HB6.out)
 ·have hin:(decide (1≤k) && decide (k≤2))=false:=by
   rw [Bool.and_eq_false_iff,decide_eq_false_iff_not,decide_eq_false_iff_not]; omega
  have HC:Hid (bi fit ts k t=2):=jD (fun h=>hk h.1);go_wp2_with fail;refine (mG k 1 2 _).mono ?_;rintro e w' ⟨rfl,rfl⟩;rw [hin];go_wp2;exact bodyPost_ret (v:=.tuple #[.slice (some ⟨gO,0,none⟩) ts.length cO,.int .i64 2]) (by simp [results,Tryz.results51,go_sem]) rfl (tT HC.out (nX HC.out (by decide)) rfl HO2.out HB2.out)
def yw (w:World):Prop:=∀ g:Nat,2≤g→g≤6→g < w.heap.size∧∃ (T:TypeId) (u:Value),w.cell? ⟨g,0,none⟩=some (.iface T u)
theorem yw.below {w w':World} (h:yw w) (hb:Below w.heap.size w w'):yw w':=fun g h2 h6=>by
 obtain ⟨hl,T,u,e⟩:=h g h2 h6;exact ⟨Nat.lt_of_lt_of_le hl hb.size,T,u,(hb.cell (p:=⟨g,0,none⟩) hl).trans e⟩
def JA (w:World) (z:Int) (e:Ending) (w':World):Prop :=
 ((z=0∧e=.returned .nilIface) ∨ ∃ (g:Nat) (T:TypeId) (u:Value),z=g∧2≤g∧g≤6∧w.cell? ⟨g,0,none⟩=some (.iface T u)∧e=.returned (.iface T u))∧Below w.heap.size w w'
theorem El (tv:Value) (fit:Tp→Bool) (ad:Option Addr) (cap:Nat) (ts:List Tp) (k:Int) (t:Tp) (w:World) (hE:yw w)
  (hfit:∀ w1:World,t.ok=true→Below w.heap.size w w1→Calls prog 94 #[tv,.agg #[.string t.a,.string t.b,.string t.r,.string t.c,.string t.d,.string t.s]] w1 fun e w'=>e=.returned (.bool (fit t))∧Below w1.heap.size w1 w')
  (hlen:ts.length≤40) (hs:Sl w ad ts) (ht:t.fits) :
  Calls prog 108 #[tv,.slice ad ts.length cap,.agg #[.int .i64 k,.string t.a,.string t.b,.string t.r,.string t.c,.string t.d,.string t.s]] w (JA w (bi fit ts k t)):=by
 have HE:=aC hE;have HFT:=aC hfit;have HS:=aC hs;have HT:=aC ht;clear hE hfit hs ht;obtain ⟨W0,hW0⟩:∃ W0,W0=w.alloc (.cells #[.int .i64 k,.string t.a,.string t.b,.string t.r,.string t.c,.string t.d,.string t.s] 44):=⟨_,rfl⟩;have HX0:Hid (oD W0 w.heap.size k t):=by show oD _ _ _ _; rw [hW0]; refine ⟨?_,?_,?_,?_,?_,?_,?_,?_⟩ <;> simp
 have HB0:=mq hW0;go_enter func108,ntmps108;go_wp2_with fail;rw [← hW0];clear hW0;refine (yj ad cap ts t _ (by omega) (HS.out.below HB0.out)).mono ?_;rintro e w1 ⟨rfl,hb1⟩;have HB1:=aC (HB0.out.trans (hb1.mono HB0.out.size));have HX1:=aC (HX0.out.below hb1);clear hb1 HB0 HX0;have HE1:=aC (HE.out.below HB1.out);have RET0:Hid (∀ {w':World},bi fit ts k t=0→Below w.heap.size w w'→JA w (bi fit ts k t) (.returned .nilIface) w'):=fun h hb=>⟨.inl ⟨h,rfl⟩,hb⟩;have RETE:Hid (∀ (g:Nat) {wx w':World} {T:TypeId} {u:Value},bi fit ts k t=g→2≤g→g≤6→wx.cell? ⟨g,0,none⟩=some (.iface T u)→Below w.heap.size w wx→Below w.heap.size w w'→JA w (bi fit ts k t) (.returned (.iface T u)) w'):=fun g {wx w' T u} h h2 h6 hc hbx hb=>by
  obtain ⟨hl,T',u',e⟩:=HE.out g h2 h6;have e2:=(hbx.cell (p:=⟨g,0,none⟩) hl).symm.trans hc;exact ⟨.inr ⟨g,T,u,h,h2,h6,e2,rfl⟩,hb⟩
 obtain ⟨q2,T2,u2,g2⟩:=HE1.out 2 (by omega) (by omega);obtain ⟨q3,T3,u3,g3⟩:=HE1.out 3 (by omega) (by omega);obtain ⟨q4,T4,u4,g4⟩:=HE1.out 4 (by omega) (by omega);obtain ⟨q5,T5,u5,g5⟩:=HE1.out 5 (by omega) (by omega);obtain ⟨q6,T6,u6,g6⟩:=HE1.out 6 (by omega) (by omega);obtain ⟨x0,x1,x2,x3,x4,x5,x6,xl⟩:=HX1.out;by_cases hk:¬ (k=1 ∨ k=2)
 ·have hk1:¬ k=1:=fun h=>hk (.inl h);have hk2:¬ k=2:=fun h=>hk (.inr h);have HN:=aC (jD (fit:=fit) (ts:=ts) (k:=k) (t:=t) fun h=>hk h.1);have hb1':(k != 1)=true:=by simp [hk1]
  have hb2':(k != 2)=true:=by simp [hk2]
  clear hk;go_wp2;go_ret;exact RETE.out 2 HN.out (by omega) (by omega) g2 HB1.out HB1.out
 have hk':k=1 ∨ k=2:=Classical.not_not.1 hk;clear hk;obtain ⟨f0,f1,f2,f3,f4,f5⟩:=HT.out;have HTK:=aC (fun W=>bG t.a t.b t.r t.c t.d t.s W f0 f1 f2 f3 f4 f5);clear f0 f1 f2 f3 f4 f5;rcases hk' with rfl | rfl
 ·go_wp2_with fail;refine (HTK.out _).mono ?_;rintro e w2 ⟨he,hb2⟩;have HB2:=aC (HB1.out.trans (hb2.mono HB1.out.size));have HC2:Hid (∀ g o v,g < w1.heap.size→w1.cell? ⟨g,o,none⟩=some v→w2.cell? ⟨g,o,none⟩=some v):=fun g o v hg h=>(hb2.cell (p:=⟨g,o,none⟩) hg).trans h;have HX2:=aC (HX1.out.below hb2);have hz2:=hb2.size;replace g2:=HC2.out _ _ _ q2 g2;replace g3:=HC2.out _ _ _ q3 g3;replace g4:=HC2.out _ _ _ q4 g4;replace g6:=HC2.out _ _ _ q6 g6;clear hb2 x0 x1 x2 x3 x4 x5 x6 g5;obtain ⟨x0,x1,x2,x3,x4,x5,x6,xl2⟩:=HX2.out;cases hok:aT t.a t.b t.r t.c t.d t.s with
  | false =>
   rw [hok] at he; subst he;have HN:=aC (jD (fit:=fit) (ts:=ts) (k:=1) (t:=t) fun h=>by have h2:aT t.a t.b t.r t.c t.d t.s=true:=h.2; rw [hok] at h2; cases h2);clear hok;go_wp2;go_ret;exact RETE.out 2 HN.out (by omega) (by omega) g2 HB2.out HB2.out
  | true =>
   rw [hok] at he; subst he;have HOK:Hid (t.ok=true):=hok;have HCA:=aC (kG (fit:=fit) (ts:=ts) HOK.out);have HFI:=aC (HFT.out w2 HOK.out HB2.out);clear hok;go_wp2_with fail;refine HFI.out.mono ?_;rintro e w3 ⟨he,hb3⟩;have HB3:=aC (HB2.out.trans (hb3.mono HB2.out.size));replace g3:=(hb3.cell (p:=⟨3,0,none⟩) (by show 3 < _; omega)).trans g3;replace g4:=(hb3.cell (p:=⟨4,0,none⟩) (by show 4 < _; omega)).trans g4;replace g6:=(hb3.cell (p:=⟨6,0,none⟩) (by show 6 < _; omega)).trans g6;clear hb3 x0 x1 x2 x3 x4 x5 x6 g2;cases hft:fit t with
   | false =>
    rw [hft] at he; subst he;have HN:Hid (bi fit ts 1 t=3):=by show _=_; rw [HCA.out,hft]; rfl
    clear hft;go_wp2;go_ret;exact RETE.out 3 HN.out (by omega) (by omega) g3 HB3.out HB3.out
   | true =>
    rw [hft] at he; subst he;cases hh:gm ts t with
    | true =>
     have HN:Hid (bi fit ts 1 t=4):=by show _=_; rw [HCA.out,hft,hh]; rfl
     clear hft;go_wp2;go_ret;exact RETE.out 4 HN.out (by omega) (by omega) g4 HB3.out HB3.out
    | false =>
     by_cases h40:40≤ts.length
     ·have HN:Hid (bi fit ts 1 t=6):=by show _=_; rw [HCA.out,hft,hh]; simp [h40]
      have h40':(40:Int)≤(ts.length:Int):=by omega
      clear hft;go_wp2;go_ret;exact RETE.out 6 HN.out (by omega) (by omega) g6 HB3.out HB3.out
     ·have HN:Hid (bi fit ts 1 t=0):=by show _=_; rw [HCA.out,hft,hh]; simp [h40]
      have h40':decide ((40:Int)≤(ts.length:Int))=false:=by simp; omega
      clear hft;go_wp2;go_ret;exact RET0.out HN.out HB3.out
 ·go_wp2_with fail;refine (HTK.out _).mono ?_;rintro e w2 ⟨he,hb2⟩;have HB2:=aC (HB1.out.trans (hb2.mono HB1.out.size));have HC2:Hid (∀ g o v,g < w1.heap.size→w1.cell? ⟨g,o,none⟩=some v→w2.cell? ⟨g,o,none⟩=some v):=fun g o v hg h=>(hb2.cell (p:=⟨g,o,none⟩) hg).trans h;have HX2:=aC (HX1.out.below hb2);have hz2:=hb2.size;replace g2:=HC2.out _ _ _ q2 g2;replace g5:=HC2.out _ _ _ q5 g5;clear hb2 x0 x1 x2 x3 x4 x5 x6 g3 g4 g6;obtain ⟨x0,x1,x2,x3,x4,x5,x6,xl2⟩:=HX2.out;cases hok:aT t.a t.b t.r t.c t.d t.s with
  | false =>
   rw [hok] at he; subst he;have HN:=aC (jD (fit:=fit) (ts:=ts) (k:=2) (t:=t) fun h=>by have h2:aT t.a t.b t.r t.c t.d t.s=true:=h.2; rw [hok] at h2; cases h2);clear hok;go_wp2;go_ret;exact RETE.out 2 HN.out (by omega) (by omega) g2 HB2.out HB2.out
  | true =>
   rw [hok] at he; subst he;have HOK:Hid (t.ok=true):=hok;have HCD:=aC (nR (fit:=fit) (ts:=ts) HOK.out);clear hok;cases hh:gm ts t with
   | true =>
    have HN:Hid (bi fit ts 2 t=0):=by show _=_; rw [HCD.out,hh]; rfl
    go_wp2;go_ret;exact RET0.out HN.out HB2.out
   | false =>
    have HN:Hid (bi fit ts 2 t=5):=by show _=_; rw [HCD.out,hh]; rfl
    go_wp2;go_ret;exact RETE.out 5 HN.out (by omega) (by omega) g5 HB2.out HB2.out
end Go.Proofs.YtdmniljjnaebbaaGreatDoor
