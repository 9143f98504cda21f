/- The document's change of right tuples: its code and the tuples behind it, in a row of their own. -/
import Derived.Test.YteoflgocljfgeaaGreatDoorJ31
import Derived.LaidEql
import Derived.Stop.Asserts
import Derived.RowKitTokens
open Go.Proofs.Tryz
set_option maxHeartbeats 80000000
namespace Go.Proofs.YteoflgocljfgeaaGreatDoor
set_option maxRecDepth 100000
set_option linter.unusedVariables false
open Go.ChangeShapes Go.WideShapes Go.ChangeAt Go.RowKit
open Pl
theorem aC {p:Prop} (h:p):Hid p:=h
def jJ (fit:Tp→Bool) (ts:List Tp) (k:Int) (t:Tp):List Tp:=if aP fit ts k t=0 then bX ts k t else ts
def lN (w:World) (n:Nat) (k:Int) (t:Tp):Prop:=w.cell? ⟨n,0,none⟩=some (.int .i64 k)∧w.cell? ⟨n,1,none⟩=some (.string t.a)∧w.cell? ⟨n,2,none⟩=some (.string t.b)∧w.cell? ⟨n,3,none⟩=some (.string t.r)∧w.cell? ⟨n,4,none⟩=some (.string t.c)∧w.cell? ⟨n,5,none⟩=some (.string t.d)∧w.cell? ⟨n,6,none⟩=some (.string t.s)∧n < w.heap.size
theorem lN.below {w w':World} {n:Nat} {k:Int} {t:Tp} (h:lN w n k t) (hb:Below w.heap.size w w'):lN w' n k t:=by
 obtain ⟨h0,h1,h2,h3,h4,h5,h6,hl⟩:=h;exact ⟨(hb.cell (p:=⟨n,0,none⟩) hl).trans h0,(hb.cell (p:=⟨n,1,none⟩) hl).trans h1,(hb.cell (p:=⟨n,2,none⟩) hl).trans h2,(hb.cell (p:=⟨n,3,none⟩) hl).trans h3,(hb.cell (p:=⟨n,4,none⟩) hl).trans h4,(hb.cell (p:=⟨n,5,none⟩) hl).trans h5,(hb.cell (p:=⟨n,6,none⟩) hl).trans h6,Nat.lt_of_lt_of_le hl hb.size⟩
theorem eY {w:World} {base base':Nat} {e:TypeId} {size:Nat} {v:Value} {n:Nat} {xs:List Value} (h:w.ownsRow base e size v n xs) (hb:base'≤base):w.ownsRow base' e size v n xs:=by
 refine ⟨h.1,?_⟩;rcases h.2 with h0 | ⟨g,cap,cur,e1,h1,h2⟩
 ·exact .inl h0
 ·exact .inr ⟨g,cap,cur,e1,Nat.le_trans hb h1,h2⟩
theorem Cv {w:World} {base:Nat} {e:TypeId} {size:Nat} {v:Value} {n:Nat} {xs:List Value} (h:w.ownsRow base e size v n xs) {g:Nat} (hg:v.ownBlock=some g):∃ g c,v=.slice (some ⟨g,0,none⟩) n c:=by
 rcases h.2 with ⟨e1,h0⟩ | ⟨g,cap,cur,rfl,-⟩
 ·rw [e1] at hg; cases hg
 ·exact ⟨g,cap,rfl⟩
theorem lN.grown {w w':World} {n:Nat} {k:Int} {t:Tp} {o:Option Nat} (h:lN w n k t) (hg:w.grownBy w' o) (hne:o ≠ some n):lN w' n k t:=by
 obtain ⟨h0,h1,h2,h3,h4,h5,h6,hl⟩:=h;have hs:w'.heap[n]?=w.heap[n]?:=hg.block n hl (Ne.symm hne);exact ⟨(World.cell?_of_block (w:=w) (a:=⟨n,0,none⟩) hs).trans h0,(World.cell?_of_block (w:=w) (a:=⟨n,1,none⟩) hs).trans h1,(World.cell?_of_block (w:=w) (a:=⟨n,2,none⟩) hs).trans h2,(World.cell?_of_block (w:=w) (a:=⟨n,3,none⟩) hs).trans h3,(World.cell?_of_block (w:=w) (a:=⟨n,4,none⟩) hs).trans h4,(World.cell?_of_block (w:=w) (a:=⟨n,5,none⟩) hs).trans h5,(World.cell?_of_block (w:=w) (a:=⟨n,6,none⟩) hs).trans h6,Nat.lt_of_lt_of_le hl hg.size⟩
def LP (w:World) (fit:Tp→Bool) (ts:List Tp) (k:Int) (t:Tp) (e:Ending) (w':World):Prop :=
 ∃ g c,e=.returned (.tuple #[.slice (some ⟨g,0,none⟩) (jJ fit ts k t).length c,.int .i64 (aP fit ts k t)])∧w'.ownsRow w.heap.size 41 6 (.slice (some ⟨g,0,none⟩) (jJ fit ts k t).length c) (jJ fit ts k t).length (aB (jJ fit ts k t))∧Below w.heap.size w w'
theorem uI {w w':World} {fit:Tp→Bool} {ts:List Tp} {k:Int} {t:Tp} {g c n:Nat} {L:List Tp} {z:Int} (hz:aP fit ts k t=z) (hL:jJ fit ts k t=L) (hn:n=L.length) (ho:w'.ownsRow w.heap.size 41 6 (.slice (some ⟨g,0,none⟩) L.length c) L.length (aB L)) (hb:Below w.heap.size w w'):LP w fit ts k t (.returned (.tuple #[.slice (some ⟨g,0,none⟩) n c,.int .i64 z])) w':=by
 subst hz; subst hL; subst hn;exact ⟨g,c,rfl,ho,hb⟩
theorem kM {fit:Tp→Bool} {ts:List Tp} {k:Int} {t:Tp} {z:Int} (h:aP fit ts k t=z) (hz:z ≠ 0):jJ fit ts k t=ts:=by unfold jJ; rw [if_neg (by rw [h]; exact hz)]
theorem lQ {fit:Tp→Bool} {ts:List Tp} {k:Int} {t:Tp} (h:aP fit ts k t=0):jJ fit ts k t=bX ts k t:=by unfold jJ; rw [if_pos h]
theorem yH (sv:Value) (fit:Tp→Bool) (b off cap:Nat) (ts:List Tp) (k:Int) (t:Tp) (w:World) (hfit:∀ w1:World,Below w.heap.size w w1→Calls prog 47 #[sv,.agg #[.string t.a,.string t.b,.string t.r,.string t.c,.string t.d,.string t.s]] w1 fun e w'=>e=.returned (.bool (fit t))∧Below w1.heap.size w1 w') (hts:ts.length≤40) (hcap:ts.length≤cap) (hrow:dL w b off ts) (hb:b < w.heap.size) (hf:∀ x ∈ ts,x.fits) (ht:t.fits) :
  Calls prog 25 #[sv,.slice (some ⟨b,off,none⟩) ts.length cap,.agg #[.int .i64 k,.string t.a,.string t.b,.string t.r,.string t.c,.string t.d,.string t.s]] w (LP w fit ts k t):=by
 obtain ⟨iT,hiT,zT0,zT1,zT2⟩:=info_parts (P:=prog) (e:=41) (z:=.agg #[.string ⟨#[]⟩,.string ⟨#[]⟩,.string ⟨#[]⟩,.string ⟨#[]⟩,.string ⟨#[]⟩,.string ⟨#[]⟩]) (size:=6) (bytes:=96) (by kernel_rfl);have HIT:Hid (prog.info? 41=some iT∧iT.zero=some (.agg #[.string ⟨#[]⟩,.string ⟨#[]⟩,.string ⟨#[]⟩,.string ⟨#[]⟩,.string ⟨#[]⟩,.string ⟨#[]⟩])∧iT.size=6∧iT.bytes=96):=⟨hiT,zT0,zT1,zT2⟩;have HFT:=aC hfit;have HR:=aC hrow;have HF:=aC hf;have HT:=aC ht;clear hfit hrow hf ht hiT zT0 zT1 zT2;obtain ⟨W0,hW0⟩:∃ W0,W0=w.alloc (.cells #[.int .i64 k,.string t.a,.string t.b,.string t.r,.string t.c,.string t.d,.string t.s] 43):=⟨_,rfl⟩;obtain ⟨W1,hW1⟩:∃ W1,W1=W0.alloc (.cells #[] 41):=⟨_,rfl⟩;have HX0:Hid (lN W0 w.heap.size k t):=by show lN _ _ _ _; rw [hW0]; refine ⟨?_,?_,?_,?_,?_,?_,?_,?_⟩ <;> simp
 have HB0:=Be hW0;have HB01:=Be hW1;have HB1:Hid (Below w.heap.size w W1):=HB0.out.trans (HB01.out.mono HB0.out.size);have HX1:Hid (lN W1 w.heap.size k t):=HX0.out.below HB01.out;have HLIT:Hid (W1.ownsRow w.heap.size 41 6 (.slice (some ⟨w.heap.size + 1,0,none⟩) 0 0) 0 []):=by
  show World.ownsRow _ _ _ _ _ _ _;rw [hW1,← show W0.heap.size=w.heap.size + 1 by rw [hW0]; simp];exact World.ownsRow_lit W0 #[] 0 HB0.out.size (by unfold maxLen; omega) (by simp)
 have hz1:w.heap.size≤W1.heap.size:=HB1.out.size;have HR1:Hid (dL W1 b off ts):=HR.out.below HB1.out hb;go_enter func25,ntmps25;go_wp2_with (at_builtin; rw [← hW0,← hW1]; clear hW0 hW1; refine wpList_append_own_at _ rfl _ _ 33 rfl w.heap.size 41 iT (.agg #[.string ⟨#[]⟩,.string ⟨#[]⟩,.string ⟨#[]⟩,.string ⟨#[]⟩,.string ⟨#[]⟩,.string ⟨#[]⟩]) 6 96 underlying33 HIT.out.1 HIT.out.2.1 HIT.out.2.2.1 HIT.out.2.2.2 rfl (by decide) _ 0 [] rfl HLIT.out ⟨b,off,none⟩ ts.length cap (aB ts) rfl (dR ts) (iX HR1.out) (iY _) (by unfold maxLen; omega) (by omega) hz1 ?_);intro v2 w2 hown2 hgr2 _ hat2;have hsome:∃ g c,v2=.slice (some ⟨g,0,none⟩) ts.length c:=by
  rcases hat2 with e | e
  ·exact Cv hown2 (g:=w.heap.size + 1) (by rw [e]; rfl)
  ·exact Cv hown2 e
 obtain ⟨gO,cO,rfl⟩:=hsome;have HB2:Hid (Below w.heap.size w w2):=HB1.out.grown hgr2 HB1.out.size (fun g hg=>by have:=(HLIT.out.lt g hg).1; omega);have HX2:Hid (lN w2 w.heap.size k t):=HX1.out.grown hgr2 (fun e=>by simp [Value.ownBlock] at e);have HO2:=aC hown2;have HRB2:Hid (dL w2 b off ts):=HR.out.below HB2.out hb;have hbl2:b < w2.heap.size:=Nat.lt_of_lt_of_le hb HB2.out.size;clear hown2 hgr2 hat2 HB0 HB01 HB1 HX0 HX1 HLIT HR1 hz1 HR;obtain ⟨c0,c1,c2,c3,c4,c5,c6,cl⟩:=HX2.out;obtain ⟨f0,f1,f2,f3,f4,f5⟩:=HT.out;by_cases hk:k=1 ∨ k=2
 ·have hin:(decide (1≤k) && decide (k≤2))=true:=by rcases hk with rfl | rfl <;> decide
  go_wp2_with fail;refine (vV k 1 2 _).mono ?_;rintro e w' ⟨rfl,rfl⟩;rw [hin];go_wp2_with fail;refine (bz t.a t.b t.r t.c t.d t.s _ f0 f1 f2 f3 f4 f5).mono ?_;rintro e w3 ⟨rfl,hb3⟩;have HB3:=aC (HB2.out.trans (hb3.mono HB2.out.size));have HX3:=aC (HX2.out.below hb3);have HO3:=aC (bi HO2.out hb3);have HR3:=aC (HRB2.out.below hb3 hbl2);have hbl3:b < w3.heap.size:=Nat.lt_of_lt_of_le hbl2 hb3.size;clear hb3 HB2 HX2 HO2 HRB2 hbl2 c0 c1 c2 c3 c4 c5 c6 cl;have HRB3:=HR3;obtain ⟨c0,c1,c2,c3,c4,c5,c6,cl⟩:=HX3.out;cases hok:bB t.a t.b t.r t.c t.d t.s with
  | false =>
   have HC:Hid (aP fit ts k t=2):=jP (fun h=>by have h2:bB t.a t.b t.r t.c t.d t.s=true:=h.2; rw [hok] at h2; cases h2);go_wp2;exact bodyPost_ret (v:=.tuple #[.slice (some ⟨gO,0,none⟩) ts.length cO,.int .i64 2]) (by simp [results,Tryz.results25,go_sem]) rfl (uI HC.out (kM HC.out (by decide)) rfl HO3.out HB3.out)
  | true =>
   have hto:t.ok=true:=hok;rcases hk with rfl | rfl
   ·go_wp2_with fail;refine (HFT.out _ HB3.out).mono ?_;rintro e w4 ⟨rfl,hb4⟩;have HB4:=aC (HB3.out.trans (hb4.mono HB3.out.size));have HX4:=aC (HX3.out.below hb4);have HO4:=aC (bi HO3.out hb4);have HR4:=aC (HRB3.out.below hb4 hbl3);have hbl4:b < w4.heap.size:=Nat.lt_of_lt_of_le hbl3 hb4.size;clear hb4 HB3 HX3 HO3 HRB3 hbl3 c0 c1 c2 c3 c4 c5 c6 cl;have HRB4:=HR4;obtain ⟨c0,c1,c2,c3,c4,c5,c6,cl⟩:=HX4.out;cases hfi:fit t with
    | false =>
     have HC:Hid (aP fit ts 1 t=3):=by show _=_; rw [kv hto,hfi]; rfl
     go_wp2;exact bodyPost_ret (v:=.tuple #[.slice (some ⟨gO,0,none⟩) ts.length cO,.int .i64 3]) (by simp [results,Tryz.results25,go_sem]) rfl (uI HC.out (kM HC.out (by decide)) rfl HO4.out HB4.out)
    | true =>
     go_wp2_with fail;refine (sP _ _ ts t _ (by omega) (.inr ⟨b,off,rfl,hbl4,HRB4.out⟩)).mono ?_;rintro e w5 ⟨rfl,hb5⟩;have HB5:=aC (HB4.out.trans (hb5.mono HB4.out.size));have HX5:=aC (HX4.out.below hb5);have HO5:=aC (bi HO4.out hb5);have HR5:=aC (HRB4.out.below hb5 hbl4);have hbl5:b < w5.heap.size:=Nat.lt_of_lt_of_le hbl4 hb5.size;clear hb5 HB4 HX4 HO4 HRB4 hbl4 c0 c1 c2 c3 c4 c5 c6 cl;have HRB5:=HR5;obtain ⟨c0,c1,c2,c3,c4,c5,c6,cl⟩:=HX5.out;cases hha:fC ts t with
     | true =>
      have HC:Hid (aP fit ts 1 t=4):=by show _=_; rw [kv hto,hfi,hha]; rfl
      go_wp2;exact bodyPost_ret (v:=.tuple #[.slice (some ⟨gO,0,none⟩) ts.length cO,.int .i64 4]) (by simp [results,Tryz.results25,go_sem]) rfl (uI HC.out (kM HC.out (by decide)) rfl HO5.out HB5.out)
     | false =>
      by_cases h40:ts.length=40
      ·have hd:((ts.length:Int) == 40)=true:=by simp; omega
       have HC:Hid (aP fit ts 1 t=6):=by show _=_; rw [kv hto,hfi,hha,if_pos rfl,if_neg (by decide),if_pos (by omega)]
       go_wp2;exact bodyPost_ret (v:=.tuple #[.slice (some ⟨gO,0,none⟩) ts.length cO,.int .i64 6]) (by simp [results,Tryz.results25,go_sem,h40]) rfl (uI HC.out (kM HC.out (by decide)) rfl HO5.out HB5.out)
      ·have hd:((ts.length:Int) == 40)=false:=by simp; omega
       have HC:Hid (aP fit ts 1 t=0):=by show _=_; rw [kv hto,hfi,hha,if_pos rfl,if_neg (by decide),if_neg (by omega)]
       go_wp2_with fail;refine (zB b off cap ts t _ (by omega) hcap HRB5.out hbl5 HF.out HT.out).mono ?_;rintro e w6 ⟨v6,rfl,hown6,hb6⟩;obtain ⟨g6,c6',rfl⟩:∃ g c,v6=.slice (some ⟨g,0,none⟩) (eF ts t).length c:=by
        rcases hown6.2 with ⟨-,h0⟩ | ⟨g,cp,cur,e,-⟩
        ·rw [xY] at h0; omega
        ·exact ⟨g,cp,e⟩
       have HO6:=aC (eY hown6 HB5.out.size);have HB6:=aC (HB5.out.trans (hb6.mono HB5.out.size));clear hown6 hb6;go_wp2;exact bodyPost_ret (v:=.tuple #[.slice (some ⟨g6,0,none⟩) (eF ts t).length c6',.int .i64 0]) (by simp [results,Tryz.results25,go_sem]) rfl (uI HC.out (lQ HC.out) rfl HO6.out HB6.out)
   ·go_wp2_with fail;refine (sP _ _ ts t _ (by omega) (.inr ⟨b,off,rfl,hbl3,HRB3.out⟩)).mono ?_;rintro e w4 ⟨rfl,hb4⟩;have HB4:=aC (HB3.out.trans (hb4.mono HB3.out.size));have HX4:=aC (HX3.out.below hb4);have HO4:=aC (bi HO3.out hb4);have HR4:=aC (HRB3.out.below hb4 hbl3);have hbl4:b < w4.heap.size:=Nat.lt_of_lt_of_le hbl3 hb4.size;clear hb4 HB3 HX3 HO3 HRB3 hbl3 c0 c1 c2 c3 c4 c5 c6 cl;have HRB4:=HR4;obtain ⟨c0,c1,c2,c3,c4,c5,c6,cl⟩:=HX4.out;cases hha:fC ts t with
    | false =>
     have HC:Hid (aP fit ts 2 t=5):=by show _=_; rw [lK hto,hha]; rfl
     go_wp2;exact bodyPost_ret (v:=.tuple #[.slice (some ⟨gO,0,none⟩) ts.length cO,.int .i64 5]) (by simp [results,Tryz.results25,go_sem]) rfl (uI HC.out (kM HC.out (by decide)) rfl HO4.out HB4.out)
    | true =>
     have HC:Hid (aP fit ts 2 t=0):=by show _=_; rw [lK hto,hha]; rfl
     go_wp2_with fail;refine (Eu _ _ ts t _ (by omega) (.inr ⟨b,off,rfl,hbl4,HRB4.out⟩)).mono ?_;rintro e w6 ⟨g6,c6',rfl,hown6,hb6⟩;have HO6:=aC (eY hown6 (Nat.le_trans HB4.out.size (Nat.le_succ _)));have HB6:=aC (HB4.out.trans (hb6.mono HB4.out.size));clear hown6 hb6;go_wp2;exact bodyPost_ret (v:=.tuple #[.slice (some ⟨g6,0,none⟩) (bQ ts t).length c6',.int .i64 0]) (by simp [results,Tryz.results25,go_sem]) rfl (uI HC.out (lQ HC.out) rfl HO6.out HB6.out)
 ·have hin:(decide (1≤k) && decide (k≤2))=false:=by
   rw [Bool.and_eq_false_iff,decide_eq_false_iff_not,decide_eq_false_iff_not]; omega
  have HC:Hid (aP fit ts k t=2):=jP (fun h=>hk h.1);go_wp2_with fail;refine (vV k 1 2 _).mono ?_;rintro e w' ⟨rfl,rfl⟩;rw [hin];go_wp2;exact bodyPost_ret (v:=.tuple #[.slice (some ⟨gO,0,none⟩) ts.length cO,.int .i64 2]) (by simp [results,Tryz.results25,go_sem]) rfl (uI HC.out (kM HC.out (by decide)) rfl HO2.out HB2.out)
def GX (w:World):Prop:=∀ g:Nat,2≤g→g≤6→g < w.heap.size∧∃ (T:TypeId) (u:Value),w.cell? ⟨g,0,none⟩=some (.iface T u)
theorem GX.below {w w':World} (h:GX w) (hb:Below w.heap.size w w'):GX w':=fun g h2 h6=>by
 obtain ⟨hl,T,u,e⟩:=h g h2 h6;exact ⟨Nat.lt_of_lt_of_le hl hb.size,T,u,(hb.cell (p:=⟨g,0,none⟩) hl).trans e⟩
def JH (w:World) (z:Int) (e:Ending) (w':World):Prop :=
 ((z=0∧e=.returned .nilIface) ∨ ∃ (g:Nat) (T:TypeId) (u:Value),z=g∧2≤g∧g≤6∧w.cell? ⟨g,0,none⟩=some (.iface T u)∧e=.returned (.iface T u))∧Below w.heap.size w w'
theorem Ev (tv:Value) (fit:Tp→Bool) (ad:Option Addr) (cap:Nat) (ts:List Tp) (k:Int) (t:Tp) (w:World) (hE:GX w)
  (hfit:∀ w1:World,t.ok=true→Below w.heap.size w w1→Calls prog 42 #[tv,.agg #[.string t.a,.string t.b,.string t.r,.string t.c,.string t.d,.string t.s]] w1 fun e w'=>e=.returned (.bool (fit t))∧Below w1.heap.size w1 w')
  (hlen:ts.length≤40) (hs:Sl w ad ts) (ht:t.fits) :
  Calls prog 88 #[tv,.slice ad ts.length cap,.agg #[.int .i64 k,.string t.a,.string t.b,.string t.r,.string t.c,.string t.d,.string t.s]] w (JH w (aP fit ts k t)):=by
 have HE:=aC hE;have HFT:=aC hfit;have HS:=aC hs;have HT:=aC ht;clear hE hfit hs ht;obtain ⟨W0,hW0⟩:∃ W0,W0=w.alloc (.cells #[.int .i64 k,.string t.a,.string t.b,.string t.r,.string t.c,.string t.d,.string t.s] 43):=⟨_,rfl⟩;have HX0:Hid (lN W0 w.heap.size k t):=by show lN _ _ _ _; rw [hW0]; refine ⟨?_,?_,?_,?_,?_,?_,?_,?_⟩ <;> simp
 have HB0:=Be hW0;go_enter func88,ntmps88;go_wp2_with fail;rw [← hW0];clear hW0;refine (yG ad cap ts t _ (by omega) (HS.out.below HB0.out)).mono ?_;rintro e w1 ⟨rfl,hb1⟩;have HB1:=aC (HB0.out.trans (hb1.mono HB0.out.size));have HX1:=aC (HX0.out.below hb1);clear hb1 HB0 HX0;have HE1:=aC (HE.out.below HB1.out);have RET0:Hid (∀ {w':World},aP fit ts k t=0→Below w.heap.size w w'→JH w (aP fit ts k t) (.returned .nilIface) w'):=fun h hb=>⟨.inl ⟨h,rfl⟩,hb⟩;have RETE:Hid (∀ (g:Nat) {wx w':World} {T:TypeId} {u:Value},aP fit ts k t=g→2≤g→g≤6→wx.cell? ⟨g,0,none⟩=some (.iface T u)→Below w.heap.size w wx→Below w.heap.size w w'→JH w (aP fit ts k t) (.returned (.iface T u)) w'):=fun g {wx w' T u} h h2 h6 hc hbx hb=>by
  obtain ⟨hl,T',u',e⟩:=HE.out g h2 h6;have e2:=(hbx.cell (p:=⟨g,0,none⟩) hl).symm.trans hc;exact ⟨.inr ⟨g,T,u,h,h2,h6,e2,rfl⟩,hb⟩
 obtain ⟨q2,T2,u2,g2⟩:=HE1.out 2 (by omega) (by omega);obtain ⟨q3,T3,u3,g3⟩:=HE1.out 3 (by omega) (by omega);obtain ⟨q4,T4,u4,g4⟩:=HE1.out 4 (by omega) (by omega);obtain ⟨q5,T5,u5,g5⟩:=HE1.out 5 (by omega) (by omega);obtain ⟨q6,T6,u6,g6⟩:=HE1.out 6 (by omega) (by omega);obtain ⟨x0,x1,x2,x3,x4,x5,x6,xl⟩:=HX1.out;by_cases hk:¬ (k=1 ∨ k=2)
 ·have hk1:¬ k=1:=fun h=>hk (.inl h);have hk2:¬ k=2:=fun h=>hk (.inr h);have HN:=aC (jP (fit:=fit) (ts:=ts) (k:=k) (t:=t) fun h=>hk h.1);have hb1':(k != 1)=true:=by simp [hk1]
  have hb2':(k != 2)=true:=by simp [hk2]
  clear hk;go_wp2;go_ret;exact RETE.out 2 HN.out (by omega) (by omega) g2 HB1.out HB1.out
 have hk':k=1 ∨ k=2:=Classical.not_not.1 hk;clear hk;obtain ⟨f0,f1,f2,f3,f4,f5⟩:=HT.out;have HTK:=aC (fun W=>bO t.a t.b t.r t.c t.d t.s W f0 f1 f2 f3 f4 f5);clear f0 f1 f2 f3 f4 f5;rcases hk' with rfl | rfl
 ·go_wp2_with fail;refine (HTK.out _).mono ?_;rintro e w2 ⟨he,hb2⟩;have HB2:=aC (HB1.out.trans (hb2.mono HB1.out.size));have HC2:Hid (∀ g o v,g < w1.heap.size→w1.cell? ⟨g,o,none⟩=some v→w2.cell? ⟨g,o,none⟩=some v):=fun g o v hg h=>(hb2.cell (p:=⟨g,o,none⟩) hg).trans h;have HX2:=aC (HX1.out.below hb2);have hz2:=hb2.size;replace g2:=HC2.out _ _ _ q2 g2;replace g3:=HC2.out _ _ _ q3 g3;replace g4:=HC2.out _ _ _ q4 g4;replace g6:=HC2.out _ _ _ q6 g6;clear hb2 x0 x1 x2 x3 x4 x5 x6 g5;obtain ⟨x0,x1,x2,x3,x4,x5,x6,xl2⟩:=HX2.out;cases hok:bB t.a t.b t.r t.c t.d t.s with
  | false =>
   rw [hok] at he; subst he;have HN:=aC (jP (fit:=fit) (ts:=ts) (k:=1) (t:=t) fun h=>by have h2:bB t.a t.b t.r t.c t.d t.s=true:=h.2; rw [hok] at h2; cases h2);clear hok;go_wp2;go_ret;exact RETE.out 2 HN.out (by omega) (by omega) g2 HB2.out HB2.out
  | true =>
   rw [hok] at he; subst he;have HOK:Hid (t.ok=true):=hok;have HCA:=aC (kv (fit:=fit) (ts:=ts) HOK.out);have HFI:=aC (HFT.out w2 HOK.out HB2.out);clear hok;go_wp2_with fail;refine HFI.out.mono ?_;rintro e w3 ⟨he,hb3⟩;have HB3:=aC (HB2.out.trans (hb3.mono HB2.out.size));replace g3:=(hb3.cell (p:=⟨3,0,none⟩) (by show 3 < _; omega)).trans g3;replace g4:=(hb3.cell (p:=⟨4,0,none⟩) (by show 4 < _; omega)).trans g4;replace g6:=(hb3.cell (p:=⟨6,0,none⟩) (by show 6 < _; omega)).trans g6;clear hb3 x0 x1 x2 x3 x4 x5 x6 g2;cases hft:fit t with
   | false =>
    rw [hft] at he; subst he;have HN:Hid (aP fit ts 1 t=3):=by show _=_; rw [HCA.out,hft]; rfl
    clear hft;go_wp2;go_ret;exact RETE.out 3 HN.out (by omega) (by omega) g3 HB3.out HB3.out
   | true =>
    rw [hft] at he; subst he;cases hh:fC ts t with
    | true =>
     have HN:Hid (aP fit ts 1 t=4):=by show _=_; rw [HCA.out,hft,hh]; rfl
     clear hft;go_wp2;go_ret;exact RETE.out 4 HN.out (by omega) (by omega) g4 HB3.out HB3.out
    | false =>
     by_cases h40:40≤ts.length
     ·have HN:Hid (aP fit ts 1 t=6):=by show _=_; rw [HCA.out,hft,hh]; simp [h40]
      have h40':(40:Int)≤(ts.length:Int):=by omega
      clear hft;go_wp2;go_ret;exact RETE.out 6 HN.out (by omega) (by omega) g6 HB3.out HB3.out
     ·have HN:Hid (aP fit ts 1 t=0):=by show _=_; rw [HCA.out,hft,hh]; simp [h40]
      have h40':decide ((40:Int)≤(ts.length:Int))=false:=by simp; omega
      clear hft;go_wp2;go_ret;exact RET0.out HN.out HB3.out
 ·go_wp2_with fail;refine (HTK.out _).mono ?_;rintro e w2 ⟨he,hb2⟩;have HB2:=aC (HB1.out.trans (hb2.mono HB1.out.size));have HC2:Hid (∀ g o v,g < w1.heap.size→w1.cell? ⟨g,o,none⟩=some v→w2.cell? ⟨g,o,none⟩=some v):=fun g o v hg h=>(hb2.cell (p:=⟨g,o,none⟩) hg).trans h;have HX2:=aC (HX1.out.below hb2);have hz2:=hb2.size;replace g2:=HC2.out _ _ _ q2 g2;replace g5:=HC2.out _ _ _ q5 g5;clear hb2 x0 x1 x2 x3 x4 x5 x6 g3 g4 g6;obtain ⟨x0,x1,x2,x3,x4,x5,x6,xl2⟩:=HX2.out;cases hok:bB t.a t.b t.r t.c t.d t.s with
  | false =>
   rw [hok] at he; subst he;have HN:=aC (jP (fit:=fit) (ts:=ts) (k:=2) (t:=t) fun h=>by have h2:bB t.a t.b t.r t.c t.d t.s=true:=h.2; rw [hok] at h2; cases h2);clear hok;go_wp2;go_ret;exact RETE.out 2 HN.out (by omega) (by omega) g2 HB2.out HB2.out
  | true =>
   rw [hok] at he; subst he;have HOK:Hid (t.ok=true):=hok;have HCD:=aC (lK (fit:=fit) (ts:=ts) HOK.out);clear hok;cases hh:fC ts t with
   | true =>
    have HN:Hid (aP fit ts 2 t=0):=by show _=_; rw [HCD.out,hh]; rfl
    go_wp2;go_ret;exact RET0.out HN.out HB2.out
   | false =>
    have HN:Hid (aP fit ts 2 t=5):=by show _=_; rw [HCD.out,hh]; rfl
    go_wp2;go_ret;exact RETE.out 5 HN.out (by omega) (by omega) g5 HB2.out HB2.out
open Go.Extern Go.Extern.Stop Go.Stop
theorem JI (v:Value) (w:World):(ReflectliteType.typeOf #[.iface 283 v]).run prog w=.ok (.iface 174 (.agg #[.pointer (some ⟨8,283,none⟩)])) w:=by kernel_rfl
theorem JJ:∃ g,find Tryz.f209=some g∧∀ w:World,(g #[.agg #[.pointer (some ⟨8,283,none⟩)]]).run prog w=.ok (.bool true) w :=
 ⟨(find Tryz.f209).get (by kernel_rfl),(Option.some_get _).symm,fun w=>by kernel_rfl⟩
theorem JK (v : Value) (w : World) : (Go.method 419 174 v "Comparable").run Tryz.prog w = .ok (209, v) w := by kernel_rfl
theorem MB:(prog.info? 283).map (·.comparable)=some true:=by kernel_rfl
theorem JL:(prog.info? 304).map (·.size)=some 1:=by kernel_rfl
theorem MC (v:Value) (x:TypeId) (w:World):(Instr.typeAssert (.iface 283 v) x 220 true).run prog w=.ok (.tuple #[.nilIface,.bool false]) w:=run_typeAssert_lacksB underlying220 (by kernel_rfl) (by kernel_rfl) v x w
theorem JM (v:Value) (x:TypeId) (w:World):(Instr.typeAssert (.iface 283 v) x 182 true).run prog w=.ok (.tuple #[.nilIface,.bool false]) w:=run_typeAssert_lacksB underlying182 (by kernel_rfl) (by kernel_rfl) v x w
theorem JN (v:Value) (x:TypeId) (w:World):(Instr.typeAssert (.iface 283 v) x 184 true).run prog w=.ok (.tuple #[.nilIface,.bool false]) w:=run_typeAssert_lacksB underlying184 (by kernel_rfl) (by kernel_rfl) v x w
theorem ME (v:Value) (x:TypeId) (w:World):(Instr.typeAssert (.iface 70 v) x 220 true).run prog w=.ok (.tuple #[.nilIface,.bool false]) w:=run_typeAssert_lacksB underlying220 (by kernel_rfl) (by kernel_rfl) v x w
theorem MF (v:Value) (x:TypeId) (w:World):(Instr.typeAssert (.iface 70 v) x 182 true).run prog w=.ok (.tuple #[.iface 70 v,.bool true]) w:=run_typeAssert_hasB underlying182 (by kernel_rfl) v x w
theorem JO (v : Value) (w : World) : (Go.method 419 70 v "Unwrap").run Tryz.prog w = .ok (202, v) w := by kernel_rfl
theorem tL (b:Addr) (w:World):Calls prog 61 #[.nilIface,.iface 283 (.pointer (some b))] w fun e w'=>e=.returned (.bool false)∧w'=w:=by
 have hn:=run_eql_iface_nil_left (P:=prog) w 283 (.pointer (some b)) underlying67;go_enter func61,ntmps61;go_wp2;go_ret;exact ⟨rfl,rfl⟩
theorem La (b:Addr) (w:World):Calls prog 61 #[.iface 283 (.pointer (some b)),.iface 283 (.pointer (some b))] w fun e w'=>e=.returned (.bool true)∧w'=w:=by
 obtain ⟨i,hi,hcmp⟩:=Option.map_eq_some_iff.1 MB;obtain ⟨j,hj,hjs⟩:=Option.map_eq_some_iff.1 JL;have x1:=@run_callFunc_extern prog 92 _ ReflectliteType.typeOf func92 (by kernel_rfl) (by kernel_rfl) (by kernel_rfl) (by kernel_rfl);obtain ⟨gC,hgC,x4⟩:=JJ;have x2:=@run_callFunc_extern prog 209 _ gC func209 (by kernel_rfl) (by kernel_rfl) (by kernel_rfl) hgC;have x3:=JI;have x5:=JK;have x6:=MC;have x7:=JM;have x8:=JN;have x9:=ME;have x10:=MF;have x11:=JO;have heq:=run_eql_iface_ptr_same (P:=prog) w b underlying67 underlying283 hi hcmp hj;go_enter func61,ntmps61;go_wp2;refine wp_loop_rounds 1 ?_;rw [rounds_succ];go_wp2;go_ret;exact ⟨rfl,rfl⟩
theorem jy (p:Nat) (b:Addr) (w:World) (h1:w.cell? ⟨p,0,none⟩=some (.iface 283 (.pointer (some b)))):Calls prog 61 #[.iface 70 (.pointer (some ⟨p,0,none⟩)),.iface 283 (.pointer (some b))] w fun e w'=>e=.returned (.bool true)∧w'=w:=by
 obtain ⟨i,hi,hcmp⟩:=Option.map_eq_some_iff.1 MB;obtain ⟨j,hj,hjs⟩:=Option.map_eq_some_iff.1 JL;have x1:=@run_callFunc_extern prog 92 _ ReflectliteType.typeOf func92 (by kernel_rfl) (by kernel_rfl) (by kernel_rfl) (by kernel_rfl);obtain ⟨gC,hgC,x4⟩:=JJ;have x2:=@run_callFunc_extern prog 209 _ gC func209 (by kernel_rfl) (by kernel_rfl) (by kernel_rfl) hgC;have x3:=JI;have x5:=JK;have x6:=MC;have x7:=JM;have x8:=JN;have x9:=ME;have x10:=MF;have x11:=JO;have heq:=run_eql_iface_ptr_same (P:=prog) w b underlying67 underlying283 hi hcmp hj;have hty:=run_eql_iface_types (P:=prog) 70 283 (.pointer (some ⟨p,0,none⟩)) (.pointer (some b)) underlying67 (by decide) w;go_enter func61,ntmps61;go_wp2;refine wp_loop_rounds 2 ?_;rw [rounds_succ];go_wp2;rw [rounds_succ];go_wp2;go_ret;exact ⟨rfl,rfl⟩
theorem aX (p:Nat) (a b:Addr) (ca cb:Array Value) (ta tb:TypeId) (w:World) (h1:w.cell? ⟨p,0,none⟩=some (.iface 283 (.pointer (some a)))) (hne:a ≠ b) (ha:w.heap[a.block]?=some (.cells ca ta (0,0))) (hb:w.heap[b.block]?=some (.cells cb tb (0,0))):Calls prog 61 #[.iface 70 (.pointer (some ⟨p,0,none⟩)),.iface 283 (.pointer (some b))] w fun e w'=>e=.returned (.bool false)∧w'=w:=by
 obtain ⟨i,hi,hcmp⟩:=Option.map_eq_some_iff.1 MB;obtain ⟨j,hj,hjs⟩:=Option.map_eq_some_iff.1 JL;have x1:=@run_callFunc_extern prog 92 _ ReflectliteType.typeOf func92 (by kernel_rfl) (by kernel_rfl) (by kernel_rfl) (by kernel_rfl);obtain ⟨gC,hgC,x4⟩:=JJ;have x2:=@run_callFunc_extern prog 209 _ gC func209 (by kernel_rfl) (by kernel_rfl) (by kernel_rfl) hgC;have x3:=JI;have x5:=JK;have x6:=MC;have x7:=JM;have x8:=JN;have x9:=ME;have x10:=MF;have x11:=JO;have heq:=run_eql_iface_ptr_other (P:=prog) w underlying67 underlying283 hi hcmp hj (by rw [hjs]; decide) hne ha hb;have hty:=run_eql_iface_types (P:=prog) 70 283 (.pointer (some ⟨p,0,none⟩)) (.pointer (some b)) underlying67 (by decide) w;go_enter func61,ntmps61;go_wp2;refine wp_loop_rounds 2 ?_;rw [rounds_succ];go_wp2;rw [rounds_succ];go_wp2;go_ret;exact ⟨rfl,rfl⟩
theorem MG (t:Value) (w:World):Calls prog 29 #[.nilIface,t] w fun e w'=>e=.returned (.bool false)∧w'=w:=by
 go_enter func29,ntmps29;go_wp2;go_ret;exact ⟨rfl,rfl⟩
theorem NH:∃ g,find Tryz.f57=some g∧(∀ (t:Addr) (w:World),(g #[.iface 72 (.pointer (some t))]).run prog w=.ok (.agg #[.pointer (some ⟨8,72,none⟩),.pointer (some ⟨w.heap.size,0,none⟩),.int .u64 150]) (w.alloc (.cells #[.pointer (some t)] 72)))∧∀ (e:Addr) (w:World),(g #[.iface 70 (.pointer (some e))]).run prog w=.ok (.agg #[.pointer (some ⟨8,70,none⟩),.pointer (some ⟨w.heap.size,0,none⟩),.int .u64 150]) (w.alloc (.cells #[.pointer (some e)] 70)) :=
 ⟨(find Tryz.f57).get (by kernel_rfl),(Option.some_get _).symm,fun t w=>by kernel_rfl,fun e w=>by kernel_rfl⟩
theorem Ns:∃ g,find Tryz.f58=some g∧∀ (a:Addr) (w:World),(g #[.agg #[.pointer (some ⟨8,72,none⟩),.pointer (some a),.int .u64 150]]).run prog w=.ok (.iface 174 (.agg #[.pointer (some ⟨8,72,none⟩)])) w :=
 ⟨(find Tryz.f58).get (by kernel_rfl),(Option.some_get _).symm,fun a w=>by kernel_rfl⟩
theorem LQ (h : Value) (w : World) : (Go.method 419 174 (.agg #[h]) "Kind").run Tryz.prog w = .ok (198, h) w := by kernel_rfl
theorem LU (h : Value) (w : World) : (Go.method 419 174 (.agg #[h]) "Elem").run Tryz.prog w = .ok (210, .agg #[h]) w := by kernel_rfl
theorem LV (h : Value) (w : World) : (Go.method 419 174 (.agg #[h]) "Implements").run Tryz.prog w = .ok (211, .agg #[h]) w := by kernel_rfl
theorem LW (h : Value) (w : World) : (Go.method 419 174 (.agg #[h]) "AssignableTo").run Tryz.prog w = .ok (208, .agg #[h]) w := by kernel_rfl
theorem LX:∃ g,find Tryz.f198=some g∧(∀ w:World,(g #[.pointer (some ⟨8,72,none⟩)]).run prog w=.ok (.int .u8 22) w)∧∀ w:World,(g #[.pointer (some ⟨8,70,none⟩)]).run prog w=.ok (.int .u8 22) w :=
 ⟨(find Tryz.f198).get (by kernel_rfl),(Option.some_get _).symm,fun w=>by kernel_rfl,fun w=>by kernel_rfl⟩
theorem LY:∃ g,find Tryz.f210=some g∧∀ w:World,(g #[.agg #[.pointer (some ⟨8,72,none⟩)]]).run prog w=.ok (.iface 174 (.agg #[.pointer (some ⟨8,70,none⟩)])) w :=
 ⟨(find Tryz.f210).get (by kernel_rfl),(Option.some_get _).symm,fun w=>by kernel_rfl⟩
theorem LZ:∃ g,find Tryz.f211=some g∧∀ w:World,(g #[.agg #[.pointer (some ⟨8,70,none⟩)],.iface 174 (.agg #[.pointer (some ⟨8,67,none⟩)])]).run prog w=.ok (.bool true) w :=
 ⟨(find Tryz.f211).get (by kernel_rfl),(Option.some_get _).symm,fun w=>by kernel_rfl⟩
theorem L6:∃ g,find Tryz.f208=some g∧(∀ w:World,(g #[.agg #[.pointer (some ⟨8,70,none⟩)],.iface 174 (.agg #[.pointer (some ⟨8,70,none⟩)])]).run prog w=.ok (.bool true) w)∧∀ w:World,(g #[.agg #[.pointer (some ⟨8,283,none⟩)],.iface 174 (.agg #[.pointer (some ⟨8,70,none⟩)])]).run prog w=.ok (.bool false) w :=
 ⟨(find Tryz.f208).get (by kernel_rfl),(Option.some_get _).symm,fun w=>by kernel_rfl,fun w=>by kernel_rfl⟩
theorem Nt (v:Value) (w:World):(ReflectliteType.typeOf #[.iface 70 v]).run prog w=.ok (.iface 174 (.agg #[.pointer (some ⟨8,70,none⟩)])) w:=by kernel_rfl
theorem Nu (v:Value) (x:TypeId) (w:World):(Instr.typeAssert (.iface 283 v) x 179 true).run prog w=.ok (.tuple #[.nilIface,.bool false]) w:=run_typeAssert_lacksB underlying179 (by kernel_rfl) (by kernel_rfl) v x w
theorem JP (a:Addr) (w:World):(ReflectliteValue.parts (.agg #[.pointer (some ⟨8,72,none⟩),.pointer (some a),.int .u64 150])).run prog w=.ok (some (72,a,150)) w:=by kernel_rfl
theorem MH (a:Addr) (w:World):(ReflectliteValue.parts (.agg #[.pointer (some ⟨8,70,none⟩),.pointer (some a),.int .u64 150])).run prog w=.ok (some (70,a,150)) w:=by kernel_rfl
theorem MI (a:Addr) (w:World):(ReflectliteValue.parts (.agg #[.pointer (some ⟨8,70,none⟩),.pointer (some a),.int .u64 406])).run prog w=.ok (some (70,a,406)) w:=by kernel_rfl
theorem Nv (w:World):(Rtype.elem? 72).run prog w=.ok (some 70) w:=by kernel_rfl
theorem NJ (p:Addr) (w:World):(ReflectliteValue.mk 70 p ReflectliteValue.flagAddr).run prog w=.ok (.agg #[.pointer (some ⟨8,70,none⟩),.pointer (some p),.int .u64 406]) w:=by kernel_rfl
theorem NE (w:World):(Rtype.directlyAssignable 70 70).run prog w=.ok true w:=by kernel_rfl
theorem JQ (a p : Addr) (W : World) (ha : W.cell? a = some (.pointer (some p))) : (ReflectliteValue.method (ReflectliteValue.valueError "reflectlite.Value.IsNil" 0) ReflectliteValue.isNil #[.agg #[.pointer (some ⟨8, 72, none⟩), .pointer (some a), .int .u64 150]]).run Tryz.prog W = .ok (.bool false) W := by
 change Sem.run prog (ReflectliteValue.parts (.agg #[.pointer (some ⟨8,72,none⟩),.pointer (some a),.int .u64 150]) >>= _) W=_
 rw [Sem.run_bind,JP,Result.andThen_ok];simp [ ReflectliteValue.isNil,loadVar,isAgg,underlying,underlying72,ha,Result.andThen]
theorem MJ (a p : Addr) (W : World) (ha : W.cell? a = some (.pointer (some p))) : (ReflectliteValue.method (ReflectliteValue.valueError "reflectlite.Value.Elem" 0) ReflectliteValue.elem #[.agg #[.pointer (some ⟨8, 72, none⟩), .pointer (some a), .int .u64 150]]).run Tryz.prog W = .ok (.agg #[.pointer (some ⟨8, 70, none⟩), .pointer (some p), .int .u64 406]) W := by
 change Sem.run prog (ReflectliteValue.parts (.agg #[.pointer (some ⟨8,72,none⟩),.pointer (some a),.int .u64 150]) >>= _) W=_
 rw [Sem.run_bind,JP,Result.andThen_ok];simp [ ReflectliteValue.elem,loadVar,isAgg,underlying,underlying72,ha,Result.andThen,Nv,NJ]
theorem NF (ta b e:Addr) (old:Value) (W:World) (hb:W.cell? b=some (.pointer (some e))) (ht:W.cell? ta=some old) (hf:W.frozen? ta=false) :
  (ReflectliteValue.set #[.agg #[.pointer (some ⟨8,70,none⟩),.pointer (some ta),.int .u64 406],.agg #[.pointer (some ⟨8,70,none⟩),.pointer (some b),.int .u64 150]]).run prog W=.ok (.tuple #[]) (W.setCell ta (.pointer (some e))):=by
 change Sem.run prog (ReflectliteValue.parts (.agg #[.pointer (some ⟨8,70,none⟩),.pointer (some ta),.int .u64 406]) >>= fun x=>ReflectliteValue.parts (.agg #[.pointer (some ⟨8,70,none⟩),.pointer (some b),.int .u64 150]) >>= _) W=_
 rw [Sem.run_bind,MI,Result.andThen_ok,Sem.run_bind,MH,Result.andThen_ok];simp [ ReflectliteValue.flagAddr,loadVar,isAgg,underlying,underlying70,hb,Result.andThen,NE,storeVar,Value.cells,storeCells,Addr.add];rw [run_store prog W ta _ _ (by rfl)];simp [ht,hf]
theorem MK (e t:Addr) (old:Value) (w:World) (hg:w.cell? ⟨1,0,none⟩=some (.iface 174 (.agg #[.pointer (some ⟨8,67,none⟩)]))) (ht0:w.cell? t=some old) (hf0:w.frozen? t=false) :
  Calls prog 29 #[.iface 70 (.pointer (some e)),.iface 72 (.pointer (some t))] w fun ev w'=>ev=.returned (.bool true)∧∃ W1,Below w.heap.size w W1∧w'=W1.setCell t (.pointer (some e)):=by
 obtain ⟨gV,hgV,v1,v2⟩:=NH;obtain ⟨gT,hgT,v3⟩:=Ns;obtain ⟨gK,hgK,v4,v5⟩:=LX;obtain ⟨gE,hgE,v6⟩:=LY;obtain ⟨gI,hgI,v7⟩:=LZ;obtain ⟨gA,hgA,v8,v9⟩:=L6;have y1:=@run_callFunc_extern prog 57 _ gV func57 (by kernel_rfl) (by kernel_rfl) (by kernel_rfl) hgV;have y2:=@run_callFunc_extern prog 58 _ gT func58 (by kernel_rfl) (by kernel_rfl) (by kernel_rfl) hgT;have y3:=@run_callFunc_extern prog 198 _ gK func198 (by kernel_rfl) (by kernel_rfl) (by kernel_rfl) hgK;have y4:=@run_callFunc_extern prog 210 _ gE func210 (by kernel_rfl) (by kernel_rfl) (by kernel_rfl) hgE;have y5:=@run_callFunc_extern prog 211 _ gI func211 (by kernel_rfl) (by kernel_rfl) (by kernel_rfl) hgI;have y6:=@run_callFunc_extern prog 208 _ gA func208 (by kernel_rfl) (by kernel_rfl) (by kernel_rfl) hgA;have y7 := @run_callFunc_extern Tryz.prog 59 _ (ReflectliteValue.method (ReflectliteValue.valueError "reflectlite.Value.IsNil" 0) ReflectliteValue.isNil) Tryz.func59 (by kernel_rfl) (by kernel_rfl) (by kernel_rfl) (by kernel_rfl);have y8:=@run_callFunc_extern prog 92 _ ReflectliteType.typeOf func92 (by kernel_rfl) (by kernel_rfl) (by kernel_rfl) (by kernel_rfl);have y9 := @run_callFunc_extern Tryz.prog 93 _ (ReflectliteValue.method (ReflectliteValue.valueError "reflectlite.Value.Elem" 0) ReflectliteValue.elem) Tryz.func93 (by kernel_rfl) (by kernel_rfl) (by kernel_rfl) (by kernel_rfl);have y10:=@run_callFunc_extern prog 94 _ ReflectliteValue.set func94 (by kernel_rfl) (by kernel_rfl) (by kernel_rfl) (by kernel_rfl);have z1:=LQ;have z2:=LU;have z3:=LV;have z4:=LW;have z5:=Nt;have z6:=JI;have z7:=Nu;have z8:=JM;have z9:=JN;have hlt:1 < w.heap.size:=World.block_lt_of_cell? w ⟨1,0,none⟩ hg;have n8:=JQ ⟨w.heap.size,0,none⟩ t ((w.alloc (.cells #[.pointer (some t)] 72)).alloc (.cells #[.pointer (some ⟨8,72,none⟩),.pointer (some ⟨w.heap.size,0,none⟩),.int .u64 150] 111)) (by simp);have hg2:((w.alloc (.cells #[.pointer (some t)] 72)).alloc (.cells #[.pointer (some ⟨8,72,none⟩),.pointer (some ⟨w.heap.size,0,none⟩),.int .u64 150] 111)).cell? ⟨1,0,none⟩=some (.iface 174 (.agg #[.pointer (some ⟨8,67,none⟩)])):=by
  rw [World.cell?_alloc_lt _ _ ⟨1,0,none⟩ (by simp; omega),World.cell?_alloc_lt _ _ ⟨1,0,none⟩ hlt]; exact hg
 have htl:t.block < w.heap.size:=World.block_lt_of_cell? w t ht0;have el:=MJ ⟨w.heap.size,0,none⟩ t (((w.alloc (.cells #[.pointer (some t)] 72)).alloc (.cells #[.pointer (some ⟨8,72,none⟩),.pointer (some ⟨w.heap.size,0,none⟩),.int .u64 150] 111)).alloc (.cells #[.pointer (some ⟨8,72,none⟩),.pointer (some ⟨w.heap.size,0,none⟩),.int .u64 150] 111)) (by rw [World.cell?_alloc_lt _ _ ⟨w.heap.size,0,none⟩ (by simp; omega)]; simp)
 have st:=NF t ⟨w.heap.size + 1 + 1 + 1,0,none⟩ e old ((((w.alloc (.cells #[.pointer (some t)] 72)).alloc (.cells #[.pointer (some ⟨8,72,none⟩),.pointer (some ⟨w.heap.size,0,none⟩),.int .u64 150] 111)).alloc (.cells #[.pointer (some ⟨8,72,none⟩),.pointer (some ⟨w.heap.size,0,none⟩),.int .u64 150] 111)).alloc (.cells #[.pointer (some e)] 70))
  (by rw [World.cell?_alloc_at _ _ _ _ (by simp)]; rfl)
  (by rw [World.cell?_alloc_lt _ _ t (by simp; omega),World.cell?_alloc_lt _ _ t (by simp; omega),World.cell?_alloc_lt _ _ t (by simp; omega),World.cell?_alloc_lt _ _ t htl]; exact ht0)
  (by rw [World.frozen?_alloc_old _ _ t (by simp; omega),World.frozen?_alloc_old _ _ t (by simp; omega),World.frozen?_alloc_old _ _ t (by simp; omega),World.frozen?_alloc_old _ _ t (Nat.ne_of_lt htl)]; exact hf0)
 go_enter func29,ntmps29;go_wp2;refine wp_loop_rounds 1 ?_;rw [rounds_succ];go_wp2;go_ret;exact ⟨rfl,((((w.alloc (.cells #[.pointer (some t)] 72)).alloc (.cells #[.pointer (some ⟨8,72,none⟩),.pointer (some ⟨w.heap.size,0,none⟩),.int .u64 150] 111)).alloc (.cells #[.pointer (some ⟨8,72,none⟩),.pointer (some ⟨w.heap.size,0,none⟩),.int .u64 150] 111)).alloc (.cells #[.pointer (some e)] 70)),by
  repeat (first | exact Below.refl _ _ | refine Below.alloc ?_ (by first | (simp; done) | (simp; omega)) _),rfl⟩
theorem Lb (e t:Addr) (w:World) (hg:w.cell? ⟨1,0,none⟩=some (.iface 174 (.agg #[.pointer (some ⟨8,67,none⟩)]))) :
  Calls prog 29 #[.iface 283 (.pointer (some e)),.iface 72 (.pointer (some t))] w fun ev w'=>ev=.returned (.bool false)∧Below w.heap.size w w':=by
 obtain ⟨gV,hgV,v1,v2⟩:=NH;obtain ⟨gT,hgT,v3⟩:=Ns;obtain ⟨gK,hgK,v4,v5⟩:=LX;obtain ⟨gE,hgE,v6⟩:=LY;obtain ⟨gI,hgI,v7⟩:=LZ;obtain ⟨gA,hgA,v8,v9⟩:=L6;have y1:=@run_callFunc_extern prog 57 _ gV func57 (by kernel_rfl) (by kernel_rfl) (by kernel_rfl) hgV;have y2:=@run_callFunc_extern prog 58 _ gT func58 (by kernel_rfl) (by kernel_rfl) (by kernel_rfl) hgT;have y3:=@run_callFunc_extern prog 198 _ gK func198 (by kernel_rfl) (by kernel_rfl) (by kernel_rfl) hgK;have y4:=@run_callFunc_extern prog 210 _ gE func210 (by kernel_rfl) (by kernel_rfl) (by kernel_rfl) hgE;have y5:=@run_callFunc_extern prog 211 _ gI func211 (by kernel_rfl) (by kernel_rfl) (by kernel_rfl) hgI;have y6:=@run_callFunc_extern prog 208 _ gA func208 (by kernel_rfl) (by kernel_rfl) (by kernel_rfl) hgA;have y7 := @run_callFunc_extern Tryz.prog 59 _ (ReflectliteValue.method (ReflectliteValue.valueError "reflectlite.Value.IsNil" 0) ReflectliteValue.isNil) Tryz.func59 (by kernel_rfl) (by kernel_rfl) (by kernel_rfl) (by kernel_rfl);have y8:=@run_callFunc_extern prog 92 _ ReflectliteType.typeOf func92 (by kernel_rfl) (by kernel_rfl) (by kernel_rfl) (by kernel_rfl);have y9 := @run_callFunc_extern Tryz.prog 93 _ (ReflectliteValue.method (ReflectliteValue.valueError "reflectlite.Value.Elem" 0) ReflectliteValue.elem) Tryz.func93 (by kernel_rfl) (by kernel_rfl) (by kernel_rfl) (by kernel_rfl);have y10:=@run_callFunc_extern prog 94 _ ReflectliteValue.set func94 (by kernel_rfl) (by kernel_rfl) (by kernel_rfl) (by kernel_rfl);have z1:=LQ;have z2:=LU;have z3:=LV;have z4:=LW;have z5:=Nt;have z6:=JI;have z7:=Nu;have z8:=JM;have z9:=JN;have hlt:1 < w.heap.size:=World.block_lt_of_cell? w ⟨1,0,none⟩ hg;have n8:=JQ ⟨w.heap.size,0,none⟩ t ((w.alloc (.cells #[.pointer (some t)] 72)).alloc (.cells #[.pointer (some ⟨8,72,none⟩),.pointer (some ⟨w.heap.size,0,none⟩),.int .u64 150] 111)) (by simp);have hg2:((w.alloc (.cells #[.pointer (some t)] 72)).alloc (.cells #[.pointer (some ⟨8,72,none⟩),.pointer (some ⟨w.heap.size,0,none⟩),.int .u64 150] 111)).cell? ⟨1,0,none⟩=some (.iface 174 (.agg #[.pointer (some ⟨8,67,none⟩)])):=by
  rw [World.cell?_alloc_lt _ _ ⟨1,0,none⟩ (by simp; omega),World.cell?_alloc_lt _ _ ⟨1,0,none⟩ hlt]; exact hg
 go_enter func29,ntmps29;go_wp2;refine wp_loop_rounds 1 ?_;rw [rounds_succ];go_wp2;go_ret;exact ⟨rfl,by
  repeat (first | exact Below.refl _ _ | refine Below.alloc ?_ (by first | (simp; done) | (simp; omega)) _)⟩
end Go.Proofs.YteoflgocljfgeaaGreatDoor
