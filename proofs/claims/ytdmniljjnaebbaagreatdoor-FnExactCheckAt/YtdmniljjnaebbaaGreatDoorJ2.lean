/- Contracts of the functions that look at tuples: each returns what the plain function says, and nothing that was in memory has changed. -/
import Derived.Test.YtdmniljjnaebbaaGreatDoorJ1
import Derived.Deep.RegionHeld3
import Derived.Deep.DrawnRows
open Go.Proofs.Tryz
set_option maxHeartbeats 80000000
namespace Go.Proofs.YtdmniljjnaebbaaGreatDoor
open Go.ChangeShapes Go.WideShapes Go.ChangeAt Go.RowKit
open Pl
theorem yQ (s:ByteArray) (w:World) (hs:s.size≤maxLen) :
  Calls prog 171 #[.string s] w fun e w'=>e=.returned (.bool (rG s))∧w'=w:=by
 go_enter func171,ntmps171;go_wp2_with (go_at_call 162; refine (au _ _ hs).mono ?_; rintro e w' ⟨rfl,rfl⟩)
 all_goals go_ret
 all_goals exact ⟨ae (by simp [rG, *]),rfl⟩
theorem bu (a b r c d s:ByteArray) (w:World) (ha:a.size≤maxLen) (hb:b.size≤maxLen) (hr:r.size≤maxLen) (hc:c.size≤maxLen) (hd:d.size≤maxLen) (hs:s.size≤maxLen) :
  Calls prog 77 #[.agg #[.string a,.string b,.string r,.string c,.string d,.string s]] w fun e w'=>e=.returned (.bool (aT a b r c d s))∧Below w.heap.size w w':=by
 by_cases h1:dS a b=true
 ·by_cases h2:aO r=true
  ·by_cases h3:dS c d=true
   ·have HT:Hid (aT a b r c d s=rG s):=vG h1 h2 h3;go_enter func77,ntmps77;go_wp2_with fail;refine (d9 _ _ _ ha hb).mono ?_;rintro e w1 ⟨rfl,hb1⟩;obtain ⟨hc1,hf1⟩:=dM hb1;have hz1:w.heap.size < w1.heap.size:=by have:=hb1.size; simp at this; omega
    go_wp2_with fail;refine (az _ _ hr).mono ?_;rintro e w1' ⟨rfl,rfl⟩;go_wp2_with fail;refine (d9 _ _ _ hc hd).mono ?_;rintro e w2 ⟨rfl,hb2⟩;obtain ⟨hc2,hf2⟩:=dM hb2;have hz2:w.heap.size < w2.heap.size:=by have:=hb2.size; omega
    go_wp2_with (go_at_call 105; refine (az _ _ hs).mono ?_; rintro e w3 ⟨rfl,rfl⟩)
    all_goals go_ret
    all_goals exact ⟨ae (HT.out.trans (by simp [rG, *])).symm,((Below.refl _ _).alloc (Nat.le_refl _) _).trans ((hb1.mono (by simp)).trans (hb2.mono (by omega)))⟩
   ·have h3':dS c d=false:=by simpa using h3
    have HT:Hid (aT a b r c d s=false):=vF h3';clear h3;go_enter func77,ntmps77;go_wp2_with fail;refine (d9 _ _ _ ha hb).mono ?_;rintro e w1 ⟨rfl,hb1⟩;obtain ⟨hc1,hf1⟩:=dM hb1;have hz1:w.heap.size < w1.heap.size:=by have:=hb1.size; simp at this; omega
    go_wp2_with fail;refine (az _ _ hr).mono ?_;rintro e w1' ⟨rfl,rfl⟩;go_wp2_with fail;refine (d9 _ _ _ hc hd).mono ?_;rintro e w2 ⟨rfl,hb2⟩;go_wp2;go_ret;exact ⟨ae HT.out.symm,((Below.refl _ _).alloc (Nat.le_refl _) _).trans ((hb1.mono (by simp)).trans (hb2.mono (by omega)))⟩
  ·have h2':aO r=false:=by simpa using h2
   have HT:Hid (aT a b r c d s=false):=vD h2';clear h2;go_enter func77,ntmps77;go_wp2_with fail;refine (d9 _ _ _ ha hb).mono ?_;rintro e w1 ⟨rfl,hb1⟩;obtain ⟨hc1,hf1⟩:=dM hb1;go_wp2_with fail;refine (az _ _ hr).mono ?_;rintro e w1' ⟨rfl,rfl⟩;go_wp2;go_ret;exact ⟨ae HT.out.symm,((Below.refl _ _).alloc (Nat.le_refl _) _).trans (hb1.mono (by simp))⟩
 ·have h1':dS a b=false:=by simpa using h1
  have HT:Hid (aT a b r c d s=false):=vC h1';clear h1;go_enter func77,ntmps77;go_wp2_with fail;refine (d9 _ _ _ ha hb).mono ?_;rintro e w1 ⟨rfl,hb1⟩;go_wp2;go_ret;exact ⟨ae HT.out.symm,((Below.refl _ _).alloc (Nat.le_refl _) _).trans (hb1.mono (by simp))⟩
theorem bG (a b r c d s:ByteArray) (w:World) (ha:a.size≤maxLen) (hb:b.size≤maxLen) (hr:r.size≤maxLen) (hc:c.size≤maxLen) (hd:d.size≤maxLen) (hs:s.size≤maxLen) :
  Calls prog 128 #[.agg #[.string a,.string b,.string r,.string c,.string d,.string s]] w fun e w'=>e=.returned (.bool (aT a b r c d s))∧Below w.heap.size w w':=by
 by_cases h1:dS a b=true
 ·by_cases h2:aO r=true
  ·by_cases h3:dS c d=true
   ·have HT:Hid (aT a b r c d s=rG s):=vG h1 h2 h3;go_enter func128,ntmps128;go_wp2_with fail;refine (ed _ _ _ ha hb).mono ?_;rintro e w1 ⟨rfl,hb1⟩;obtain ⟨hc1,hf1⟩:=dM hb1;have hz1:w.heap.size < w1.heap.size:=by have:=hb1.size; simp at this; omega
    go_wp2_with fail;refine (au _ _ hr).mono ?_;rintro e w1' ⟨rfl,rfl⟩;go_wp2_with fail;refine (ed _ _ _ hc hd).mono ?_;rintro e w2 ⟨rfl,hb2⟩;obtain ⟨hc2,hf2⟩:=dM hb2;have hz2:w.heap.size < w2.heap.size:=by have:=hb2.size; omega
    go_wp2_with (go_at_call 171; refine (yQ _ _ hs).mono ?_; rintro e w3 ⟨rfl,rfl⟩)
    all_goals go_ret
    all_goals exact ⟨ae (HT.out.trans (by simp [rG, *])).symm,((Below.refl _ _).alloc (Nat.le_refl _) _).trans ((hb1.mono (by simp)).trans (hb2.mono (by omega)))⟩
   ·have h3':dS c d=false:=by simpa using h3
    have HT:Hid (aT a b r c d s=false):=vF h3';clear h3;go_enter func128,ntmps128;go_wp2_with fail;refine (ed _ _ _ ha hb).mono ?_;rintro e w1 ⟨rfl,hb1⟩;obtain ⟨hc1,hf1⟩:=dM hb1;have hz1:w.heap.size < w1.heap.size:=by have:=hb1.size; simp at this; omega
    go_wp2_with fail;refine (au _ _ hr).mono ?_;rintro e w1' ⟨rfl,rfl⟩;go_wp2_with fail;refine (ed _ _ _ hc hd).mono ?_;rintro e w2 ⟨rfl,hb2⟩;go_wp2;go_ret;exact ⟨ae HT.out.symm,((Below.refl _ _).alloc (Nat.le_refl _) _).trans ((hb1.mono (by simp)).trans (hb2.mono (by omega)))⟩
  ·have h2':aO r=false:=by simpa using h2
   have HT:Hid (aT a b r c d s=false):=vD h2';clear h2;go_enter func128,ntmps128;go_wp2_with fail;refine (ed _ _ _ ha hb).mono ?_;rintro e w1 ⟨rfl,hb1⟩;obtain ⟨hc1,hf1⟩:=dM hb1;go_wp2_with fail;refine (au _ _ hr).mono ?_;rintro e w1' ⟨rfl,rfl⟩;go_wp2;go_ret;exact ⟨ae HT.out.symm,((Below.refl _ _).alloc (Nat.le_refl _) _).trans (hb1.mono (by simp))⟩
 ·have h1':dS a b=false:=by simpa using h1
  have HT:Hid (aT a b r c d s=false):=vC h1';clear h1;go_enter func128,ntmps128;go_wp2_with fail;refine (ed _ _ _ ha hb).mono ?_;rintro e w1 ⟨rfl,hb1⟩;go_wp2;go_ret;exact ⟨ae HT.out.symm,((Below.refl _ _).alloc (Nat.le_refl _) _).trans (hb1.mono (by simp))⟩
def bR (t i:ByteArray) (left:Int):Int:=if left - t.size < 0 then -1 else if left - t.size - i.size < 0 then -1 else left - t.size - i.size
theorem ib {k:IntKind} {a b:Int} (h:a=b):Ending.returned (.int k a)=.returned (.int k b):=by rw [h]
theorem jw (t i:ByteArray) (left:Int) (w:World) (ht:t.size≤maxLen) (hi:i.size≤maxLen) (h0:0≤left) (h1:left≤1048576) :
  Calls prog 42 #[.agg #[.string t,.string i],.int .i64 left] w fun e w'=>e=.returned (.int .i64 (bR t i left))∧Below w.heap.size w w':=by
 unfold maxLen at ht hi;go_enter func42,ntmps42;go_wp2
 all_goals go_ret
 all_goals refine ⟨ib ?_,(Below.refl _ _).alloc (Nat.le_refl _) _⟩
 all_goals unfold bR
 all_goals first | rw [if_pos (by omega)] | (rw [if_neg (by omega)]; first | rw [if_pos (by omega)] | rw [if_neg (by omega)])
theorem jy (t i:ByteArray) (w:World) :
  Calls prog 45 #[.agg #[.string t,.string i]] w fun e w'=>e=.returned (.agg #[.string t,.string i])∧Below w.heap.size w w':=by
 go_enter func45,ntmps45;go_wp2;exact bodyPost_ret (v:=.agg #[.string t,.string i]) (by simp [results,Tryz.results45,go_sem]) rfl ⟨rfl,by
  repeat (first | exact Below.refl _ _ | refine Below.setCell ?_ (by first | (simp; done) | (simp; omega)) _ | refine Below.alloc ?_ (by first | (simp; done) | (simp; omega)) _)⟩
theorem qw (t i:ByteArray) (left:Int):bR t i left≤left ∨ bR t i left=-1:=by
 unfold bR; split
 ·exact .inr rfl
 ·split
  ·exact .inr rfl
  ·exact .inl (by omega)
def jH (a b r c d s:ByteArray) (left:Int):Int :=
 if bR a b left < 0 then -1 else if bR a b left - r.size < 0 then -1
 else if bR c d (bR a b left - r.size) < 0 then -1 else if bR c d (bR a b left - r.size) - s.size < 0 then -1
 else bR c d (bR a b left - r.size) - s.size
theorem BJ (a b r c d s:ByteArray) (left:Int):jH a b r c d s left≤left ∨ jH a b r c d s left=-1:=by
 unfold jH;split
 ·exact .inr rfl
 split
 ·exact .inr rfl
 split
 ·exact .inr rfl
 split
 ·exact .inr rfl
 ·refine .inl ?_;have h1:=qw a b left;have h2:=qw c d (bR a b left - r.size);omega
theorem BL (a b r c d s:ByteArray) (left:Int) (w:World) (ha:a.size≤maxLen) (hb:b.size≤maxLen) (hr:r.size≤maxLen) (hc:c.size≤maxLen) (hd:d.size≤maxLen) (hs:s.size≤maxLen) (h0:0≤left) (h1:left≤1048576) :
  Calls prog 28 #[.agg #[.string a,.string b,.string r,.string c,.string d,.string s],.int .i64 left] w fun e w'=>e=.returned (.int .i64 (jH a b r c d s left))∧Below w.heap.size w w':=by
 have hr':=hr;have hs':=hs;unfold maxLen at hr' hs';have e1:=qw a b left;have e2:=qw c d (bR a b left - r.size);go_enter func28,ntmps28;go_wp2_with fail;refine (jw _ _ _ _ ha hb h0 h1).mono ?_;rintro e w1 ⟨rfl,hb1⟩;obtain ⟨hc1,hf1⟩:=dM hb1;have hz1:w.heap.size < w1.heap.size:=by have:=hb1.size; simp at this; omega
 have HB1:Below w.heap.size w w1:=((Below.refl _ _).alloc (Nat.le_refl _) _).trans (hb1.mono (by simp));by_cases n1:bR a b left < 0
 ·go_wp2;go_ret;exact ⟨ib (by rw [jH,if_pos (by omega)]),HB1⟩
 by_cases n2:bR a b left - r.size < 0
 ·go_wp2;go_ret;exact ⟨ib (by rw [jH,if_neg (by omega),if_pos (by omega)]),HB1⟩
 go_wp2_with fail;refine (jw _ _ _ _ hc hd (by omega) (by omega)).mono ?_;rintro e w2 ⟨rfl,hb2⟩;obtain ⟨hc2,hf2⟩:=dM hb2;have hz2:w.heap.size < w2.heap.size:=by have:=hb2.size; omega
 by_cases n3:bR c d (bR a b left - r.size) < 0
 ·go_wp2;go_ret;exact ⟨ib (by rw [jH,if_neg (by omega),if_neg (by omega),if_pos (by omega)]),HB1.trans (hb2.mono (by omega))⟩
 by_cases n4:bR c d (bR a b left - r.size) - s.size < 0
 ·go_wp2;go_ret;exact ⟨ib (by rw [jH,if_neg (by omega),if_neg (by omega),if_neg (by omega),if_pos (by omega)]),HB1.trans (hb2.mono (by omega))⟩
 go_wp2;go_ret;exact ⟨ib (by rw [jH,if_neg (by omega),if_neg (by omega),if_neg (by omega),if_neg (by omega)]),HB1.trans (hb2.mono (by omega))⟩
theorem BM (a b r c d s:ByteArray) (w:World) :
  Calls prog 33 #[.agg #[.string a,.string b,.string r,.string c,.string d,.string s]] w fun e w'=>e=.returned (.agg #[.string a,.string b,.string r,.string c,.string d,.string s])∧Below w.heap.size w w':=by
 go_enter func33,ntmps33;go_wp2_with fail;refine (jy _ _ _).mono ?_;rintro e w1 ⟨rfl,hb1⟩;obtain ⟨hc1,hf1⟩:=dM hb1;have hz1:w.heap.size + 1 + 1 < w1.heap.size:=by have:=hb1.size; simp at this; omega
 have hy1:w.heap.size + 1 < w1.heap.size:=by omega
 have hx1:w.heap.size < w1.heap.size:=by omega
 go_wp2_with fail;refine (jy _ _ _).mono ?_;rintro e w2 ⟨rfl,hb2⟩;obtain ⟨hc2,hf2⟩:=dM hb2;have hz2:w.heap.size + 1 + 1 < w2.heap.size:=by have:=hb2.size; simp at this; omega
 have hy2:w.heap.size + 1 < w2.heap.size:=by omega
 have hx2:w.heap.size < w2.heap.size:=by omega
 have HB1:Below w.heap.size w w1:=Below.trans (by
  repeat (first | exact Below.refl _ _ | refine Below.setCell ?_ (by first | (simp; done) | (simp; omega)) _ | refine Below.alloc ?_ (by first | (simp; done) | (simp; omega)) _)) (hb1.mono (by simp; omega))
 have HB2:Below w.heap.size w w2:=Below.trans (by
  repeat (first | refine Below.setCell ?_ (by first | (simp; done) | (simp; omega)) _ | with_reducible exact HB1)) (hb2.mono (by simp; omega))
 clear hb1 hb2;go_wp2;exact bodyPost_ret (v:=.agg #[.string a,.string b,.string r,.string c,.string d,.string s]) (by simp [results,Tryz.results33,go_sem, *]) rfl ⟨rfl,by
  repeat (first | refine Below.setCell ?_ (by first | (simp; done) | (simp; omega)) _ | with_reducible exact HB2)⟩
structure Tp where
 a:ByteArray
 b:ByteArray
 r:ByteArray
 c:ByteArray
 d:ByteArray
 s:ByteArray
def Tp.fits (t:Tp):Prop:=t.a.size≤maxLen∧t.b.size≤maxLen∧t.r.size≤maxLen∧t.c.size≤maxLen∧t.d.size≤maxLen∧t.s.size≤maxLen
def Mx (w:World) (b off:Nat) (t:Tp):Prop :=
 w.cell? ⟨b,off,none⟩=some (.string t.a)∧w.cell? ⟨b,off + 1,none⟩=some (.string t.b)∧w.cell? ⟨b,off + 2,none⟩=some (.string t.r) ∧
 w.cell? ⟨b,off + 3,none⟩=some (.string t.c)∧w.cell? ⟨b,off + 4,none⟩=some (.string t.d)∧w.cell? ⟨b,off + 5,none⟩=some (.string t.s)
def eH (w:World) (b off:Nat) (ts:List Tp):Prop:=∀ (i:Nat) (h:i < ts.length),Mx w b (off + i * 6) ts[i]
def Sl (w:World) (ad:Option Addr) (ts:List Tp):Prop:=ts=[] ∨ ∃ b off,ad=some ⟨b,off,none⟩∧b < w.heap.size∧eH w b off ts
theorem Mx.same {w w':World} {b off:Nat} {t:Tp} (h:Mx w b off t) (hc:∀ o,w'.cell? ⟨b,o,none⟩=w.cell? ⟨b,o,none⟩):Mx w' b off t:=by
 obtain ⟨h0,h1,h2,h3,h4,h5⟩:=h;exact ⟨(hc _).trans h0,(hc _).trans h1,(hc _).trans h2,(hc _).trans h3,(hc _).trans h4,(hc _).trans h5⟩
theorem eH.below {w w':World} {b off B:Nat} {ts:List Tp} (h:eH w b off ts) (hB:Below B w w') (hb:b < B):eH w' b off ts :=
 fun i hi=>(h i hi).same fun o=>hB.cell (p:=⟨b,o,none⟩) hb
theorem Sl.below {w w':World} {ad:Option Addr} {ts:List Tp} (h:Sl w ad ts) (hB:Below w.heap.size w w'):Sl w' ad ts:=by
 rcases h with h | ⟨b,off,e,hb,hr⟩
 ·exact .inl h
 ·exact .inr ⟨b,off,e,Nat.lt_of_lt_of_le hb hB.size,hr.below hB hb⟩
def qx (w:World) (g o:Nat) (t:Tp):World :=
 (((((w.setCell ⟨g,o,none⟩ (.string t.a)).setCell ⟨g,o + 1,none⟩ (.string t.b)).setCell ⟨g,o + 2,none⟩ (.string t.r)).setCell ⟨g,o + 3,none⟩ (.string t.c)).setCell ⟨g,o + 4,none⟩ (.string t.d)).setCell ⟨g,o + 5,none⟩ (.string t.s)
theorem iJ {w:World} {g i j:Nat} {v:Value} (h:i ≠ j):(w.setCell ⟨g,i,none⟩ v).cell? ⟨g,j,none⟩=w.cell? ⟨g,j,none⟩:=by
 apply World.cell?_setCell_other;intro e;exact h (congrArg Addr.off e)
theorem GK {w:World} {a:Addr} {v u:Value} (h:w.cell? a=some u):(w.setCell a v).cell? a=some v:=by
 apply World.cell?_setCell_same; exact h
theorem qy (w:World) (g o:Nat) (t:Tp) (j:Nat) (h:j < o ∨ o + 6≤j):(qx w g o t).cell? ⟨g,j,none⟩=w.cell? ⟨g,j,none⟩:=by
 unfold qx;rw [iJ (by omega),iJ (by omega),iJ (by omega),iJ (by omega),iJ (by omega),iJ (by omega)]
theorem Am {w:World} {g o:Nat} (t:Tp) (h:∀ j,j < 6→(w.cell? ⟨g,o + j,none⟩).isSome=true):Mx (qx w g o t) g o t:=by
 have e:∀ (W:World) (i j:Nat) (v:Value),(W.cell? ⟨g,o + j,none⟩).isSome=true→((W.setCell ⟨g,o + i,none⟩ v).cell? ⟨g,o + j,none⟩).isSome=true:=by
  intro W i j v hW;by_cases hij:i=j
  ·subst hij;obtain ⟨u,hu⟩:=Option.isSome_iff_exists.mp hW;rw [GK hu]; rfl
  ·rw [iJ (by omega)]; exact hW
 have same:∀ (W:World) (j:Nat) (v:Value),(W.cell? ⟨g,o + j,none⟩).isSome=true→(W.setCell ⟨g,o + j,none⟩ v).cell? ⟨g,o + j,none⟩=some v:=by
  intro W j v hW;obtain ⟨u,hu⟩:=Option.isSome_iff_exists.mp hW;exact GK hu
 have h0:=h 0 (by omega);have h1:=h 1 (by omega);have h2:=h 2 (by omega);have h3:=h 3 (by omega);have h4:=h 4 (by omega);have h5:=h 5 (by omega);unfold qx Mx;refine ⟨?_,?_,?_,?_,?_,?_⟩
 ·rw [iJ (by omega),iJ (by omega),iJ (by omega),iJ (by omega),iJ (by omega)];exact same _ 0 _ h0
 ·rw [iJ (by omega),iJ (by omega),iJ (by omega),iJ (by omega)];exact same _ 1 _ (e _ 0 1 _ h1)
 ·rw [iJ (by omega),iJ (by omega),iJ (by omega)];exact same _ 2 _ (e _ 1 2 _ (e _ 0 2 _ h2))
 ·rw [iJ (by omega),iJ (by omega)];exact same _ 3 _ (e _ 2 3 _ (e _ 1 3 _ (e _ 0 3 _ h3)))
 ·rw [iJ (by omega)];exact same _ 4 _ (e _ 3 4 _ (e _ 2 4 _ (e _ 1 4 _ (e _ 0 4 _ h4))))
 ·exact same _ 5 _ (e _ 4 5 _ (e _ 3 5 _ (e _ 2 5 _ (e _ 1 5 _ (e _ 0 5 _ h5)))))
theorem BN (w:World) (g o:Nat) (t:Tp) (x:Addr):(qx w g o t).frozen? x=w.frozen? x:=by simp [qx]
theorem vI {B:Nat} {w0 w:World} {g o:Nat} {t:Tp} (h:Below B w0 w) (hg:B≤g):Below B w0 (qx w g o t):=by
 unfold qx;exact (((((h.setCell (by exact hg) _).setCell (by exact hg) _).setCell (by exact hg) _).setCell (by exact hg) _).setCell (by exact hg) _).setCell (by exact hg) _
theorem GL (w:World) (g o:Nat) (t:Tp):(qx w g o t).heap.size=w.heap.size:=by simp [qx]
structure Filling (w wr:World) (g:Nat) (ts:List Tp) (k:Nat):Prop where
 below:Below w.heap.size w wr
 ge:w.heap.size≤g
 lt:g < wr.heap.size
 done:∀ (i:Nat) (h:i < ts.length),i < k→Mx wr g (0 + i * 6) ts[i]
 there:∀ j,j < ts.length * 6→(wr.cell? ⟨g,j,none⟩).isSome=true
 free:∀ j,wr.frozen? ⟨g,j,none⟩=false
theorem Filling.later {w wr w1:World} {g:Nat} {ts:List Tp} {k:Nat} (h:Filling w wr g ts k) (hb:Below wr.heap.size wr w1):Filling w w1 g ts k where
 below:=h.below.trans (hb.mono h.below.size)
 ge:=h.ge
 lt:=Nat.lt_of_lt_of_le h.lt hb.size
 done i hi hk:=(h.done i hi hk).same fun o=>hb.cell (p:=⟨g,o,none⟩) h.lt
 there j hj:=by rw [hb.cell (p:=⟨g,j,none⟩) h.lt]; exact h.there j hj
 free j:=by rw [hb.frozen (p:=⟨g,j,none⟩) h.lt]; exact h.free j
theorem Filling.put {w wr:World} {g:Nat} {ts:List Tp} {k:Nat} (h:Filling w wr g ts k) (hk:k < ts.length):Filling w (qx wr g (k * 6) ts[k]) g ts (k + 1) where
 below:=vI h.below h.ge
 ge:=h.ge
 lt:=by rw [GL]; exact h.lt
 done i hi hik:=by
  by_cases e:i=k
  ·subst e;rw [Nat.zero_add];exact Am _ (fun j hj=>h.there _ (by omega))
  ·obtain ⟨a0,a1,a2,a3,a4,a5⟩:=h.done i hi (by omega);refine ⟨?_,?_,?_,?_,?_,?_⟩ <;> (rw [qy _ _ _ _ _ (by omega)]; assumption)
 there j hj:=by
  by_cases hin:j < k * 6 ∨ k * 6 + 6≤j
  ·rw [qy _ _ _ _ _ hin]; exact h.there j hj
  ·obtain ⟨a0,a1,a2,a3,a4,a5⟩:=Am (w:=wr) (g:=g) (o:=k * 6) ts[k] (fun j hj=>h.there _ (by omega));have hj6:j=k * 6 ∨ j=k * 6 + 1 ∨ j=k * 6 + 2 ∨ j=k * 6 + 3 ∨ j=k * 6 + 4 ∨ j=k * 6 + 5:=by omega
   rcases hj6 with e | e | e | e | e | e
   ·rw [e,a0]; rfl
   ·rw [e,a1]; rfl
   ·rw [e,a2]; rfl
   ·rw [e,a3]; rfl
   ·rw [e,a4]; rfl
   ·rw [e,a5]; rfl
 free j:=by rw [BN]; exact h.free j
theorem Filling.row {w w':World} {g:Nat} {ts:List Tp} (h:Filling w w' g ts ts.length):eH w' g 0 ts:=fun i hi=>h.done i hi hi
theorem Filling.sl {w w':World} {g:Nat} {ts:List Tp} (h:Filling w w' g ts ts.length):Sl w' (some ⟨g,0,none⟩) ts:=.inr ⟨g,0,rfl,h.lt,h.row⟩
end Go.Proofs.YtdmniljjnaebbaaGreatDoor
namespace Go.Proofs.YtdmniljjnaebbaaGreatDoor
open Go.ChangeShapes Go.WideShapes Go.ChangeAt Go.RowKit
open Pl
attribute [local go_sem ↓] Go.wp_at_zero Go.wp_at_succ
theorem MB {w W w':World} {n:Nat} {x0 x1 x2 x3 x4 x5:Value} (h:W.cell? ⟨n,0,none⟩=some x0∧W.cell? ⟨n,1,none⟩=some x1∧W.cell? ⟨n,2,none⟩=some x2∧W.cell? ⟨n,3,none⟩=some x3∧W.cell? ⟨n,4,none⟩=some x4∧W.cell? ⟨n,5,none⟩=some x5∧n < W.heap.size∧Below n w W) (hb:Below W.heap.size W w'):w'.cell? ⟨n,0,none⟩=some x0∧w'.cell? ⟨n,1,none⟩=some x1∧w'.cell? ⟨n,2,none⟩=some x2∧w'.cell? ⟨n,3,none⟩=some x3∧w'.cell? ⟨n,4,none⟩=some x4∧w'.cell? ⟨n,5,none⟩=some x5∧n < w'.heap.size∧Below n w w':=by
 obtain ⟨h0,h1,h2,h3,h4,h5,hn,hB⟩:=h;have hc:∀ o,w'.cell? ⟨n,o,none⟩=W.cell? ⟨n,o,none⟩:=fun o=>hb.cell (p:=⟨n,o,none⟩) hn;refine ⟨by rw [hc]; exact h0,by rw [hc]; exact h1,by rw [hc]; exact h2,by rw [hc]; exact h3,by rw [hc]; exact h4,by rw [hc]; exact h5,Nat.lt_of_lt_of_le hn hb.size,hB.trans (hb.mono (Nat.le_of_lt hn))⟩
theorem uz (a b r c d s:ByteArray) (w:World) (ha:a.size≤maxLen) (hb:b.size≤maxLen) (hr:r.size≤maxLen) (hc:c.size≤maxLen) (hd:d.size≤maxLen) (hs:s.size≤maxLen) :
  Calls prog 158 #[.agg #[.string a,.string b,.string r,.string c,.string d,.string s]] w fun e w'=>e=.returned (.string (aN a b r c d s))∧Below w.heap.size w w':=by
 by_cases hn:aT a b r c d s=true
 ·obtain ⟨h1,h2,h3,h4⟩:=iI hn;have hx:=fJ a b;have hy:=fJ c d;have hr12:=(kE h2).2;have hs12:=Ak h4;clear h1 h2 h3 h4;go_enter func158,ntmps158;go_wp2_with fail;refine (bu _ _ _ _ _ _ _ ha hb hr hc hd hs).mono ?_;rintro e w1 ⟨rfl,hb1⟩;obtain ⟨hc1,hf1⟩:=dM hb1;have hz1:w.heap.size < w1.heap.size:=by have:=hb1.size; simp at this; omega
  have k:∀ o v,(w.alloc (.cells #[.string a,.string b,.string r,.string c,.string d,.string s] 42)).cell? ⟨w.heap.size,o,none⟩=some v→w1.cell? ⟨w.heap.size,o,none⟩=some v:=fun o v h=>by rw [hc1 _ _ (by simp)]; exact h
  have k0:=k 0 (.string a) (by simp);have k1:=k 1 (.string b) (by simp);have k2:=k 2 (.string r) (by simp);have k3:=k 3 (.string c) (by simp);have k4:=k 4 (.string d) (by simp);have k5:=k 5 (.string s) (by simp);have HB1:Below w.heap.size w w1:=((Below.refl _ _).alloc (Nat.le_refl _) _).trans (hb1.mono (by simp));clear k hb1 hc1 hf1;have q1:(9223372036854775807 < (av a b).size + 1)=False:=by simp; omega
  have q2:(9223372036854775807 < (av a b).size + 1 + r.size)=False:=by simp; omega
  have q3:(9223372036854775807 < (av a b).size + 1 + r.size + 1)=False:=by simp; omega
  have q4:(9223372036854775807 < (av a b).size + 1 + r.size + 1 + (av c d).size)=False:=by simp; omega
  go_wp2_with fail
  go_region_held3 (fun w'=>w'.cell? ⟨w.heap.size,0,none⟩=some (.string a)∧w'.cell? ⟨w.heap.size,1,none⟩=some (.string b)∧w'.cell? ⟨w.heap.size,2,none⟩=some (.string r)∧w'.cell? ⟨w.heap.size,3,none⟩=some (.string c)∧w'.cell? ⟨w.heap.size,4,none⟩=some (.string d)∧w'.cell? ⟨w.heap.size,5,none⟩=some (.string s)∧w.heap.size < w'.heap.size∧Below w.heap.size w w')
   (first | exact MB (by assumption) hbx | exact ⟨k0,k1,k2,k3,k4,k5,hz1,HB1.drew⟩)
   (first | (go_at_call 188; refine (uw _ _ _ (by assumption) (by assumption)).mono ?_; rintro e w' ⟨rfl,hbx⟩))
  rename_i hH;obtain ⟨g0,g1,g2,g3,g4,g5,gz,gB⟩:=hH;clear k0 k1 k2 k3 k4 k5 hbx q1 q2 q3 q4 HB1;by_cases he:s.toList.isEmpty=true
  ·have HT:Hid (aN a b r c d s=_):=jT hn he;go_wp2;go_ret;exact ⟨eG HT.out.symm,gB⟩
  ·have he':s.toList.isEmpty=false:=by simpa using he
   have HT:Hid (aN a b r c d s=_):=jU hn he';clear he;go_wp2;go_ret;exact ⟨eG HT.out.symm,gB⟩
 ·have hn':aT a b r c d s=false:=by simpa using hn
  have HT:Hid (aN a b r c d s=⟨#[]⟩):=pE hn';clear hn;go_enter func158,ntmps158;go_wp2_with fail;refine (bu _ _ _ _ _ _ _ ha hb hr hc hd hs).mono ?_;rintro e w1 ⟨rfl,hb1⟩;go_wp2;go_ret;exact ⟨eG HT.out.symm,((Below.refl _ _).alloc (Nat.le_refl _) _).trans (hb1.mono (by simp))⟩
theorem uA (a b r c d s:ByteArray) (w:World) (ha:a.size≤maxLen) (hb:b.size≤maxLen) (hr:r.size≤maxLen) (hc:c.size≤maxLen) (hd:d.size≤maxLen) (hs:s.size≤maxLen) :
  Calls prog 148 #[.agg #[.string a,.string b,.string r,.string c,.string d,.string s]] w fun e w'=>e=.returned (.string (aN a b r c d s))∧Below w.heap.size w w':=by
 by_cases hn:aT a b r c d s=true
 ·obtain ⟨h1,h2,h3,h4⟩:=iI hn;have hx:=fJ a b;have hy:=fJ c d;have hr12:=(kE h2).2;have hs12:=Ak h4;clear h1 h2 h3 h4;go_enter func148,ntmps148;go_wp2_with fail;refine (bG _ _ _ _ _ _ _ ha hb hr hc hd hs).mono ?_;rintro e w1 ⟨rfl,hb1⟩;obtain ⟨hc1,hf1⟩:=dM hb1;have hz1:w.heap.size < w1.heap.size:=by have:=hb1.size; simp at this; omega
  have k:∀ o v,(w.alloc (.cells #[.string a,.string b,.string r,.string c,.string d,.string s] 42)).cell? ⟨w.heap.size,o,none⟩=some v→w1.cell? ⟨w.heap.size,o,none⟩=some v:=fun o v h=>by rw [hc1 _ _ (by simp)]; exact h
  have k0:=k 0 (.string a) (by simp);have k1:=k 1 (.string b) (by simp);have k2:=k 2 (.string r) (by simp);have k3:=k 3 (.string c) (by simp);have k4:=k 4 (.string d) (by simp);have k5:=k 5 (.string s) (by simp);have HB1:Below w.heap.size w w1:=((Below.refl _ _).alloc (Nat.le_refl _) _).trans (hb1.mono (by simp));clear k hb1 hc1 hf1;have q1:(9223372036854775807 < (av a b).size + 1)=False:=by simp; omega
  have q2:(9223372036854775807 < (av a b).size + 1 + r.size)=False:=by simp; omega
  have q3:(9223372036854775807 < (av a b).size + 1 + r.size + 1)=False:=by simp; omega
  have q4:(9223372036854775807 < (av a b).size + 1 + r.size + 1 + (av c d).size)=False:=by simp; omega
  go_wp2_with fail
  go_region_held3 (fun w'=>w'.cell? ⟨w.heap.size,0,none⟩=some (.string a)∧w'.cell? ⟨w.heap.size,1,none⟩=some (.string b)∧w'.cell? ⟨w.heap.size,2,none⟩=some (.string r)∧w'.cell? ⟨w.heap.size,3,none⟩=some (.string c)∧w'.cell? ⟨w.heap.size,4,none⟩=some (.string d)∧w'.cell? ⟨w.heap.size,5,none⟩=some (.string s)∧w.heap.size < w'.heap.size∧Below w.heap.size w w')
   (first | exact MB (by assumption) hbx | exact ⟨k0,k1,k2,k3,k4,k5,hz1,HB1.drew⟩)
   (first | (go_at_call 183; refine (uy _ _ _ (by assumption) (by assumption)).mono ?_; rintro e w' ⟨rfl,hbx⟩))
  rename_i hH;obtain ⟨g0,g1,g2,g3,g4,g5,gz,gB⟩:=hH;clear k0 k1 k2 k3 k4 k5 hbx q1 q2 q3 q4 HB1;by_cases he:s.toList.isEmpty=true
  ·have HT:Hid (aN a b r c d s=_):=jT hn he;go_wp2;go_ret;exact ⟨eG HT.out.symm,gB⟩
  ·have he':s.toList.isEmpty=false:=by simpa using he
   have HT:Hid (aN a b r c d s=_):=jU hn he';clear he;go_wp2;go_ret;exact ⟨eG (HT.out.trans (by simp only [ByteArray.append_assoc])).symm,gB⟩
 ·have hn':aT a b r c d s=false:=by simpa using hn
  have HT:Hid (aN a b r c d s=⟨#[]⟩):=pE hn';clear hn;go_enter func148,ntmps148;go_wp2_with fail;refine (bG _ _ _ _ _ _ _ ha hb hr hc hd hs).mono ?_;rintro e w1 ⟨rfl,hb1⟩;go_wp2;go_ret;exact ⟨eG HT.out.symm,((Below.refl _ _).alloc (Nat.le_refl _) _).trans (hb1.mono (by simp))⟩
end Go.Proofs.YtdmniljjnaebbaaGreatDoor
