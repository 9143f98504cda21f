/- Contracts of the two functions that write an object's text. -/
import Derived.Test.YtajkkeikihhejaaGreatSq
import Derived.Test.YtajkkeikihhejaaGreatJ18
import Derived.Test.YtajkkeikihhejaaGreatJ15
open Go.Proofs.Tryz
namespace Go.Proofs.YtajkkeikihhejaaGreat
open Go.ChangeShapes Go.WideShapes Go.ChangeAt Go.RowKit
open Pl
theorem yn (t i:bH) (w:af) (ht:t.size≤maxLen) (hi:i.size≤maxLen) :
  Calls prog 225 #[.agg #[.string t,.string i]] w fun e w'=>e=.returned (.string (aB t i))∧ag w w':=by
 by_cases hn:eT t i=true
 ·obtain ⟨h1,h2⟩:=yJ hn;have HT:Hid (aB t i=t ++ ⟨#[58]⟩ ++ i):=mP hn;go_enter func225,ntmps225;go_wp2_with (go_at_call 110; refine (fV _ _ _ ht hi).mono ?_; rintro e w' ⟨rfl,hb⟩; obtain ⟨hc,hf⟩:=jO hb);go_ret;exact ⟨gu HT.out.symm,((TT _ _).alloc (TS _) _).trans (hb.mono (by simp))⟩
 have hn':eT t i=false:=by simpa using hn
 have HT:Hid (aB t i=⟨#[]⟩):=tq hn';clear hn;go_enter func225,ntmps225;go_wp2_with (go_at_call 110; refine (fV _ _ _ ht hi).mono ?_; rintro e w' ⟨rfl,hb⟩; obtain ⟨hc,hf⟩:=jO hb);go_ret;exact ⟨gu HT.out.symm,((TT _ _).alloc (TS _) _).trans (hb.mono (by simp))⟩
theorem yo (t i:bH) (w:af) (ht:t.size≤maxLen) (hi:i.size≤maxLen) :
  Calls prog 207 #[.agg #[.string t,.string i]] w fun e w'=>e=.returned (.string (aB t i))∧ag w w':=by
 by_cases hn:eT t i=true
 ·obtain ⟨h1,h2⟩:=yJ hn;have HT:Hid (aB t i=t ++ ⟨#[58]⟩ ++ i):=mP hn;go_enter func207,ntmps207;go_wp2_with (go_at_call 161; refine (fZ _ _ _ ht hi).mono ?_; rintro e w' ⟨rfl,hb⟩; obtain ⟨hc,hf⟩:=jO hb);go_ret;exact ⟨gu HT.out.symm,((TT _ _).alloc (TS _) _).trans (hb.mono (by simp))⟩
 have hn':eT t i=false:=by simpa using hn
 have HT:Hid (aB t i=⟨#[]⟩):=tq hn';clear hn;go_enter func207,ntmps207;go_wp2_with (go_at_call 161; refine (fZ _ _ _ ht hi).mono ?_; rintro e w' ⟨rfl,hb⟩; obtain ⟨hc,hf⟩:=jO hb);go_ret;exact ⟨gu HT.out.symm,((TT _ _).alloc (TS _) _).trans (hb.mono (by simp))⟩
theorem CU (s:bH) (w:af) (hs:s.size≤maxLen) :
  Calls prog 163 #[.string s] w fun e w'=>e=.returned (.bool (uK s))∧w'=w:=by
 go_enter func163,ntmps163;go_wp2_with (go_at_call 162; refine (aL _ _ hs).mono ?_; rintro e w' ⟨rfl,rfl⟩)
 all_goals go_ret
 all_goals exact ⟨ah (by simp [uK, *]),rfl⟩
theorem dY (a b r c d s:bH) (w:af) (ha:a.size≤maxLen) (hb:b.size≤maxLen) (hr:r.size≤maxLen) (hc:c.size≤maxLen) (hd:d.size≤maxLen) (hs:s.size≤maxLen) :
  Calls prog 127 #[.agg #[.string a,.string b,.string r,.string c,.string d,.string s]] w fun e w'=>e=.returned (.bool (bI a b r c d s))∧ag w w':=by
 by_cases h1:eT a b=true
 ·by_cases h2:aP r=true
  ·by_cases h3:eT c d=true
   ·have HT:Hid (bI a b r c d s=uK s):=zP h1 h2 h3;go_enter func127,ntmps127;go_wp2_with fail;refine (fV _ _ _ ha hb).mono ?_;rintro e w1 ⟨rfl,hb1⟩;obtain ⟨hc1,hf1⟩:=jO hb1;have hz1:w.heap.size < w1.heap.size:=by have:=hb1.size; simp at this; omega
    go_wp2_with fail;refine (aS _ _ hr).mono ?_;rintro e w1' ⟨rfl,rfl⟩;go_wp2_with fail;refine (fV _ _ _ hc hd).mono ?_;rintro e w2 ⟨rfl,hb2⟩;obtain ⟨hc2,hf2⟩:=jO hb2;have hz2:w.heap.size < w2.heap.size:=by have:=hb2.size; omega
    go_wp2_with (go_at_call 111; refine (aS _ _ hs).mono ?_; rintro e w3 ⟨rfl,rfl⟩)
    all_goals go_ret
    all_goals exact ⟨ah (HT.out.trans (by simp [uK, *])).symm,((TT _ _).alloc (TS _) _).trans ((hb1.mono (by simp)).trans (hb2.mono (by omega)))⟩
   have h3':eT c d=false:=by simpa using h3
   have HT:Hid (bI a b r c d s=false):=zM h3';clear h3;go_enter func127,ntmps127;go_wp2_with fail;refine (fV _ _ _ ha hb).mono ?_;rintro e w1 ⟨rfl,hb1⟩;obtain ⟨hc1,hf1⟩:=jO hb1;have hz1:w.heap.size < w1.heap.size:=by have:=hb1.size; simp at this; omega
   go_wp2_with fail;refine (aS _ _ hr).mono ?_;rintro e w1' ⟨rfl,rfl⟩;go_wp2_with fail;refine (fV _ _ _ hc hd).mono ?_;rintro e w2 ⟨rfl,hb2⟩;go_wp2;go_ret;exact ⟨ah HT.out.symm,((TT _ _).alloc (TS _) _).trans ((hb1.mono (by simp)).trans (hb2.mono (by omega)))⟩
  have h2':aP r=false:=by simpa using h2
  have HT:Hid (bI a b r c d s=false):=zL h2';clear h2;go_enter func127,ntmps127;go_wp2_with fail;refine (fV _ _ _ ha hb).mono ?_;rintro e w1 ⟨rfl,hb1⟩;obtain ⟨hc1,hf1⟩:=jO hb1;go_wp2_with fail;refine (aS _ _ hr).mono ?_;rintro e w1' ⟨rfl,rfl⟩;go_wp2;go_ret;exact ⟨ah HT.out.symm,((TT _ _).alloc (TS _) _).trans (hb1.mono (by simp))⟩
 have h1':eT a b=false:=by simpa using h1
 have HT:Hid (bI a b r c d s=false):=zJ h1';clear h1;go_enter func127,ntmps127;go_wp2_with fail;refine (fV _ _ _ ha hb).mono ?_;rintro e w1 ⟨rfl,hb1⟩;go_wp2;go_ret;exact ⟨ah HT.out.symm,((TT _ _).alloc (TS _) _).trans (hb1.mono (by simp))⟩
theorem gm (a b r c d s:bH) (w:af) (ha:a.size≤maxLen) (hb:b.size≤maxLen) (hr:r.size≤maxLen) (hc:c.size≤maxLen) (hd:d.size≤maxLen) (hs:s.size≤maxLen) :
  Calls prog 108 #[.agg #[.string a,.string b,.string r,.string c,.string d,.string s]] w fun e w'=>e=.returned (.bool (bI a b r c d s))∧ag w w':=by
 by_cases h1:eT a b=true
 ·by_cases h2:aP r=true
  ·by_cases h3:eT c d=true
   ·have HT:Hid (bI a b r c d s=uK s):=zP h1 h2 h3;go_enter func108,ntmps108;go_wp2_with fail;refine (fZ _ _ _ ha hb).mono ?_;rintro e w1 ⟨rfl,hb1⟩;obtain ⟨hc1,hf1⟩:=jO hb1;have hz1:w.heap.size < w1.heap.size:=by have:=hb1.size; simp at this; omega
    go_wp2_with fail;refine (aL _ _ hr).mono ?_;rintro e w1' ⟨rfl,rfl⟩;go_wp2_with fail;refine (fZ _ _ _ hc hd).mono ?_;rintro e w2 ⟨rfl,hb2⟩;obtain ⟨hc2,hf2⟩:=jO hb2;have hz2:w.heap.size < w2.heap.size:=by have:=hb2.size; omega
    go_wp2_with (go_at_call 163; refine (CU _ _ hs).mono ?_; rintro e w3 ⟨rfl,rfl⟩)
    all_goals go_ret
    all_goals exact ⟨ah (HT.out.trans (by simp [uK, *])).symm,((TT _ _).alloc (TS _) _).trans ((hb1.mono (by simp)).trans (hb2.mono (by omega)))⟩
   have h3':eT c d=false:=by simpa using h3
   have HT:Hid (bI a b r c d s=false):=zM h3';clear h3;go_enter func108,ntmps108;go_wp2_with fail;refine (fZ _ _ _ ha hb).mono ?_;rintro e w1 ⟨rfl,hb1⟩;obtain ⟨hc1,hf1⟩:=jO hb1;have hz1:w.heap.size < w1.heap.size:=by have:=hb1.size; simp at this; omega
   go_wp2_with fail;refine (aL _ _ hr).mono ?_;rintro e w1' ⟨rfl,rfl⟩;go_wp2_with fail;refine (fZ _ _ _ hc hd).mono ?_;rintro e w2 ⟨rfl,hb2⟩;go_wp2;go_ret;exact ⟨ah HT.out.symm,((TT _ _).alloc (TS _) _).trans ((hb1.mono (by simp)).trans (hb2.mono (by omega)))⟩
  have h2':aP r=false:=by simpa using h2
  have HT:Hid (bI a b r c d s=false):=zL h2';clear h2;go_enter func108,ntmps108;go_wp2_with fail;refine (fZ _ _ _ ha hb).mono ?_;rintro e w1 ⟨rfl,hb1⟩;obtain ⟨hc1,hf1⟩:=jO hb1;go_wp2_with fail;refine (aL _ _ hr).mono ?_;rintro e w1' ⟨rfl,rfl⟩;go_wp2;go_ret;exact ⟨ah HT.out.symm,((TT _ _).alloc (TS _) _).trans (hb1.mono (by simp))⟩
 have h1':eT a b=false:=by simpa using h1
 have HT:Hid (bI a b r c d s=false):=zJ h1';clear h1;go_enter func108,ntmps108;go_wp2_with fail;refine (fZ _ _ _ ha hb).mono ?_;rintro e w1 ⟨rfl,hb1⟩;go_wp2;go_ret;exact ⟨ah HT.out.symm,((TT _ _).alloc (TS _) _).trans (hb1.mono (by simp))⟩
structure Tp where
 a:ByteArray
 b:ByteArray
 r:ByteArray
 c:ByteArray
 d:ByteArray
 s:ByteArray
def Tp.fits (t:Tp):Prop:=t.a.size≤maxLen∧t.b.size≤maxLen∧t.r.size≤maxLen∧t.c.size≤maxLen∧t.d.size≤maxLen∧t.s.size≤maxLen
def RA (w:World) (b off:Nat) (t:Tp):Prop :=
 w.cell? ⟨b,off,none⟩=some (.string t.a)∧w.cell? ⟨b,off + 1,none⟩=some (.string t.b)∧w.cell? ⟨b,off + 2,none⟩=some (.string t.r) ∧
 w.cell? ⟨b,off + 3,none⟩=some (.string t.c)∧w.cell? ⟨b,off + 4,none⟩=some (.string t.d)∧w.cell? ⟨b,off + 5,none⟩=some (.string t.s)
def kL (w:World) (b off:Nat) (ts:List Tp):Prop:=∀ (i:Nat) (h:i < ts.length),RA w b (off + i * 6) ts[i]
def Sl (w:World) (ad:Option Addr) (ts:List Tp):Prop:=ts=[] ∨ ∃ b off,ad=some ⟨b,off,none⟩∧b < w.heap.size∧kL w b off ts
theorem RA.same {w w':af} {b off:Nat} {t:Tp} (h:RA w b off t) (hc:∀ o,w'.cell? ⟨b,o,none⟩=w.cell? ⟨b,o,none⟩):RA w' b off t:=by
 obtain ⟨h0,h1,h2,h3,h4,h5⟩:=h;exact ⟨(hc _).trans h0,(hc _).trans h1,(hc _).trans h2,(hc _).trans h3,(hc _).trans h4,(hc _).trans h5⟩
theorem kL.below {w w':af} {b off B:Nat} {ts:List Tp} (h:kL w b off ts) (hB:Below B w w') (hb:b < B):kL w' b off ts :=
 fun i hi=>(h i hi).same fun o=>hB.cell (p:=⟨b,o,none⟩) hb
theorem Sl.below {w w':af} {ad:Option Addr} {ts:List Tp} (h:Sl w ad ts) (hB:ag w w'):Sl w' ad ts:=by
 rcases h with h | ⟨b,off,e,hb,hr⟩
 ·exact .inl h
 exact .inr ⟨b,off,e,TP hb hB.size,hr.below hB hb⟩
def Ah (w:World) (g o:Nat) (t:Tp):World :=
 (((((w.setCell ⟨g,o,none⟩ (.string t.a)).setCell ⟨g,o + 1,none⟩ (.string t.b)).setCell ⟨g,o + 2,none⟩ (.string t.r)).setCell ⟨g,o + 3,none⟩ (.string t.c)).setCell ⟨g,o + 4,none⟩ (.string t.d)).setCell ⟨g,o + 5,none⟩ (.string t.s)
theorem kM {w:af} {g i j:Nat} {v:Value} (h:i ≠ j):(w.setCell ⟨g,i,none⟩ v).cell? ⟨g,j,none⟩=w.cell? ⟨g,j,none⟩:=by
 apply World.cell?_setCell_other;intro e;exact h (congrArg Addr.off e)
theorem OB {w:af} {a:Addr} {v u:Value} (h:w.cell? a=some u):(w.setCell a v).cell? a=some v:=by
 apply World.cell?_setCell_same; exact h
theorem F9 (w:af) (g o:Nat) (t:Tp) (j:Nat) (h:j < o ∨ o + 6≤j):(Ah w g o t).cell? ⟨g,j,none⟩=w.cell? ⟨g,j,none⟩:=by
 unfold Ah;rw [kM (by omega),kM (by omega),kM (by omega),kM (by omega),kM (by omega),kM (by omega)]
theorem Kj {w:af} {g o:Nat} (t:Tp) (h:∀ j,j < 6→(w.cell? ⟨g,o + j,none⟩).isSome=true):RA (Ah w g o t) g o t:=by
 have e:∀ (W:World) (i j:Nat) (v:Value),(W.cell? ⟨g,o + j,none⟩).isSome=true→((W.setCell ⟨g,o + i,none⟩ v).cell? ⟨g,o + j,none⟩).isSome=true:=by
  intro W i j v hW;by_cases hij:i=j
  ·subst hij;obtain ⟨u,hu⟩:=Option.isSome_iff_exists.mp hW;rw [OB hu]; rfl
  rw [kM (by omega)]; exact hW
 have same:∀ (W:World) (j:Nat) (v:Value),(W.cell? ⟨g,o + j,none⟩).isSome=true→(W.setCell ⟨g,o + j,none⟩ v).cell? ⟨g,o + j,none⟩=some v:=by
  intro W j v hW;obtain ⟨u,hu⟩:=Option.isSome_iff_exists.mp hW;exact OB hu
 have h0:=h 0 (by omega);have h1:=h 1 (by omega);have h2:=h 2 (by omega);have h3:=h 3 (by omega);have h4:=h 4 (by omega);have h5:=h 5 (by omega);unfold Ah RA;refine ⟨?_,?_,?_,?_,?_,?_⟩
 ·rw [kM (by omega),kM (by omega),kM (by omega),kM (by omega),kM (by omega)];exact same _ 0 _ h0
 ·rw [kM (by omega),kM (by omega),kM (by omega),kM (by omega)];exact same _ 1 _ (e _ 0 1 _ h1)
 ·rw [kM (by omega),kM (by omega),kM (by omega)];exact same _ 2 _ (e _ 1 2 _ (e _ 0 2 _ h2))
 ·rw [kM (by omega),kM (by omega)];exact same _ 3 _ (e _ 2 3 _ (e _ 1 3 _ (e _ 0 3 _ h3)))
 ·rw [kM (by omega)];exact same _ 4 _ (e _ 3 4 _ (e _ 2 4 _ (e _ 1 4 _ (e _ 0 4 _ h4))))
 exact same _ 5 _ (e _ 4 5 _ (e _ 3 5 _ (e _ 2 5 _ (e _ 1 5 _ (e _ 0 5 _ h5)))))
theorem Ga (w:af) (g o:Nat) (t:Tp) (x:Addr):(Ah w g o t).frozen? x=w.frozen? x:=by simp [Ah]
theorem IZ {B:Nat} {w0 w:af} {g o:Nat} {t:Tp} (h:Below B w0 w) (hg:B≤g):Below B w0 (Ah w g o t):=by
 unfold Ah;exact (((((h.setCell (by exact hg) _).setCell (by exact hg) _).setCell (by exact hg) _).setCell (by exact hg) _).setCell (by exact hg) _).setCell (by exact hg) _
theorem LV (w:af) (g o:Nat) (t:Tp):(Ah w g o t).heap.size=w.heap.size:=by simp [Ah]
structure Filling (w wr:World) (g:Nat) (ts:List Tp) (k:Nat):Prop where
 below:ag w wr
 ge:w.heap.size≤g
 lt:g < wr.heap.size
 done:∀ (i:Nat) (h:i < ts.length),i < k→RA wr g (0 + i * 6) ts[i]
 there:∀ j,j < ts.length * 6→(wr.cell? ⟨g,j,none⟩).isSome=true
 free:∀ j,wr.frozen? ⟨g,j,none⟩=false
theorem Filling.later {w wr w1:af} {g:Nat} {ts:List Tp} {k:Nat} (h:Filling w wr g ts k) (hb:ag wr w1):Filling w w1 g ts k where
 below:=h.below.trans (hb.mono h.below.size)
 ge:=h.ge
 lt:=TP h.lt hb.size
 done i hi hk:=(h.done i hi hk).same fun o=>hb.cell (p:=⟨g,o,none⟩) h.lt
 there j hj:=by rw [hb.cell (p:=⟨g,j,none⟩) h.lt]; exact h.there j hj
 free j:=by rw [hb.frozen (p:=⟨g,j,none⟩) h.lt]; exact h.free j
theorem Filling.put {w wr:af} {g:Nat} {ts:List Tp} {k:Nat} (h:Filling w wr g ts k) (hk:k < ts.length):Filling w (Ah wr g (k * 6) ts[k]) g ts (k + 1) where
 below:=IZ h.below h.ge
 ge:=h.ge
 lt:=by rw [LV]; exact h.lt
 done i hi hik:=by
  by_cases e:i=k
  ·subst e;rw [Um];exact Kj _ (fun j hj=>h.there _ (by omega))
  obtain ⟨a0,a1,a2,a3,a4,a5⟩:=h.done i hi (by omega);refine ⟨?_,?_,?_,?_,?_,?_⟩ <;> (rw [F9 _ _ _ _ _ (by omega)]; assumption)
 there j hj:=by
  by_cases hin:j < k * 6 ∨ k * 6 + 6≤j
  ·rw [F9 _ _ _ _ _ hin]; exact h.there j hj
  obtain ⟨a0,a1,a2,a3,a4,a5⟩:=Kj (w:=wr) (g:=g) (o:=k * 6) ts[k] (fun j hj=>h.there _ (by omega));have hj6:j=k * 6 ∨ j=k * 6 + 1 ∨ j=k * 6 + 2 ∨ j=k * 6 + 3 ∨ j=k * 6 + 4 ∨ j=k * 6 + 5:=by omega
  rcases hj6 with e | e | e | e | e | e
  ·rw [e,a0]; rfl
  ·rw [e,a1]; rfl
  ·rw [e,a2]; rfl
  ·rw [e,a3]; rfl
  ·rw [e,a4]; rfl
  rw [e,a5]; rfl
 free j:=by rw [Ga]; exact h.free j
theorem Filling.row {w w':af} {g:Nat} {ts:List Tp} (h:Filling w w' g ts ts.length):kL w' g 0 ts:=fun i hi=>h.done i hi hi
theorem Filling.sl {w w':af} {g:Nat} {ts:List Tp} (h:Filling w w' g ts ts.length):Sl w' (some ⟨g,0,none⟩) ts:=.inr ⟨g,0,rfl,h.lt,h.row⟩
end Go.Proofs.YtajkkeikihhejaaGreat
namespace Go.Proofs.YtajkkeikihhejaaGreat
open Go.ChangeShapes Go.WideShapes Go.ChangeAt Go.RowKit
open Pl
attribute [local go_sem ↓] Go.wp_at_zero Go.wp_at_succ
theorem RB {w W w':af} {n:Nat} {x0 x1 x2 x3 x4 x5:Value} (h:W.cell? ⟨n,0,none⟩=some x0∧W.cell? ⟨n,1,none⟩=some x1∧W.cell? ⟨n,2,none⟩=some x2∧W.cell? ⟨n,3,none⟩=some x3∧W.cell? ⟨n,4,none⟩=some x4∧W.cell? ⟨n,5,none⟩=some x5∧n < W.heap.size∧Below n w W) (hb:ag W w'):w'.cell? ⟨n,0,none⟩=some x0∧w'.cell? ⟨n,1,none⟩=some x1∧w'.cell? ⟨n,2,none⟩=some x2∧w'.cell? ⟨n,3,none⟩=some x3∧w'.cell? ⟨n,4,none⟩=some x4∧w'.cell? ⟨n,5,none⟩=some x5∧n < w'.heap.size∧Below n w w':=by
 obtain ⟨h0,h1,h2,h3,h4,h5,hn,hB⟩:=h;have hc:∀ o,w'.cell? ⟨n,o,none⟩=W.cell? ⟨n,o,none⟩:=fun o=>hb.cell (p:=⟨n,o,none⟩) hn;refine ⟨by rw [hc]; exact h0,by rw [hc]; exact h1,by rw [hc]; exact h2,by rw [hc]; exact h3,by rw [hc]; exact h4,by rw [hc]; exact h5,TP hn hb.size,hB.trans (hb.mono (Nat.le_of_lt hn))⟩
theorem yt (a b r c d s:bH) (w:af) (ha:a.size≤maxLen) (hb:b.size≤maxLen) (hr:r.size≤maxLen) (hc:c.size≤maxLen) (hd:d.size≤maxLen) (hs:s.size≤maxLen) :
  Calls prog 195 #[.agg #[.string a,.string b,.string r,.string c,.string d,.string s]] w fun e w'=>e=.returned (.string (aX a b r c d s))∧ag w w':=by
 by_cases hn:bI a b r c d s=true
 ·obtain ⟨h1,h2,h3,h4⟩:=jU hn;have hx:=iD a b;have hy:=iD c d;have VE:=(nW h2).2;have hs12:=Ep h4;clear h1 h2 h3 h4;go_enter func195,ntmps195;go_wp2_with fail;refine (dY _ _ _ _ _ _ _ ha hb hr hc hd hs).mono ?_;rintro e w1 ⟨rfl,hb1⟩;obtain ⟨hc1,hf1⟩:=jO hb1;have hz1:w.heap.size < w1.heap.size:=by have:=hb1.size; simp at this; omega
  have k:∀ o v,(w.alloc (.cells #[.string a,.string b,.string r,.string c,.string d,.string s] 46)).cell? ⟨w.heap.size,o,none⟩=some v→w1.cell? ⟨w.heap.size,o,none⟩=some v:=fun o v h=>by rw [hc1 _ _ (by simp)]; exact h
  have k0:=k 0 (.string a) (by simp);have k1:=k 1 (.string b) (by simp);have k2:=k 2 (.string r) (by simp);have k3:=k 3 (.string c) (by simp);have k4:=k 4 (.string d) (by simp);have k5:=k 5 (.string s) (by simp);have HB1:ag w w1:=((TT _ _).alloc (TS _) _).trans (hb1.mono (by simp));clear k hb1 hc1 hf1;have q1:(9223372036854775807 < (aB a b).size + 1)=False:=by simp; omega
  have q2:(9223372036854775807 < (aB a b).size + 1 + r.size)=False:=by simp; omega
  have q3:(9223372036854775807 < (aB a b).size + 1 + r.size + 1)=False:=by simp; omega
  have q4:(9223372036854775807 < (aB a b).size + 1 + r.size + 1 + (aB c d).size)=False:=by simp; omega
  go_wp2_with fail
  go_region_held3 (fun w'=>w'.cell? ⟨w.heap.size,0,none⟩=some (.string a)∧w'.cell? ⟨w.heap.size,1,none⟩=some (.string b)∧w'.cell? ⟨w.heap.size,2,none⟩=some (.string r)∧w'.cell? ⟨w.heap.size,3,none⟩=some (.string c)∧w'.cell? ⟨w.heap.size,4,none⟩=some (.string d)∧w'.cell? ⟨w.heap.size,5,none⟩=some (.string s)∧w.heap.size < w'.heap.size∧ag w w')
   (first | exact RB (by assumption) hbx | exact ⟨k0,k1,k2,k3,k4,k5,hz1,HB1.drew⟩)
   (first | (go_at_call 225; refine (yn _ _ _ (by assumption) (by assumption)).mono ?_; rintro e w' ⟨rfl,hbx⟩))
  rename_i hH;obtain ⟨g0,g1,g2,g3,g4,g5,gz,gB⟩:=hH;clear k0 k1 k2 k3 k4 k5 hbx q1 q2 q3 q4 HB1;by_cases he:s.toList.isEmpty=true
  ·have HT:Hid (aX a b r c d s=_):=mQ hn he;go_wp2;go_ret;exact ⟨gu HT.out.symm,gB⟩
  have he':s.toList.isEmpty=false:=by simpa using he
  have HT:Hid (aX a b r c d s=_):=mR hn he';clear he;go_wp2;go_ret;exact ⟨gu HT.out.symm,gB⟩
 have hn':bI a b r c d s=false:=by simpa using hn
 have HT:Hid (aX a b r c d s=⟨#[]⟩):=tC hn';clear hn;go_enter func195,ntmps195;go_wp2_with fail;refine (dY _ _ _ _ _ _ _ ha hb hr hc hd hs).mono ?_;rintro e w1 ⟨rfl,hb1⟩;go_wp2;go_ret;exact ⟨gu HT.out.symm,((TT _ _).alloc (TS _) _).trans (hb1.mono (by simp))⟩
theorem yu (a b r c d s:bH) (w:af) (ha:a.size≤maxLen) (hb:b.size≤maxLen) (hr:r.size≤maxLen) (hc:c.size≤maxLen) (hd:d.size≤maxLen) (hs:s.size≤maxLen) :
  Calls prog 160 #[.agg #[.string a,.string b,.string r,.string c,.string d,.string s]] w fun e w'=>e=.returned (.string (aX a b r c d s))∧ag w w':=by
 by_cases hn:bI a b r c d s=true
 ·obtain ⟨h1,h2,h3,h4⟩:=jU hn;have hx:=iD a b;have hy:=iD c d;have VE:=(nW h2).2;have hs12:=Ep h4;clear h1 h2 h3 h4;go_enter func160,ntmps160;go_wp2_with fail;refine (gm _ _ _ _ _ _ _ ha hb hr hc hd hs).mono ?_;rintro e w1 ⟨rfl,hb1⟩;obtain ⟨hc1,hf1⟩:=jO hb1;have hz1:w.heap.size < w1.heap.size:=by have:=hb1.size; simp at this; omega
  have k:∀ o v,(w.alloc (.cells #[.string a,.string b,.string r,.string c,.string d,.string s] 46)).cell? ⟨w.heap.size,o,none⟩=some v→w1.cell? ⟨w.heap.size,o,none⟩=some v:=fun o v h=>by rw [hc1 _ _ (by simp)]; exact h
  have k0:=k 0 (.string a) (by simp);have k1:=k 1 (.string b) (by simp);have k2:=k 2 (.string r) (by simp);have k3:=k 3 (.string c) (by simp);have k4:=k 4 (.string d) (by simp);have k5:=k 5 (.string s) (by simp);have HB1:ag w w1:=((TT _ _).alloc (TS _) _).trans (hb1.mono (by simp));clear k hb1 hc1 hf1;have q1:(9223372036854775807 < (aB a b).size + 1)=False:=by simp; omega
  have q2:(9223372036854775807 < (aB a b).size + 1 + r.size)=False:=by simp; omega
  have q3:(9223372036854775807 < (aB a b).size + 1 + r.size + 1)=False:=by simp; omega
  have q4:(9223372036854775807 < (aB a b).size + 1 + r.size + 1 + (aB c d).size)=False:=by simp; omega
  go_wp2_with fail
  go_region_held3 (fun w'=>w'.cell? ⟨w.heap.size,0,none⟩=some (.string a)∧w'.cell? ⟨w.heap.size,1,none⟩=some (.string b)∧w'.cell? ⟨w.heap.size,2,none⟩=some (.string r)∧w'.cell? ⟨w.heap.size,3,none⟩=some (.string c)∧w'.cell? ⟨w.heap.size,4,none⟩=some (.string d)∧w'.cell? ⟨w.heap.size,5,none⟩=some (.string s)∧w.heap.size < w'.heap.size∧ag w w')
   (first | exact RB (by assumption) hbx | exact ⟨k0,k1,k2,k3,k4,k5,hz1,HB1.drew⟩)
   (first | (go_at_call 207; refine (yo _ _ _ (by assumption) (by assumption)).mono ?_; rintro e w' ⟨rfl,hbx⟩))
  rename_i hH;obtain ⟨g0,g1,g2,g3,g4,g5,gz,gB⟩:=hH;clear k0 k1 k2 k3 k4 k5 hbx q1 q2 q3 q4 HB1;by_cases he:s.toList.isEmpty=true
  ·have HT:Hid (aX a b r c d s=_):=mQ hn he;go_wp2;go_ret;exact ⟨gu HT.out.symm,gB⟩
  have he':s.toList.isEmpty=false:=by simpa using he
  have HT:Hid (aX a b r c d s=_):=mR hn he';clear he;go_wp2;go_ret;exact ⟨gu (HT.out.trans (by simp only [ByteArray.append_assoc])).symm,gB⟩
 have hn':bI a b r c d s=false:=by simpa using hn
 have HT:Hid (aX a b r c d s=⟨#[]⟩):=tC hn';clear hn;go_enter func160,ntmps160;go_wp2_with fail;refine (gm _ _ _ _ _ _ _ ha hb hr hc hd hs).mono ?_;rintro e w1 ⟨rfl,hb1⟩;go_wp2;go_ret;exact ⟨gu HT.out.symm,((TT _ _).alloc (TS _) _).trans (hb1.mono (by simp))⟩
end Go.Proofs.YtajkkeikihhejaaGreat
