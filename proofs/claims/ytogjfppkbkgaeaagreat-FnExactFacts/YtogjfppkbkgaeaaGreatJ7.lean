/- Contracts of the functions that look at tuples: each returns what the plain function says, and nothing that was in memory has changed. -/
import Derived.Test.YtogjfppkbkgaeaaGreatJ6
import Derived.Test.YtogjfppkbkgaeaaGreatJ1
import Derived.Test.YtogjfppkbkgaeaaGreatJ5
import Derived.Test.YtogjfppkbkgaeaaGreatRows
import Derived.Below
import Derived.WalkKit
import Derived.WalkLawsBesides
import Derived.ProofKit
import Derived.Laws.IdiomStrings
namespace Go.Proofs.YtogjfppkbkgaeaaGreat
open Go.ChangeShapes Go.WideShapes Go.ChangeAt Go.RowKit
open Pl
theorem yD (s:ByteArray) (w:World) (hs:s.size≤maxLen) :
  Calls Tryz.prog 136 #[.string s] w fun e w'=>e=.returned (.bool (pR s))∧w'=w:=by
 go_enter Tryz.func136,Tryz.ntmps136;go_wp2_with (go_at_call 127; refine (aj _ _ hs).mono ?_; rintro e w' ⟨rfl,rfl⟩)
 all_goals go_ret
 all_goals exact ⟨ae (by simp [pR, *]),rfl⟩
theorem bv (a b r c d s:ByteArray) (w:World) (ha:a.size≤maxLen) (hb:b.size≤maxLen) (hr:r.size≤maxLen) (hc:c.size≤maxLen) (hd:d.size≤maxLen) (hs:s.size≤maxLen) :
  Calls Tryz.prog 80 #[.agg #[.string a,.string b,.string r,.string c,.string d,.string s]] w fun e w'=>e=.returned (.bool (aU a b r c d s))∧Below w.heap.size w w':=by
 by_cases h1:dC a b=true
 ·by_cases h2:aL r=true
  ·by_cases h3:dC c d=true
   ·have HT:Hid (aU a b r c d s=pR s):=vw h1 h2 h3;go_enter Tryz.func80,Tryz.ntmps80;go_wp2_with fail;refine (dX _ _ _ ha hb).mono ?_;rintro e w1 ⟨rfl,hb1⟩;obtain ⟨hc1,hf1⟩:=dW hb1;have hz1:w.heap.size < w1.heap.size:=by have:=hb1.size; simp at this; omega
    go_wp2_with fail;refine (az _ _ hr).mono ?_;rintro e w1' ⟨rfl,rfl⟩;go_wp2_with fail;refine (dX _ _ _ hc hd).mono ?_;rintro e w2 ⟨rfl,hb2⟩;obtain ⟨hc2,hf2⟩:=dW hb2;have hz2:w.heap.size < w2.heap.size:=by have:=hb2.size; omega
    go_wp2_with (go_at_call 77; refine (az _ _ hs).mono ?_; rintro e w3 ⟨rfl,rfl⟩)
    all_goals go_ret
    all_goals exact ⟨ae (HT.out.trans (by simp [pR, *])).symm,((Below.refl _ _).alloc (Nat.le_refl _) _).trans ((hb1.mono (by simp)).trans (hb2.mono (by omega)))⟩
   ·have h3':dC c d=false:=by simpa using h3
    have HT:Hid (aU a b r c d s=false):=vv h3';clear h3;go_enter Tryz.func80,Tryz.ntmps80;go_wp2_with fail;refine (dX _ _ _ ha hb).mono ?_;rintro e w1 ⟨rfl,hb1⟩;obtain ⟨hc1,hf1⟩:=dW hb1;have hz1:w.heap.size < w1.heap.size:=by have:=hb1.size; simp at this; omega
    go_wp2_with fail;refine (az _ _ hr).mono ?_;rintro e w1' ⟨rfl,rfl⟩;go_wp2_with fail;refine (dX _ _ _ hc hd).mono ?_;rintro e w2 ⟨rfl,hb2⟩;go_wp2;go_ret;exact ⟨ae HT.out.symm,((Below.refl _ _).alloc (Nat.le_refl _) _).trans ((hb1.mono (by simp)).trans (hb2.mono (by omega)))⟩
  ·have h2':aL r=false:=by simpa using h2
   have HT:Hid (aU a b r c d s=false):=vk h2';clear h2;go_enter Tryz.func80,Tryz.ntmps80;go_wp2_with fail;refine (dX _ _ _ ha hb).mono ?_;rintro e w1 ⟨rfl,hb1⟩;obtain ⟨hc1,hf1⟩:=dW hb1;go_wp2_with fail;refine (az _ _ hr).mono ?_;rintro e w1' ⟨rfl,rfl⟩;go_wp2;go_ret;exact ⟨ae HT.out.symm,((Below.refl _ _).alloc (Nat.le_refl _) _).trans (hb1.mono (by simp))⟩
 ·have h1':dC a b=false:=by simpa using h1
  have HT:Hid (aU a b r c d s=false):=vg h1';clear h1;go_enter Tryz.func80,Tryz.ntmps80;go_wp2_with fail;refine (dX _ _ _ ha hb).mono ?_;rintro e w1 ⟨rfl,hb1⟩;go_wp2;go_ret;exact ⟨ae HT.out.symm,((Below.refl _ _).alloc (Nat.le_refl _) _).trans (hb1.mono (by simp))⟩
theorem bW (a b r c d s:ByteArray) (w:World) (ha:a.size≤maxLen) (hb:b.size≤maxLen) (hr:r.size≤maxLen) (hc:c.size≤maxLen) (hd:d.size≤maxLen) (hs:s.size≤maxLen) :
  Calls Tryz.prog 91 #[.agg #[.string a,.string b,.string r,.string c,.string d,.string s]] w fun e w'=>e=.returned (.bool (aU a b r c d s))∧Below w.heap.size w w':=by
 by_cases h1:dC a b=true
 ·by_cases h2:aL r=true
  ·by_cases h3:dC c d=true
   ·have HT:Hid (aU a b r c d s=pR s):=vw h1 h2 h3;go_enter Tryz.func91,Tryz.ntmps91;go_wp2_with fail;refine (dY _ _ _ ha hb).mono ?_;rintro e w1 ⟨rfl,hb1⟩;obtain ⟨hc1,hf1⟩:=dW hb1;have hz1:w.heap.size < w1.heap.size:=by have:=hb1.size; simp at this; omega
    go_wp2_with fail;refine (aj _ _ hr).mono ?_;rintro e w1' ⟨rfl,rfl⟩;go_wp2_with fail;refine (dY _ _ _ hc hd).mono ?_;rintro e w2 ⟨rfl,hb2⟩;obtain ⟨hc2,hf2⟩:=dW hb2;have hz2:w.heap.size < w2.heap.size:=by have:=hb2.size; omega
    go_wp2_with (go_at_call 136; refine (yD _ _ hs).mono ?_; rintro e w3 ⟨rfl,rfl⟩)
    all_goals go_ret
    all_goals exact ⟨ae (HT.out.trans (by simp [pR, *])).symm,((Below.refl _ _).alloc (Nat.le_refl _) _).trans ((hb1.mono (by simp)).trans (hb2.mono (by omega)))⟩
   ·have h3':dC c d=false:=by simpa using h3
    have HT:Hid (aU a b r c d s=false):=vv h3';clear h3;go_enter Tryz.func91,Tryz.ntmps91;go_wp2_with fail;refine (dY _ _ _ ha hb).mono ?_;rintro e w1 ⟨rfl,hb1⟩;obtain ⟨hc1,hf1⟩:=dW hb1;have hz1:w.heap.size < w1.heap.size:=by have:=hb1.size; simp at this; omega
    go_wp2_with fail;refine (aj _ _ hr).mono ?_;rintro e w1' ⟨rfl,rfl⟩;go_wp2_with fail;refine (dY _ _ _ hc hd).mono ?_;rintro e w2 ⟨rfl,hb2⟩;go_wp2;go_ret;exact ⟨ae HT.out.symm,((Below.refl _ _).alloc (Nat.le_refl _) _).trans ((hb1.mono (by simp)).trans (hb2.mono (by omega)))⟩
  ·have h2':aL r=false:=by simpa using h2
   have HT:Hid (aU a b r c d s=false):=vk h2';clear h2;go_enter Tryz.func91,Tryz.ntmps91;go_wp2_with fail;refine (dY _ _ _ ha hb).mono ?_;rintro e w1 ⟨rfl,hb1⟩;obtain ⟨hc1,hf1⟩:=dW hb1;go_wp2_with fail;refine (aj _ _ hr).mono ?_;rintro e w1' ⟨rfl,rfl⟩;go_wp2;go_ret;exact ⟨ae HT.out.symm,((Below.refl _ _).alloc (Nat.le_refl _) _).trans (hb1.mono (by simp))⟩
 ·have h1':dC a b=false:=by simpa using h1
  have HT:Hid (aU a b r c d s=false):=vg h1';clear h1;go_enter Tryz.func91,Tryz.ntmps91;go_wp2_with fail;refine (dY _ _ _ ha hb).mono ?_;rintro e w1 ⟨rfl,hb1⟩;go_wp2;go_ret;exact ⟨ae HT.out.symm,((Below.refl _ _).alloc (Nat.le_refl _) _).trans (hb1.mono (by simp))⟩
def fP (t i:ByteArray) (left:Int):Int:=if left - t.size < 0 then -1 else if left - t.size - i.size < 0 then -1 else left - t.size - i.size
theorem nk {k:IntKind} {a b:Int} (h:a=b):Ending.returned (.int k a)=.returned (.int k b):=by rw [h]
theorem pU (t i:ByteArray) (left:Int) (w:World) (ht:t.size≤maxLen) (hi:i.size≤maxLen) (h0:0≤left) (h1:left≤1048576) :
  Calls Tryz.prog 24 #[.agg #[.string t,.string i],.int .i64 left] w fun e w'=>e=.returned (.int .i64 (fP t i left))∧Below w.heap.size w w':=by
 unfold maxLen at ht hi;go_enter Tryz.func24,Tryz.ntmps24;go_wp2
 all_goals go_ret
 all_goals refine ⟨nk ?_,(Below.refl _ _).alloc (Nat.le_refl _) _⟩
 all_goals unfold fP
 all_goals first | rw [if_pos (by omega)] | (rw [if_neg (by omega)]; first | rw [if_pos (by omega)] | rw [if_neg (by omega)])
theorem pV (t i:ByteArray) (w:World) :
  Calls Tryz.prog 26 #[.agg #[.string t,.string i]] w fun e w'=>e=.returned (.agg #[.string t,.string i])∧Below w.heap.size w w':=by
 go_enter Tryz.func26,Tryz.ntmps26;go_wp2;exact bodyPost_ret (v:=.agg #[.string t,.string i]) (by simp [results,Tryz.results26,go_sem]) rfl ⟨rfl,by
  repeat (first | exact Below.refl _ _ | refine Below.setCell ?_ (by first | (simp; done) | (simp; omega)) _ | refine Below.alloc ?_ (by first | (simp; done) | (simp; omega)) _)⟩
theorem pW (t i:ByteArray) (left:Int):fP t i left≤left ∨ fP t i left=-1:=by
 unfold fP; split
 ·exact .inr rfl
 ·split
  ·exact .inr rfl
  ·exact .inl (by omega)
def nR (a b r c d s:ByteArray) (left:Int):Int :=
 if fP a b left < 0 then -1 else if fP a b left - r.size < 0 then -1
 else if fP c d (fP a b left - r.size) < 0 then -1 else if fP c d (fP a b left - r.size) - s.size < 0 then -1
 else fP c d (fP a b left - r.size) - s.size
theorem IU (a b r c d s:ByteArray) (left:Int):nR a b r c d s left≤left ∨ nR a b r c d s left=-1:=by
 unfold nR;split
 ·exact .inr rfl
 split
 ·exact .inr rfl
 split
 ·exact .inr rfl
 split
 ·exact .inr rfl
 ·refine .inl ?_;have h1:=pW a b left;have h2:=pW c d (fP a b left - r.size);omega
theorem Bt (a b r c d s:ByteArray) (left:Int) (w:World) (ha:a.size≤maxLen) (hb:b.size≤maxLen) (hr:r.size≤maxLen) (hc:c.size≤maxLen) (hd:d.size≤maxLen) (hs:s.size≤maxLen) (h0:0≤left) (h1:left≤1048576) :
  Calls Tryz.prog 34 #[.agg #[.string a,.string b,.string r,.string c,.string d,.string s],.int .i64 left] w fun e w'=>e=.returned (.int .i64 (nR a b r c d s left))∧Below w.heap.size w w':=by
 have hr':=hr;have hs':=hs;unfold maxLen at hr' hs';have e1:=pW a b left;have e2:=pW c d (fP a b left - r.size);go_enter Tryz.func34,Tryz.ntmps34;go_wp2_with fail;refine (pU _ _ _ _ ha hb h0 h1).mono ?_;rintro e w1 ⟨rfl,hb1⟩;obtain ⟨hc1,hf1⟩:=dW hb1;have hz1:w.heap.size < w1.heap.size:=by have:=hb1.size; simp at this; omega
 have HB1:Below w.heap.size w w1:=((Below.refl _ _).alloc (Nat.le_refl _) _).trans (hb1.mono (by simp));by_cases n1:fP a b left < 0
 ·go_wp2;go_ret;exact ⟨nk (by rw [nR,if_pos (by omega)]),HB1⟩
 by_cases n2:fP a b left - r.size < 0
 ·go_wp2;go_ret;exact ⟨nk (by rw [nR,if_neg (by omega),if_pos (by omega)]),HB1⟩
 go_wp2_with fail;refine (pU _ _ _ _ hc hd (by omega) (by omega)).mono ?_;rintro e w2 ⟨rfl,hb2⟩;obtain ⟨hc2,hf2⟩:=dW hb2;have hz2:w.heap.size < w2.heap.size:=by have:=hb2.size; omega
 by_cases n3:fP c d (fP a b left - r.size) < 0
 ·go_wp2;go_ret;exact ⟨nk (by rw [nR,if_neg (by omega),if_neg (by omega),if_pos (by omega)]),HB1.trans (hb2.mono (by omega))⟩
 by_cases n4:fP c d (fP a b left - r.size) - s.size < 0
 ·go_wp2;go_ret;exact ⟨nk (by rw [nR,if_neg (by omega),if_neg (by omega),if_neg (by omega),if_pos (by omega)]),HB1.trans (hb2.mono (by omega))⟩
 go_wp2;go_ret;exact ⟨nk (by rw [nR,if_neg (by omega),if_neg (by omega),if_neg (by omega),if_neg (by omega)]),HB1.trans (hb2.mono (by omega))⟩
set_option maxHeartbeats 400000 in
theorem Bu (a b r c d s:ByteArray) (w:World) :
  Calls Tryz.prog 39 #[.agg #[.string a,.string b,.string r,.string c,.string d,.string s]] w fun e w'=>e=.returned (.agg #[.string a,.string b,.string r,.string c,.string d,.string s])∧Below w.heap.size w w':=by
 go_enter Tryz.func39,Tryz.ntmps39;go_wp2_with fail;refine (pV _ _ _).mono ?_;rintro e w1 ⟨rfl,hb1⟩;obtain ⟨hc1,hf1⟩:=dW hb1;have hz1:w.heap.size + 1 + 1 < w1.heap.size:=by have:=hb1.size; simp at this; omega
 have hy1:w.heap.size + 1 < w1.heap.size:=by omega
 have hx1:w.heap.size < w1.heap.size:=by omega
 go_wp2_with fail;refine (pV _ _ _).mono ?_;rintro e w2 ⟨rfl,hb2⟩;obtain ⟨hc2,hf2⟩:=dW hb2;have hz2:w.heap.size + 1 + 1 < w2.heap.size:=by have:=hb2.size; simp at this; omega
 have hy2:w.heap.size + 1 < w2.heap.size:=by omega
 have hx2:w.heap.size < w2.heap.size:=by omega
 have HB1:Below w.heap.size w w1:=Below.trans (by
  repeat (first | exact Below.refl _ _ | refine Below.setCell ?_ (by first | (simp; done) | (simp; omega)) _ | refine Below.alloc ?_ (by first | (simp; done) | (simp; omega)) _)) (hb1.mono (by simp; omega))
 have HB2:Below w.heap.size w w2:=Below.trans (by
  repeat (first | refine Below.setCell ?_ (by first | (simp; done) | (simp; omega)) _ | with_reducible exact HB1)) (hb2.mono (by simp; omega))
 clear hb1 hb2;go_wp2;exact bodyPost_ret (v:=.agg #[.string a,.string b,.string r,.string c,.string d,.string s]) (by simp [results,Tryz.results39,go_sem, *]) rfl ⟨rfl,by
  repeat (first | refine Below.setCell ?_ (by first | (simp; done) | (simp; omega)) _ | with_reducible exact HB2)⟩
structure Tp where
 a:ByteArray
 b:ByteArray
 r:ByteArray
 c:ByteArray
 d:ByteArray
 s:ByteArray
def Tp.fits (t:Tp):Prop:=t.a.size≤maxLen∧t.b.size≤maxLen∧t.r.size≤maxLen∧t.c.size≤maxLen∧t.d.size≤maxLen∧t.s.size≤maxLen
def IV (w:World) (b off:Nat) (t:Tp):Prop :=
 w.cell? ⟨b,off,none⟩=some (.string t.a)∧w.cell? ⟨b,off + 1,none⟩=some (.string t.b)∧w.cell? ⟨b,off + 2,none⟩=some (.string t.r) ∧
 w.cell? ⟨b,off + 3,none⟩=some (.string t.c)∧w.cell? ⟨b,off + 4,none⟩=some (.string t.d)∧w.cell? ⟨b,off + 5,none⟩=some (.string t.s)
def vB (w:World) (b off:Nat) (ts:List Tp):Prop:=∀ (i:Nat) (h:i < ts.length),IV w b (off + i * 6) ts[i]
def Sl (w:World) (ad:Option Addr) (ts:List Tp):Prop:=ts=[] ∨ ∃ b off,ad=some ⟨b,off,none⟩∧b < w.heap.size∧vB w b off ts
theorem IV.same {w w':World} {b off:Nat} {t:Tp} (h:IV w b off t) (hc:∀ o,w'.cell? ⟨b,o,none⟩=w.cell? ⟨b,o,none⟩):IV w' b off t:=by
 obtain ⟨h0,h1,h2,h3,h4,h5⟩:=h;exact ⟨(hc _).trans h0,(hc _).trans h1,(hc _).trans h2,(hc _).trans h3,(hc _).trans h4,(hc _).trans h5⟩
theorem vB.below {w w':World} {b off B:Nat} {ts:List Tp} (h:vB w b off ts) (hB:Below B w w') (hb:b < B):vB w' b off ts :=
 fun i hi=>(h i hi).same fun o=>hB.cell (p:=⟨b,o,none⟩) hb
theorem Sl.below {w w':World} {ad:Option Addr} {ts:List Tp} (h:Sl w ad ts) (hB:Below w.heap.size w w'):Sl w' ad ts:=by
 rcases h with h | ⟨b,off,e,hb,hr⟩
 ·exact .inl h
 ·exact .inr ⟨b,off,e,Nat.lt_of_lt_of_le hb hB.size,hr.below hB hb⟩
set_option maxHeartbeats 400000 in
theorem zL (b off cap:Nat) (ts:List Tp) (left:Int) (w:World) (hlen:ts.length≤maxLen) (hr:vB w b off ts) (hb:b < w.heap.size) (hf:∀ t ∈ ts,t.fits) (h0:0≤left) (h1:left≤1048576) :
  Calls Tryz.prog 8 #[.slice (some ⟨b,off,none⟩) ts.length cap,.int .i64 left] w fun e w'=>(∃ n:Int,e=.returned (.int .i64 n)∧(n=-1 ∨ 0≤n∧n≤left∧ts.length≤left))∧Below w.heap.size w w':=by
 unfold maxLen at hlen;by_cases hneg:left - ts.length < 0
 ·go_enter Tryz.func8,Tryz.ntmps8;go_wp2;go_ret;exact ⟨⟨-1,rfl,.inl rfl⟩,Below.refl _ _⟩
 ·go_enter Tryz.func8,Tryz.ntmps8;go_wp2;go_loopw [1,5] (fun l i wr=>∃ (k:Nat) (x:Int),k≤ts.length∧i=.int .i64 k∧l=.int .i64 x∧0≤x∧x≤left∧Below w.heap.size w wr) (fun _ i _=>ts.length - (intOf i).toNat);case atStart=>exact ⟨0,_,Nat.zero_le _,rfl,rfl,by omega,by omega,Below.refl _ _⟩
  case round =>
   obtain ⟨k,x,hk,rfl,rfl,hx0,hx1,hB⟩:=hrel;by_cases hlt:k < ts.length
   ·obtain ⟨t0,t1,t2,t3,t4,t5⟩:=(hr.below hB hb) k hlt;obtain ⟨f0,f1,f2,f3,f4,f5⟩:=hf ts[k] (List.getElem_mem hlt);have hle:=IU ts[k].a ts[k].b ts[k].r ts[k].c ts[k].d ts[k].s x;go_wp2_with fail;refine (Bt _ _ _ _ _ _ _ _ f0 f1 f2 f3 f4 f5 hx0 (by omega)).mono ?_;rintro e w1 ⟨rfl,hb1⟩;by_cases hn:nR ts[k].a ts[k].b ts[k].r ts[k].c ts[k].d ts[k].s x < 0
    ·go_wp2;go_ret;exact ⟨⟨-1,rfl,.inl rfl⟩,hB.trans (hb1.mono hB.size)⟩
    ·go_wp2;go_roundw;case rel=>exact ⟨k + 1,_,by omega,by go_num,rfl,by omega,by omega,hB.trans (hb1.mono hB.size)⟩
     case measure=>simp [intOf]; omega
   ·go_wp2;go_ret;exact ⟨⟨x,rfl,.inr ⟨hx0,hx1,by omega⟩⟩,hB⟩
theorem zM (ad:Option Addr) (cap:Nat) (left:Int) (w:World) (h0:0≤left) (h1:left≤1048576) :
  Calls Tryz.prog 8 #[.slice ad 0 cap,.int .i64 left] w fun e w'=>(∃ n:Int,e=.returned (.int .i64 n)∧(n=-1 ∨ 0≤n∧n≤left∧(0:Nat)≤left))∧Below w.heap.size w w':=by
 go_enter Tryz.func8,Tryz.ntmps8;go_wp2;go_loopw [1,5] (fun l i wr=>∃ x:Int,l=.int .i64 x∧i=.int .i64 0∧0≤x∧x≤left∧Below w.heap.size w wr) (fun _ i _=>(intOf i).toNat);case atStart=>exact ⟨_,rfl,rfl,by omega,by omega,Below.refl _ _⟩
 case round =>
  obtain ⟨x,rfl,rfl,hx0,hx1,hB⟩:=hrel;go_wp2;go_ret;exact ⟨⟨x,rfl,.inr ⟨hx0,hx1,by omega⟩⟩,hB⟩
theorem zP (ad:Option Addr) (cap:Nat) (ts:List Tp) (left:Int) (w:World) (hlen:ts.length≤maxLen) (hs:Sl w ad ts) (hf:∀ t ∈ ts,t.fits) (h0:0≤left) (h1:left≤1048576) :
  Calls Tryz.prog 8 #[.slice ad ts.length cap,.int .i64 left] w fun e w'=>(∃ n:Int,e=.returned (.int .i64 n)∧(n=-1 ∨ 0≤n∧n≤left∧ts.length≤left))∧Below w.heap.size w w':=by
 rcases hs with rfl | ⟨b,off,rfl,hb,hr⟩
 ·exact zM ad cap left w h0 h1
 ·exact zL b off cap ts left w hlen hr hb hf h0 h1
def vC (w:World) (g o:Nat) (t:Tp):World :=
 (((((w.setCell ⟨g,o,none⟩ (.string t.a)).setCell ⟨g,o + 1,none⟩ (.string t.b)).setCell ⟨g,o + 2,none⟩ (.string t.r)).setCell ⟨g,o + 3,none⟩ (.string t.c)).setCell ⟨g,o + 4,none⟩ (.string t.d)).setCell ⟨g,o + 5,none⟩ (.string t.s)
theorem iW {w:World} {g i j:Nat} {v:Value} (h:i ≠ j):(w.setCell ⟨g,i,none⟩ v).cell? ⟨g,j,none⟩=w.cell? ⟨g,j,none⟩:=by
 apply World.cell?_setCell_other;intro e;exact h (congrArg Addr.off e)
theorem IW {w:World} {a:Addr} {v u:Value} (h:w.cell? a=some u):(w.setCell a v).cell? a=some v:=by
 apply World.cell?_setCell_same; exact h
theorem Bv (w:World) (g o:Nat) (t:Tp) (j:Nat) (h:j < o ∨ o + 6≤j):(vC w g o t).cell? ⟨g,j,none⟩=w.cell? ⟨g,j,none⟩:=by
 unfold vC;rw [iW (by omega),iW (by omega),iW (by omega),iW (by omega),iW (by omega),iW (by omega)]
theorem Fu {w:World} {g o:Nat} (t:Tp) (h:∀ j,j < 6→(w.cell? ⟨g,o + j,none⟩).isSome=true):IV (vC w g o t) g o t:=by
 have e:∀ (W:World) (i j:Nat) (v:Value),(W.cell? ⟨g,o + j,none⟩).isSome=true→((W.setCell ⟨g,o + i,none⟩ v).cell? ⟨g,o + j,none⟩).isSome=true:=by
  intro W i j v hW;by_cases hij:i=j
  ·subst hij;obtain ⟨u,hu⟩:=Option.isSome_iff_exists.mp hW;rw [IW hu]; rfl
  ·rw [iW (by omega)]; exact hW
 have same:∀ (W:World) (j:Nat) (v:Value),(W.cell? ⟨g,o + j,none⟩).isSome=true→(W.setCell ⟨g,o + j,none⟩ v).cell? ⟨g,o + j,none⟩=some v:=by
  intro W j v hW;obtain ⟨u,hu⟩:=Option.isSome_iff_exists.mp hW;exact IW hu
 have h0:=h 0 (by omega);have h1:=h 1 (by omega);have h2:=h 2 (by omega);have h3:=h 3 (by omega);have h4:=h 4 (by omega);have h5:=h 5 (by omega);unfold vC IV;refine ⟨?_,?_,?_,?_,?_,?_⟩
 ·rw [iW (by omega),iW (by omega),iW (by omega),iW (by omega),iW (by omega)];exact same _ 0 _ h0
 ·rw [iW (by omega),iW (by omega),iW (by omega),iW (by omega)];exact same _ 1 _ (e _ 0 1 _ h1)
 ·rw [iW (by omega),iW (by omega),iW (by omega)];exact same _ 2 _ (e _ 1 2 _ (e _ 0 2 _ h2))
 ·rw [iW (by omega),iW (by omega)];exact same _ 3 _ (e _ 2 3 _ (e _ 1 3 _ (e _ 0 3 _ h3)))
 ·rw [iW (by omega)];exact same _ 4 _ (e _ 3 4 _ (e _ 2 4 _ (e _ 1 4 _ (e _ 0 4 _ h4))))
 ·exact same _ 5 _ (e _ 4 5 _ (e _ 3 5 _ (e _ 2 5 _ (e _ 1 5 _ (e _ 0 5 _ h5)))))
theorem Bw (w:World) (g o:Nat) (t:Tp) (x:Addr):(vC w g o t).frozen? x=w.frozen? x:=by simp [vC]
theorem DC {B:Nat} {w0 w:World} {g o:Nat} {t:Tp} (h:Below B w0 w) (hg:B≤g):Below B w0 (vC w g o t):=by
 unfold vC;exact (((((h.setCell (by exact hg) _).setCell (by exact hg) _).setCell (by exact hg) _).setCell (by exact hg) _).setCell (by exact hg) _).setCell (by exact hg) _
theorem Gu (w:World) (g o:Nat) (t:Tp):(vC w g o t).heap.size=w.heap.size:=by simp [vC]
set_option linter.unusedVariables false
structure Fc where
 a:ByteArray
 b:ByteArray
 r:ByteArray
 c:ByteArray
 d:ByteArray
def Fc.u (f:Fc):ByteArray × ByteArray:=(f.c,f.d)
def zQ (x y:Fc):Bool:=x.a.toList == y.a.toList && x.b.toList == y.b.toList && x.r.toList == y.r.toList && x.c.toList == y.c.toList && x.d.toList == y.d.toList
theorem Bz {x y:Fc}:zQ x y=true ↔ x=y:=by
 constructor
 ·intro h;unfold zQ at h;simp only [Bool.and_eq_true,beq_iff_eq] at h;obtain ⟨⟨⟨⟨h1,h2⟩,h3⟩,h4⟩,h5⟩:=h;cases x; cases y;simp only at h1 h2 h3 h4 h5;rw [qP h1,qP h2,qP h3,qP h4,qP h5]
 ·rintro rfl; unfold zQ; simp
def dL (out:List Fc) (f:Fc):Bool:=out.any fun g=>zQ g f
theorem iL {out:List Fc} {f:Fc}:dL out f=true ↔ f ∈ out:=by
 unfold dL;rw [List.any_eq_true];constructor
 ·rintro ⟨g,hg,h⟩; rw [← Bz.1 h]; exact hg
 ·intro h; exact ⟨f,h,Bz.2 rfl⟩
def BA (u:ByteArray × ByteArray) (x y:List Fc):Prop:=∀ g:Fc,g.u=u→(g ∈ x ↔ g ∈ y)
theorem qR {x y:List Fc} {f:Fc} (h:BA f.u x y):dL x f=dL y f:=by
 rw [Bool.eq_iff_iff,iL,iL]; exact h f rfl
def dM (l:List Tp) (known:List Fc) (f:Fc):Bool:=l.any fun t=>(t.a.toList == f.a.toList && t.b.toList == f.b.toList && t.r.toList == f.r.toList) && (if t.s.toList.isEmpty then t.c.toList == f.c.toList && t.d.toList == f.d.toList else dL known ⟨t.c,t.d,t.s,f.c,f.d⟩)
def eO (l:List Tp) (known:List Fc) (over name:ByteArray) (f:Fc):Bool:=l.any fun t=>(t.a.toList == f.a.toList && t.b.toList == f.b.toList && t.r.toList == over.toList) && dL known ⟨t.c,t.d,name,f.c,f.d⟩
def gX (l:List Tp) (es:List Ex) (truth:List Fc) (f:Fc):Nat→List Fc→Nat→Bool
 | 0,_,_=>false
 | k + 1,known,n=>match es[n]? with
  | none=>false
  | some x =>
   if x.kind=1 then dM l known f
   else if x.kind=2 then dL known ⟨f.a,f.b,x.name,f.c,f.d⟩
   else if x.kind=3 then eO l known x.over x.name f
   else if x.kind=4 then x.kids.any fun i=>gX l es truth f k known i.toNat
   else if x.kind=5 then x.kids.all fun i=>gX l es truth f k known i.toNat
   else if x.kind=6 then gX l es truth f k known (x.kids.getD 0 0).toNat && !gX l es truth f k truth (x.kids.getD 1 0).toNat
   else false
theorem DD {l:List Tp} {x y:List Fc} {f:Fc} (h:BA f.u x y):dM l x f=dM l y f:=by
 unfold dM;congr 1
 funext t
 rw [qR (x:=x) (y:=y) (f:=⟨t.c,t.d,t.s,f.c,f.d⟩) h]
theorem DF {l:List Tp} {x y:List Fc} {ov nm:ByteArray} {f:Fc} (h:BA f.u x y):eO l x ov nm f=eO l y ov nm f:=by
 unfold eO;congr 1
 funext t
 rw [qR (x:=x) (y:=y) (f:=⟨t.c,t.d,nm,f.c,f.d⟩) h]
theorem oL {l:List Tp} {es:List Ex} {f:Fc} {t1 t2:List Fc} (ht:BA f.u t1 t2):∀ (k:Nat) (x y:List Fc) (n:Nat),BA f.u x y→gX l es t1 f k x n=gX l es t2 f k y n
 | 0,_,_,_,_=>rfl
 | k + 1,x,y,n,h=>by
  unfold gX;cases es[n]? with
  | none=>rfl
  | some e =>
   simp only [DD h,qR (x:=x) (y:=y) (f:=⟨f.a,f.b,e.name,f.c,f.d⟩) h,DF h,oL ht k x y _ h,oL ht k t1 t2 _ ht]
def fQ (ts:List Ty) (l:List Tp) (out:List Fc) (f:Fc):Bool:=gX l (aG ts f.a f.r) out f (aG ts f.a f.r).length out ((aG ts f.a f.r).length - 1)
theorem yE (ts:List Ty) (l:List Tp):Loc Fc.u (fQ ts l):=fun x y f h=>oL h _ x y _ h
def zR (ts:List Ty) (st:ByteArray × ByteArray→Int) (n:Int) (o:Al):List (ByteArray × ByteArray):=(ai ts).filter fun k=>k.1.toList == o.t.toList && decide (st k=n)
def ik (o:Al) (rel:ByteArray) (xu:List Al):List Fc:=xu.map fun u=>⟨o.t,o.s,rel,u.t,u.s⟩
def tO (ts:List Ty) (st:ByteArray × ByteArray→Int) (xu:List Al) (n:Int) (o:Al):List Fc:=(zR ts st n o).flatMap fun k=>ik o k.2 xu
def bz (ts:List Ty) (st:ByteArray × ByteArray→Int) (xo xu:List Al) (n:Int):List Fc:=xo.flatMap (tO ts st xu n)
theorem DI {ts:List Ty} {st:ByteArray × ByteArray→Int} {xo xu:List Al} {n:Int} {f:Fc} (h:f ∈ bz ts st xo xu n):f.u ∈ xu.map fun u=>(u.t,u.s):=by
 unfold bz tO ik at h;obtain ⟨o,-,h⟩:=List.mem_flatMap.1 h;obtain ⟨k,-,h⟩:=List.mem_flatMap.1 h;obtain ⟨u,hu,rfl⟩:=List.mem_map.1 h;exact List.mem_map.2 ⟨u,hu,rfl⟩
theorem BB (ts:List Ty) (st:ByteArray × ByteArray→Int) (xo xu:List Al) (n:Int) (p:ByteArray × ByteArray→Bool):(bz ts st xo xu n).filter (fun f=>p f.u)=bz ts st xo (xu.filter fun u=>p (u.t,u.s)) n:=by
 unfold bz tO ik;rw [List.filter_flatMap];congr 1
 funext o
 rw [List.filter_flatMap];congr 1
 funext k
 rw [List.filter_map];rfl
theorem DJ {ts:List Ty} {st:ByteArray × ByteArray→Int} {xo xu:List Al} {n:Int} (h:∀ k ∈ ai ts,st k ≠ n):bz ts st xo xu n=[]:=by
 have:∀ o,zR ts st n o=[]:=fun o=>by
  unfold zR;rw [List.filter_eq_nil_iff];intro k hk;simp [h k hk]
 unfold bz tO;simp [this]
section
variable [DecidableEq Fc]
def jE (ts:List Ty) (l:List Tp) (st:ByteArray × ByteArray→Int) (xo xu:List Al) (N:Nat):List Fc:=(List.range N).foldl (fun out (n:Nat)=>kM (fQ ts l) (bz ts st xo xu (n:Int)) out) []
theorem iA (ts:List Ty) (l:List Tp) (st:ByteArray × ByteArray→Int) (xo xu:List Al) (N:Nat):jE ts l st xo xu (N + 1)=kM (fQ ts l) (bz ts st xo xu (N:Int)) (jE ts l st xo xu N):=by
 unfold jE; rw [List.range_succ,List.foldl_append]; rfl
theorem Gv {ts:List Ty} {l:List Tp} {st:ByteArray × ByteArray→Int} {xo xu:List Al} {N:Nat} (h:∀ k ∈ ai ts,st k < (N:Int)):∀ M,N≤M→jE ts l st xo xu M=jE ts l st xo xu N:=by
 intro M hM;obtain ⟨d,rfl⟩:∃ d,M=N + d:=⟨M - N,by omega⟩
 induction d with
 | zero=>rfl
 | succ d ih =>
  rw [Nat.add_succ,iA,ih (by omega),DJ fun k hk=>by have:=h k hk; omega];exact Iq _
theorem yF (ts:List Ty) (l:List Tp) (st:ByteArray × ByteArray→Int) (xo xu:List Al):∀ N,(jE ts l st xo xu N).Nodup
 | 0=>List.nodup_nil
 | N + 1=>by rw [iA]; exact Gd _ (yF ts l st xo xu N)
end
theorem mO {w:World} {g i j:Nat} {v:Value} (h:i ≠ j):(w.setCell ⟨g,i,none⟩ v).cell? ⟨g,j,none⟩=w.cell? ⟨g,j,none⟩:=by
 apply World.cell?_setCell_other;intro e;exact h (congrArg Addr.off e)
theorem mS {w:World} {a:Addr} {v u:Value} (h:w.cell? a=some u):(w.setCell a v).cell? a=some v:=by
 apply World.cell?_setCell_same; exact h
theorem mK {W w1:World} {n o:Nat} {v:Value} (hb:Below W.heap.size W w1) (hn:n < W.heap.size) (h:W.cell? ⟨n,o,none⟩=some v):w1.cell? ⟨n,o,none⟩=some v:=by
 rw [hb.cell (p:=⟨n,o,none⟩) hn]; exact h
theorem mF {W w1:World} {n o:Nat} (hb:Below W.heap.size W w1) (hn:n < W.heap.size) (h:W.frozen? ⟨n,o,none⟩=false):w1.frozen? ⟨n,o,none⟩=false:=by
 rw [hb.frozen (p:=⟨n,o,none⟩) hn]; exact h
def cz (w:World) (g:Nat):Prop:=∀ j,w.frozen? ⟨g,j,none⟩=false
structure Chg (S:Nat→Prop) (w w':World):Prop where
 base:Below 0 w w'
 block:∀ k,k < w.heap.size→¬ S k→w'.heap[k]?=w.heap[k]?
 free:∀ g,g < w.heap.size→cz w g→cz w' g
theorem Chg.refl (S:Nat→Prop) (w:World):Chg S w w:=⟨Below.refl _ _,fun _ _ _=>rfl,fun _ _ h=>h⟩
theorem Chg.size {S:Nat→Prop} {w w':World} (h:Chg S w w'):w.heap.size≤w'.heap.size:=h.base.size
theorem Chg.trans {S:Nat→Prop} {a b c:World} (h:Chg S a b) (k:Chg S b c):Chg S a c :=
 ⟨h.base.trans k.base,fun i hi hs=>(k.block i (Nat.lt_of_lt_of_le hi h.size) hs).trans (h.block i hi hs),fun g hg hf=>k.free g (Nat.lt_of_lt_of_le hg h.size) (h.free g hg hf)⟩
theorem Chg.mono {S T:Nat→Prop} {a b:World} (h:Chg S a b) (hs:∀ g,S g→T g):Chg T a b :=
 ⟨h.base,fun i hi hn=>h.block i hi fun e=>hn (hs i e),h.free⟩
theorem Chg.of {S:Nat→Prop} {w w':World} (h:Below w.heap.size w w'):Chg S w w' :=
 ⟨h.mono (Nat.zero_le _),fun k hk _=>h.block k hk,fun g hg hf j=>by rw [h.frozen (p:=⟨g,j,none⟩) hg]; exact hf j⟩
theorem Chg.set {S:Nat→Prop} {w:World} {g j:Nat} (v:Value) (hs:S g):Chg S w (w.setCell ⟨g,j,none⟩ v) :=
 ⟨(Below.refl 0 w).setCell (Nat.zero_le _) v,fun k _ hk=>Below.heap_setCell _ _ _ _ (fun e=>hk (by rw [e]; exact hs)),fun g' _ hf j'=>by simpa using hf j'⟩
theorem Chg.below {S:Nat→Prop} {w w':World} {m:Nat} (h:Chg S w w') (hm:∀ g,S g→m≤g) (hw:m≤w.heap.size):Below m w w' :=
 ⟨h.base.os,h.base.tape,h.base.output,h.base.size,fun k hk=>h.block k (Nat.lt_of_lt_of_le hk hw) fun e=>by have:=hm k e; omega⟩
theorem Chg.cell {S:Nat→Prop} {w w':World} (h:Chg S w w') {g o:Nat} (hg:g < w.heap.size) (hs:¬ S g):w'.cell? ⟨g,o,none⟩=w.cell? ⟨g,o,none⟩:=by
 have:=h.block g hg hs;unfold World.cell?;simp only [this]
def IX (k:Nat) (o:ByteArray):ByteArray:=if _h:k=0 then o else IX (k / 10) (⟨#[UInt8.ofNat (48 + k % 10)]⟩ ++ o)
def aK (k:Nat):ByteArray:=⟨#[109]⟩ ++ IX k ⟨#[]⟩
theorem IY (o:ByteArray):IX 0 o=o:=by rw [IX,dif_pos rfl]
theorem IZ {k:Nat} (h:0 < k) (o:ByteArray):IX k o=IX (k / 10) (⟨#[UInt8.ofNat (48 + k % 10)]⟩ ++ o):=by
 rw [IX,dif_neg (Nat.ne_of_gt h)]
set_option maxRecDepth 8000 in
set_option maxHeartbeats 1000000 in
theorem zS (k:Nat) (w:World) (h0:0 < k) (h1:k≤1000000000) :
  Calls Tryz.prog 47 #[.int .i64 (k:Int)] w fun e w'=>e=.returned (.string (aK k))∧Below w.heap.size w w':=by
 have hk0:¬ (k:Int)≤0:=by omega
 go_enter Tryz.func47,Tryz.ntmps47;go_wp2;go_loopw [0,3] (fun kv ov wr=>∃ (x:Nat) (o:ByteArray),kv=.int .i64 (x:Int)∧ov=.string o∧Hid (IX x o=IX k ⟨#[]⟩)∧x * 10 ^ o.size≤k∧x≤k∧(x=0→o.size≤12)∧Hid (Below w.heap.size w wr)) (fun kv _ _=>(intOf kv).toNat);case atStart=>exact ⟨k,⟨#[]⟩,rfl,rfl,rfl,(Nat.le_of_eq (Nat.mul_one k):k * 10 ^ 0≤k),Nat.le_refl _,fun _=>Nat.zero_le _,Below.refl _ _⟩
 case round =>
  obtain ⟨x,o,rfl,rfl,HD,hx,hxk,hz,HB⟩:=hrel;by_cases hpos:0 < x
  ·have hsz:o.size≤9:=by
    rcases Nat.lt_or_ge 9 o.size with h | h
    ·have:10 ^ 10≤10 ^ o.size:=Nat.pow_le_pow_right (by omega) h;have h2:1 * 10 ^ o.size≤x * 10 ^ o.size:=Nat.mul_le_mul_right _ hpos;omega
    ·exact h
   have hx0:(0:Int) < (x:Int):=by omega
   obtain ⟨dd,hdd⟩:∃ dd:UInt8,dd=UInt8.ofNat (48 + x % 10):=⟨_,rfl⟩;have hbt:(48 + (x:Int) % 10)=((dd).toNat:Int):=by
    rw [hdd,UInt8.toNat_ofNat']; omega
   have HCV:(convert 133 9 (.slice (some ⟨wr.heap.size,0,none⟩) 1 1)).run Tryz.prog (wr.alloc (.cells #[.int .u8 (48 + (x:Int) % 10)] 5))=.ok (.string ⟨#[dd]⟩) (wr.alloc (.cells #[.int .u8 (48 + (x:Int) % 10)] 5)) :=
    run_convert_bytes_back _ 133 9 5 ⟨wr.heap.size,0,none⟩ 1 [dd] Tryz.underlying133 Tryz.underlying5 Tryz.underlying9 (fun j hj=>by
     have:j=0:=by simpa using hj
     subst this;rw [hbt];exact World.cell?_alloc_mark wr #[.int .u8 ((dd).toNat:Int)] 5 (0,0) 0)
   have HBT:Hid ((48 + (x:Int) % 10)=((dd).toNat:Int)):=hbt;have hone:(⟨#[dd]⟩:ByteArray).size=1:=rfl;have HD2:Hid (IX (x / 10) (⟨#[dd]⟩ ++ o)=IX k ⟨#[]⟩):=by show _=_; rw [← HD.out]; rw [hdd]; exact (IZ hpos o).symm
   have HX2:Hid (x / 10 * 10 ^ ((⟨#[dd]⟩ ++ o:ByteArray)).size≤k):=by
    show _≤_;rw [ByteArray.size_append,hone,Nat.add_comm,Nat.pow_succ];have:x / 10 * (10 ^ o.size * 10)=(x / 10 * 10) * 10 ^ o.size:=by rw [Nat.mul_comm (10 ^ o.size),Nat.mul_assoc]
    rw [this];exact Nat.le_trans (Nat.mul_le_mul_right _ (by omega)) hx
   have HZ2:Hid ((⟨#[dd]⟩ ++ o:ByteArray).size≤12):=by show _≤_; rw [ByteArray.size_append,hone]; omega
   have HB2:Hid (Below w.heap.size w (wr.alloc (.cells #[.int .u8 (48 + (x:Int) % 10)] 5))):=HB.out.alloc HB.out.size _;have HQ:Hid ((x:Int) / 10=((x / 10:Nat):Int)):=by show _=_; omega
   clear hbt hone hdd;go_wp2;go_roundw;case rel=>exact ⟨x / 10,_,congrArg (Value.int .i64) HQ.out,rfl,HD2,HX2.out,by omega,fun _=>HZ2.out,HB2⟩
   case measure=>simp [intOf]; omega
  ·obtain rfl:x=0:=by omega
   have hz2:=hz rfl;have HN:Hid (aK k=⟨#[109]⟩ ++ o):=by show _=_; unfold aK; rw [← HD.out,IY]
   have hx0:¬ (0:Int) < ((0:Nat):Int):=by omega
   go_wp2;go_ret;exact ⟨by rw [HN.out]; rfl,HB.out⟩
theorem aF (x:Int) (k:Nat) (w:World) (hx:x=(k:Int)) (h0:0 < k) (h1:k≤1000000000) :
  Calls Tryz.prog 47 #[.int .i64 x] w fun e w'=>e=.returned (.string (aK k))∧Below w.heap.size w w':=by
 rw [hx]; exact zS k w h0 h1
end Go.Proofs.YtogjfppkbkgaeaaGreat
