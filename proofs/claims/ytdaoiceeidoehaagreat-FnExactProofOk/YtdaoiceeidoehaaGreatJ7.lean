/- Contracts of the functions that look at tuples: each returns what the plain function says, and nothing that was in memory has changed. -/
import Derived.Test.YtdaoiceeidoehaaGreatJ6
open Go.Proofs.Tryz
set_option maxHeartbeats 80000000
namespace Go.Proofs.YtdaoiceeidoehaaGreat
open Go.ChangeShapes Go.WideShapes Go.ChangeAt Go.RowKit
open Pl
theorem FM (s:ByteArray) (w:World) (hs:s.size≤maxLen) :
  Calls prog 96 #[.string s] w fun e w'=>e=.returned (.bool (qF s))∧w'=w:=by
 go_enter func96,ntmps96;go_wp2_with (go_at_call 95; refine (az _ _ hs).mono ?_; rintro e w' ⟨rfl,rfl⟩)
 all_goals go_ret
 all_goals exact ⟨af (by simp [qF, *]),rfl⟩
theorem bv (a b r c d s:ByteArray) (w:World) (ha:a.size≤maxLen) (hb:b.size≤maxLen) (hr:r.size≤maxLen) (hc:c.size≤maxLen) (hd:d.size≤maxLen) (hs:s.size≤maxLen) :
  Calls prog 80 #[.agg #[.string a,.string b,.string r,.string c,.string d,.string s]] w fun e w'=>e=.returned (.bool (bi a b r c d s))∧Below w.heap.size w w':=by
 by_cases h1:eF a b=true
 ·by_cases h2:aO r=true
  ·by_cases h3:eF c d=true
   ·have HT:Hid (bi a b r c d s=qF s):=Av h1 h2 h3;go_enter func80,ntmps80;go_wp2_with fail;refine (cZ _ _ _ ha hb).mono ?_;rintro e w1 ⟨rfl,hb1⟩;obtain ⟨hc1,hf1⟩:=dH hb1;have hz1:w.heap.size < w1.heap.size:=by have:=hb1.size; simp at this; omega
    go_wp2_with fail;refine (ay _ _ hr).mono ?_;rintro e w1' ⟨rfl,rfl⟩;go_wp2_with fail;refine (cZ _ _ _ hc hd).mono ?_;rintro e w2 ⟨rfl,hb2⟩;obtain ⟨hc2,hf2⟩:=dH hb2;have hz2:w.heap.size < w2.heap.size:=by have:=hb2.size; omega
    go_wp2_with (go_at_call 56; refine (ay _ _ hs).mono ?_; rintro e w3 ⟨rfl,rfl⟩)
    all_goals go_ret
    all_goals exact ⟨af (HT.out.trans (by simp [qF, *])).symm,((Below.refl _ _).alloc (Nat.le_refl _) _).trans ((hb1.mono (by simp)).trans (hb2.mono (by omega)))⟩
   ·have h3':eF c d=false:=by simpa using h3
    have HT:Hid (bi a b r c d s=false):=Au h3';clear h3;go_enter func80,ntmps80;go_wp2_with fail;refine (cZ _ _ _ ha hb).mono ?_;rintro e w1 ⟨rfl,hb1⟩;obtain ⟨hc1,hf1⟩:=dH hb1;have hz1:w.heap.size < w1.heap.size:=by have:=hb1.size; simp at this; omega
    go_wp2_with fail;refine (ay _ _ hr).mono ?_;rintro e w1' ⟨rfl,rfl⟩;go_wp2_with fail;refine (cZ _ _ _ hc hd).mono ?_;rintro e w2 ⟨rfl,hb2⟩;go_wp2;go_ret;exact ⟨af HT.out.symm,((Below.refl _ _).alloc (Nat.le_refl _) _).trans ((hb1.mono (by simp)).trans (hb2.mono (by omega)))⟩
  ·have h2':aO r=false:=by simpa using h2
   have HT:Hid (bi a b r c d s=false):=Ar h2';clear h2;go_enter func80,ntmps80;go_wp2_with fail;refine (cZ _ _ _ ha hb).mono ?_;rintro e w1 ⟨rfl,hb1⟩;obtain ⟨hc1,hf1⟩:=dH hb1;go_wp2_with fail;refine (ay _ _ hr).mono ?_;rintro e w1' ⟨rfl,rfl⟩;go_wp2;go_ret;exact ⟨af HT.out.symm,((Below.refl _ _).alloc (Nat.le_refl _) _).trans (hb1.mono (by simp))⟩
 ·have h1':eF a b=false:=by simpa using h1
  have HT:Hid (bi a b r c d s=false):=Aq h1';clear h1;go_enter func80,ntmps80;go_wp2_with fail;refine (cZ _ _ _ ha hb).mono ?_;rintro e w1 ⟨rfl,hb1⟩;go_wp2;go_ret;exact ⟨af HT.out.symm,((Below.refl _ _).alloc (Nat.le_refl _) _).trans (hb1.mono (by simp))⟩
theorem bz (a b r c d s:ByteArray) (w:World) (ha:a.size≤maxLen) (hb:b.size≤maxLen) (hr:r.size≤maxLen) (hc:c.size≤maxLen) (hd:d.size≤maxLen) (hs:s.size≤maxLen) :
  Calls prog 65 #[.agg #[.string a,.string b,.string r,.string c,.string d,.string s]] w fun e w'=>e=.returned (.bool (bi a b r c d s))∧Below w.heap.size w w':=by
 by_cases h1:eF a b=true
 ·by_cases h2:aO r=true
  ·by_cases h3:eF c d=true
   ·have HT:Hid (bi a b r c d s=qF s):=Av h1 h2 h3;go_enter func65,ntmps65;go_wp2_with fail;refine (d9 _ _ _ ha hb).mono ?_;rintro e w1 ⟨rfl,hb1⟩;obtain ⟨hc1,hf1⟩:=dH hb1;have hz1:w.heap.size < w1.heap.size:=by have:=hb1.size; simp at this; omega
    go_wp2_with fail;refine (az _ _ hr).mono ?_;rintro e w1' ⟨rfl,rfl⟩;go_wp2_with fail;refine (d9 _ _ _ hc hd).mono ?_;rintro e w2 ⟨rfl,hb2⟩;obtain ⟨hc2,hf2⟩:=dH hb2;have hz2:w.heap.size < w2.heap.size:=by have:=hb2.size; omega
    go_wp2_with (go_at_call 96; refine (FM _ _ hs).mono ?_; rintro e w3 ⟨rfl,rfl⟩)
    all_goals go_ret
    all_goals exact ⟨af (HT.out.trans (by simp [qF, *])).symm,((Below.refl _ _).alloc (Nat.le_refl _) _).trans ((hb1.mono (by simp)).trans (hb2.mono (by omega)))⟩
   ·have h3':eF c d=false:=by simpa using h3
    have HT:Hid (bi a b r c d s=false):=Au h3';clear h3;go_enter func65,ntmps65;go_wp2_with fail;refine (d9 _ _ _ ha hb).mono ?_;rintro e w1 ⟨rfl,hb1⟩;obtain ⟨hc1,hf1⟩:=dH hb1;have hz1:w.heap.size < w1.heap.size:=by have:=hb1.size; simp at this; omega
    go_wp2_with fail;refine (az _ _ hr).mono ?_;rintro e w1' ⟨rfl,rfl⟩;go_wp2_with fail;refine (d9 _ _ _ hc hd).mono ?_;rintro e w2 ⟨rfl,hb2⟩;go_wp2;go_ret;exact ⟨af HT.out.symm,((Below.refl _ _).alloc (Nat.le_refl _) _).trans ((hb1.mono (by simp)).trans (hb2.mono (by omega)))⟩
  ·have h2':aO r=false:=by simpa using h2
   have HT:Hid (bi a b r c d s=false):=Ar h2';clear h2;go_enter func65,ntmps65;go_wp2_with fail;refine (d9 _ _ _ ha hb).mono ?_;rintro e w1 ⟨rfl,hb1⟩;obtain ⟨hc1,hf1⟩:=dH hb1;go_wp2_with fail;refine (az _ _ hr).mono ?_;rintro e w1' ⟨rfl,rfl⟩;go_wp2;go_ret;exact ⟨af HT.out.symm,((Below.refl _ _).alloc (Nat.le_refl _) _).trans (hb1.mono (by simp))⟩
 ·have h1':eF a b=false:=by simpa using h1
  have HT:Hid (bi a b r c d s=false):=Aq h1';clear h1;go_enter func65,ntmps65;go_wp2_with fail;refine (d9 _ _ _ ha hb).mono ?_;rintro e w1 ⟨rfl,hb1⟩;go_wp2;go_ret;exact ⟨af HT.out.symm,((Below.refl _ _).alloc (Nat.le_refl _) _).trans (hb1.mono (by simp))⟩
def bH (t i:ByteArray) (left:Int):Int:=if left - t.size < 0 then -1 else if left - t.size - i.size < 0 then -1 else left - t.size - i.size
theorem iG {k:IntKind} {a b:Int} (h:a=b):Ending.returned (.int k a)=.returned (.int k b):=by rw [h]
theorem jb (t i:ByteArray) (left:Int) (w:World) (ht:t.size≤maxLen) (hi:i.size≤maxLen) (h0:0≤left) (h1:left≤1048576) :
  Calls prog 29 #[.agg #[.string t,.string i],.int .i64 left] w fun e w'=>e=.returned (.int .i64 (bH t i left))∧Below w.heap.size w w':=by
 unfold maxLen at ht hi;go_enter func29,ntmps29;go_wp2
 all_goals go_ret
 all_goals refine ⟨iG ?_,(Below.refl _ _).alloc (Nat.le_refl _) _⟩
 all_goals unfold bH
 all_goals first | rw [if_pos (by omega)] | (rw [if_neg (by omega)]; first | rw [if_pos (by omega)] | rw [if_neg (by omega)])
theorem jc (t i:ByteArray) (w:World) :
  Calls prog 36 #[.agg #[.string t,.string i]] w fun e w'=>e=.returned (.agg #[.string t,.string i])∧Below w.heap.size w w':=by
 go_enter func36,ntmps36;go_wp2;exact bodyPost_ret (v:=.agg #[.string t,.string i]) (by simp [results,Tryz.results36,go_sem]) rfl ⟨rfl,by
  repeat (first | exact Below.refl _ _ | refine Below.setCell ?_ (by first | (simp; done) | (simp; omega)) _ | refine Below.alloc ?_ (by first | (simp; done) | (simp; omega)) _)⟩
theorem pz (t i:ByteArray) (left:Int):bH t i left≤left ∨ bH t i left=-1:=by
 unfold bH; split
 ·exact .inr rfl
 ·split
  ·exact .inr rfl
  ·exact .inl (by omega)
def nG (a b r c d s:ByteArray) (left:Int):Int :=
 if bH a b left < 0 then -1 else if bH a b left - r.size < 0 then -1
 else if bH c d (bH a b left - r.size) < 0 then -1 else if bH c d (bH a b left - r.size) - s.size < 0 then -1
 else bH c d (bH a b left - r.size) - s.size
theorem H9 (a b r c d s:ByteArray) (left:Int):nG a b r c d s left≤left ∨ nG a b r c d s left=-1:=by
 unfold nG;split
 ·exact .inr rfl
 split
 ·exact .inr rfl
 split
 ·exact .inr rfl
 split
 ·exact .inr rfl
 ·refine .inl ?_;have h1:=pz a b left;have h2:=pz c d (bH a b left - r.size);omega
theorem Aw (a b r c d s:ByteArray) (left:Int) (w:World) (ha:a.size≤maxLen) (hb:b.size≤maxLen) (hr:r.size≤maxLen) (hc:c.size≤maxLen) (hd:d.size≤maxLen) (hs:s.size≤maxLen) (h0:0≤left) (h1:left≤1048576) :
  Calls prog 28 #[.agg #[.string a,.string b,.string r,.string c,.string d,.string s],.int .i64 left] w fun e w'=>e=.returned (.int .i64 (nG a b r c d s left))∧Below w.heap.size w w':=by
 have hr':=hr;have hs':=hs;unfold maxLen at hr' hs';have e1:=pz a b left;have e2:=pz c d (bH a b left - r.size);go_enter func28,ntmps28;go_wp2_with fail;refine (jb _ _ _ _ ha hb h0 h1).mono ?_;rintro e w1 ⟨rfl,hb1⟩;obtain ⟨hc1,hf1⟩:=dH hb1;have hz1:w.heap.size < w1.heap.size:=by have:=hb1.size; simp at this; omega
 have HB1:Below w.heap.size w w1:=((Below.refl _ _).alloc (Nat.le_refl _) _).trans (hb1.mono (by simp));by_cases n1:bH a b left < 0
 ·go_wp2;go_ret;exact ⟨iG (by rw [nG,if_pos (by omega)]),HB1⟩
 by_cases n2:bH a b left - r.size < 0
 ·go_wp2;go_ret;exact ⟨iG (by rw [nG,if_neg (by omega),if_pos (by omega)]),HB1⟩
 go_wp2_with fail;refine (jb _ _ _ _ hc hd (by omega) (by omega)).mono ?_;rintro e w2 ⟨rfl,hb2⟩;obtain ⟨hc2,hf2⟩:=dH hb2;have hz2:w.heap.size < w2.heap.size:=by have:=hb2.size; omega
 by_cases n3:bH c d (bH a b left - r.size) < 0
 ·go_wp2;go_ret;exact ⟨iG (by rw [nG,if_neg (by omega),if_neg (by omega),if_pos (by omega)]),HB1.trans (hb2.mono (by omega))⟩
 by_cases n4:bH c d (bH a b left - r.size) - s.size < 0
 ·go_wp2;go_ret;exact ⟨iG (by rw [nG,if_neg (by omega),if_neg (by omega),if_neg (by omega),if_pos (by omega)]),HB1.trans (hb2.mono (by omega))⟩
 go_wp2;go_ret;exact ⟨iG (by rw [nG,if_neg (by omega),if_neg (by omega),if_neg (by omega),if_neg (by omega)]),HB1.trans (hb2.mono (by omega))⟩
theorem Ay (a b r c d s:ByteArray) (w:World) :
  Calls prog 35 #[.agg #[.string a,.string b,.string r,.string c,.string d,.string s]] w fun e w'=>e=.returned (.agg #[.string a,.string b,.string r,.string c,.string d,.string s])∧Below w.heap.size w w':=by
 go_enter func35,ntmps35;go_wp2_with fail;refine (jc _ _ _).mono ?_;rintro e w1 ⟨rfl,hb1⟩;obtain ⟨hc1,hf1⟩:=dH hb1;have hz1:w.heap.size + 1 + 1 < w1.heap.size:=by have:=hb1.size; simp at this; omega
 have hy1:w.heap.size + 1 < w1.heap.size:=by omega
 have hx1:w.heap.size < w1.heap.size:=by omega
 go_wp2_with fail;refine (jc _ _ _).mono ?_;rintro e w2 ⟨rfl,hb2⟩;obtain ⟨hc2,hf2⟩:=dH hb2;have hz2:w.heap.size + 1 + 1 < w2.heap.size:=by have:=hb2.size; simp at this; omega
 have hy2:w.heap.size + 1 < w2.heap.size:=by omega
 have hx2:w.heap.size < w2.heap.size:=by omega
 have HB1:Below w.heap.size w w1:=Below.trans (by
  repeat (first | exact Below.refl _ _ | refine Below.setCell ?_ (by first | (simp; done) | (simp; omega)) _ | refine Below.alloc ?_ (by first | (simp; done) | (simp; omega)) _)) (hb1.mono (by simp; omega))
 have HB2:Below w.heap.size w w2:=Below.trans (by
  repeat (first | refine Below.setCell ?_ (by first | (simp; done) | (simp; omega)) _ | with_reducible exact HB1)) (hb2.mono (by simp; omega))
 clear hb1 hb2;go_wp2;exact bodyPost_ret (v:=.agg #[.string a,.string b,.string r,.string c,.string d,.string s]) (by simp [results,Tryz.results35,go_sem, *]) rfl ⟨rfl,by
  repeat (first | refine Below.setCell ?_ (by first | (simp; done) | (simp; omega)) _ | with_reducible exact HB2)⟩
structure Tp where
 a:ByteArray
 b:ByteArray
 r:ByteArray
 c:ByteArray
 d:ByteArray
 s:ByteArray
def Tp.fits (t:Tp):Prop:=t.a.size≤maxLen∧t.b.size≤maxLen∧t.r.size≤maxLen∧t.c.size≤maxLen∧t.d.size≤maxLen∧t.s.size≤maxLen
def JM (w:World) (b off:Nat) (t:Tp):Prop :=
 w.cell? ⟨b,off,none⟩=some (.string t.a)∧w.cell? ⟨b,off + 1,none⟩=some (.string t.b)∧w.cell? ⟨b,off + 2,none⟩=some (.string t.r) ∧
 w.cell? ⟨b,off + 3,none⟩=some (.string t.c)∧w.cell? ⟨b,off + 4,none⟩=some (.string t.d)∧w.cell? ⟨b,off + 5,none⟩=some (.string t.s)
def uE (w:World) (b off:Nat) (ts:List Tp):Prop:=∀ (i:Nat) (h:i < ts.length),JM w b (off + i * 6) ts[i]
def Sl (w:World) (ad:Option Addr) (ts:List Tp):Prop:=ts=[] ∨ ∃ b off,ad=some ⟨b,off,none⟩∧b < w.heap.size∧uE w b off ts
theorem JM.same {w w':World} {b off:Nat} {t:Tp} (h:JM w b off t) (hc:∀ o,w'.cell? ⟨b,o,none⟩=w.cell? ⟨b,o,none⟩):JM w' b off t:=by
 obtain ⟨h0,h1,h2,h3,h4,h5⟩:=h;exact ⟨(hc _).trans h0,(hc _).trans h1,(hc _).trans h2,(hc _).trans h3,(hc _).trans h4,(hc _).trans h5⟩
theorem uE.below {w w':World} {b off B:Nat} {ts:List Tp} (h:uE w b off ts) (hB:Below B w w') (hb:b < B):uE w' b off ts :=
 fun i hi=>(h i hi).same fun o=>hB.cell (p:=⟨b,o,none⟩) hb
theorem Sl.below {w w':World} {ad:Option Addr} {ts:List Tp} (h:Sl w ad ts) (hB:Below w.heap.size w w'):Sl w' ad ts:=by
 rcases h with h | ⟨b,off,e,hb,hr⟩
 ·exact .inl h
 ·exact .inr ⟨b,off,e,Nat.lt_of_lt_of_le hb hB.size,hr.below hB hb⟩
theorem yQ (b off cap:Nat) (ts:List Tp) (left:Int) (w:World) (hlen:ts.length≤maxLen) (hr:uE w b off ts) (hb:b < w.heap.size) (hf:∀ t ∈ ts,t.fits) (h0:0≤left) (h1:left≤1048576) :
  Calls prog 7 #[.slice (some ⟨b,off,none⟩) ts.length cap,.int .i64 left] w fun e w'=>(∃ n:Int,e=.returned (.int .i64 n)∧(n=-1 ∨ 0≤n∧n≤left∧ts.length≤left))∧Below w.heap.size w w':=by
 unfold maxLen at hlen;by_cases hneg:left - ts.length < 0
 ·go_enter func7,ntmps7;go_wp2;go_ret;exact ⟨⟨-1,rfl,.inl rfl⟩,Below.refl _ _⟩
 ·go_enter func7,ntmps7;go_wp2;go_loopw [1,5] (fun l i wr=>∃ (k:Nat) (x:Int),k≤ts.length∧i=.int .i64 k∧l=.int .i64 x∧0≤x∧x≤left∧Below w.heap.size w wr) (fun _ i _=>ts.length - (intOf i).toNat);case atStart=>exact ⟨0,_,Nat.zero_le _,rfl,rfl,by omega,by omega,Below.refl _ _⟩
  case round =>
   obtain ⟨k,x,hk,rfl,rfl,hx0,hx1,hB⟩:=hrel;by_cases hlt:k < ts.length
   ·obtain ⟨t0,t1,t2,t3,t4,t5⟩:=(hr.below hB hb) k hlt;obtain ⟨f0,f1,f2,f3,f4,f5⟩:=hf ts[k] (List.getElem_mem hlt);have hle:=H9 ts[k].a ts[k].b ts[k].r ts[k].c ts[k].d ts[k].s x;go_wp2_with fail;refine (Aw _ _ _ _ _ _ _ _ f0 f1 f2 f3 f4 f5 hx0 (by omega)).mono ?_;rintro e w1 ⟨rfl,hb1⟩;by_cases hn:nG ts[k].a ts[k].b ts[k].r ts[k].c ts[k].d ts[k].s x < 0
    ·go_wp2;go_ret;exact ⟨⟨-1,rfl,.inl rfl⟩,hB.trans (hb1.mono hB.size)⟩
    ·go_wp2;go_roundw;case rel=>exact ⟨k + 1,_,by omega,by go_num,rfl,by omega,by omega,hB.trans (hb1.mono hB.size)⟩
     case measure=>simp [intOf]; omega
   ·go_wp2;go_ret;exact ⟨⟨x,rfl,.inr ⟨hx0,hx1,by omega⟩⟩,hB⟩
theorem yR (ad:Option Addr) (cap:Nat) (left:Int) (w:World) (h0:0≤left) (h1:left≤1048576) :
  Calls prog 7 #[.slice ad 0 cap,.int .i64 left] w fun e w'=>(∃ n:Int,e=.returned (.int .i64 n)∧(n=-1 ∨ 0≤n∧n≤left∧(0:Nat)≤left))∧Below w.heap.size w w':=by
 go_enter func7,ntmps7;go_wp2;go_loopw [1,5] (fun l i wr=>∃ x:Int,l=.int .i64 x∧i=.int .i64 0∧0≤x∧x≤left∧Below w.heap.size w wr) (fun _ i _=>(intOf i).toNat);case atStart=>exact ⟨_,rfl,rfl,by omega,by omega,Below.refl _ _⟩
 case round =>
  obtain ⟨x,rfl,rfl,hx0,hx1,hB⟩:=hrel;go_wp2;go_ret;exact ⟨⟨x,rfl,.inr ⟨hx0,hx1,by omega⟩⟩,hB⟩
theorem yS (ad:Option Addr) (cap:Nat) (ts:List Tp) (left:Int) (w:World) (hlen:ts.length≤maxLen) (hs:Sl w ad ts) (hf:∀ t ∈ ts,t.fits) (h0:0≤left) (h1:left≤1048576) :
  Calls prog 7 #[.slice ad ts.length cap,.int .i64 left] w fun e w'=>(∃ n:Int,e=.returned (.int .i64 n)∧(n=-1 ∨ 0≤n∧n≤left∧ts.length≤left))∧Below w.heap.size w w':=by
 rcases hs with rfl | ⟨b,off,rfl,hb,hr⟩
 ·exact yR ad cap left w h0 h1
 ·exact yQ b off cap ts left w hlen hr hb hf h0 h1
def uF (w:World) (g o:Nat) (t:Tp):World :=
 (((((w.setCell ⟨g,o,none⟩ (.string t.a)).setCell ⟨g,o + 1,none⟩ (.string t.b)).setCell ⟨g,o + 2,none⟩ (.string t.r)).setCell ⟨g,o + 3,none⟩ (.string t.c)).setCell ⟨g,o + 4,none⟩ (.string t.d)).setCell ⟨g,o + 5,none⟩ (.string t.s)
theorem dV {w:World} {g i j:Nat} {v:Value} (h:i ≠ j):(w.setCell ⟨g,i,none⟩ v).cell? ⟨g,j,none⟩=w.cell? ⟨g,j,none⟩:=by
 apply World.cell?_setCell_other;intro e;exact h (congrArg Addr.off e)
theorem CU {w:World} {a:Addr} {v u:Value} (h:w.cell? a=some u):(w.setCell a v).cell? a=some v:=by
 apply World.cell?_setCell_same; exact h
theorem Az (w:World) (g o:Nat) (t:Tp) (j:Nat) (h:j < o ∨ o + 6≤j):(uF w g o t).cell? ⟨g,j,none⟩=w.cell? ⟨g,j,none⟩:=by
 unfold uF;rw [dV (by omega),dV (by omega),dV (by omega),dV (by omega),dV (by omega),dV (by omega)]
theorem EK {w:World} {g o:Nat} (t:Tp) (h:∀ j,j < 6→(w.cell? ⟨g,o + j,none⟩).isSome=true):JM (uF w g o t) g o t:=by
 have e:∀ (W:World) (i j:Nat) (v:Value),(W.cell? ⟨g,o + j,none⟩).isSome=true→((W.setCell ⟨g,o + i,none⟩ v).cell? ⟨g,o + j,none⟩).isSome=true:=by
  intro W i j v hW;by_cases hij:i=j
  ·subst hij;obtain ⟨u,hu⟩:=Option.isSome_iff_exists.mp hW;rw [CU hu]; rfl
  ·rw [dV (by omega)]; exact hW
 have same:∀ (W:World) (j:Nat) (v:Value),(W.cell? ⟨g,o + j,none⟩).isSome=true→(W.setCell ⟨g,o + j,none⟩ v).cell? ⟨g,o + j,none⟩=some v:=by
  intro W j v hW;obtain ⟨u,hu⟩:=Option.isSome_iff_exists.mp hW;exact CU hu
 have h0:=h 0 (by omega);have h1:=h 1 (by omega);have h2:=h 2 (by omega);have h3:=h 3 (by omega);have h4:=h 4 (by omega);have h5:=h 5 (by omega);unfold uF JM;refine ⟨?_,?_,?_,?_,?_,?_⟩
 ·rw [dV (by omega),dV (by omega),dV (by omega),dV (by omega),dV (by omega)];exact same _ 0 _ h0
 ·rw [dV (by omega),dV (by omega),dV (by omega),dV (by omega)];exact same _ 1 _ (e _ 0 1 _ h1)
 ·rw [dV (by omega),dV (by omega),dV (by omega)];exact same _ 2 _ (e _ 1 2 _ (e _ 0 2 _ h2))
 ·rw [dV (by omega),dV (by omega)];exact same _ 3 _ (e _ 2 3 _ (e _ 1 3 _ (e _ 0 3 _ h3)))
 ·rw [dV (by omega)];exact same _ 4 _ (e _ 3 4 _ (e _ 2 4 _ (e _ 1 4 _ (e _ 0 4 _ h4))))
 ·exact same _ 5 _ (e _ 4 5 _ (e _ 3 5 _ (e _ 2 5 _ (e _ 1 5 _ (e _ 0 5 _ h5)))))
theorem AA (w:World) (g o:Nat) (t:Tp) (x:Addr):(uF w g o t).frozen? x=w.frozen? x:=by simp [uF]
theorem CV {B:Nat} {w0 w:World} {g o:Nat} {t:Tp} (h:Below B w0 w) (hg:B≤g):Below B w0 (uF w g o t):=by
 unfold uF;exact (((((h.setCell (by exact hg) _).setCell (by exact hg) _).setCell (by exact hg) _).setCell (by exact hg) _).setCell (by exact hg) _).setCell (by exact hg) _
theorem FN (w:World) (g o:Nat) (t:Tp):(uF w g o t).heap.size=w.heap.size:=by simp [uF]
set_option linter.unusedVariables false
structure Fc where
 a:ByteArray
 b:ByteArray
 r:ByteArray
 c:ByteArray
 d:ByteArray
def Fc.u (f:Fc):ByteArray × ByteArray:=(f.c,f.d)
def yT (x y:Fc):Bool:=x.a.toList == y.a.toList && x.b.toList == y.b.toList && x.r.toList == y.r.toList && x.c.toList == y.c.toList && x.d.toList == y.d.toList
theorem AB {x y:Fc}:yT x y=true ↔ x=y:=by
 constructor
 ·intro h;unfold yT at h;simp only [Bool.and_eq_true,beq_iff_eq] at h;obtain ⟨⟨⟨⟨h1,h2⟩,h3⟩,h4⟩,h5⟩:=h;cases x; cases y;simp only at h1 h2 h3 h4 h5;rw [qD h1,qD h2,qD h3,qD h4,qD h5]
 ·rintro rfl; unfold yT; simp
def df (out:List Fc) (f:Fc):Bool:=out.any fun g=>yT g f
theorem iK {out:List Fc} {f:Fc}:df out f=true ↔ f ∈ out:=by
 unfold df;rw [List.any_eq_true];constructor
 ·rintro ⟨g,hg,h⟩; rw [← AB.1 h]; exact hg
 ·intro h; exact ⟨f,h,AB.2 rfl⟩
def AC (u:ByteArray × ByteArray) (x y:List Fc):Prop:=∀ g:Fc,g.u=u→(g ∈ x ↔ g ∈ y)
theorem qG {x y:List Fc} {f:Fc} (h:AC f.u x y):df x f=df y f:=by
 rw [Bool.eq_iff_iff,iK,iK]; exact h f rfl
def dP (l:List Tp) (known:List Fc) (f:Fc):Bool:=l.any fun t=>(t.a.toList == f.a.toList && t.b.toList == f.b.toList && t.r.toList == f.r.toList) && (if t.s.toList.isEmpty then t.c.toList == f.c.toList && t.d.toList == f.d.toList else df known ⟨t.c,t.d,t.s,f.c,f.d⟩)
def eO (l:List Tp) (known:List Fc) (over name:ByteArray) (f:Fc):Bool:=l.any fun t=>(t.a.toList == f.a.toList && t.b.toList == f.b.toList && t.r.toList == over.toList) && df known ⟨t.c,t.d,name,f.c,f.d⟩
def dW (l:List Tp) (es:List Ex) (truth:List Fc) (f:Fc):Nat→List Fc→Nat→Bool
 | 0,_,_=>false
 | k + 1,known,n=>match es[n]? with
  | none=>false
  | some x =>
   if x.kind=1 then dP l known f
   else if x.kind=2 then df known ⟨f.a,f.b,x.name,f.c,f.d⟩
   else if x.kind=3 then eO l known x.over x.name f
   else if x.kind=4 then x.kids.any fun i=>dW l es truth f k known i.toNat
   else if x.kind=5 then x.kids.all fun i=>dW l es truth f k known i.toNat
   else if x.kind=6 then dW l es truth f k known (x.kids.getD 0 0).toNat && !dW l es truth f k truth (x.kids.getD 1 0).toNat
   else false
theorem CW {l:List Tp} {x y:List Fc} {f:Fc} (h:AC f.u x y):dP l x f=dP l y f:=by
 unfold dP;congr 1
 funext t
 rw [qG (x:=x) (y:=y) (f:=⟨t.c,t.d,t.s,f.c,f.d⟩) h]
theorem CX {l:List Tp} {x y:List Fc} {ov nm:ByteArray} {f:Fc} (h:AC f.u x y):eO l x ov nm f=eO l y ov nm f:=by
 unfold eO;congr 1
 funext t
 rw [qG (x:=x) (y:=y) (f:=⟨t.c,t.d,nm,f.c,f.d⟩) h]
theorem oq {l:List Tp} {es:List Ex} {f:Fc} {t1 t2:List Fc} (ht:AC f.u t1 t2):∀ (k:Nat) (x y:List Fc) (n:Nat),AC f.u x y→dW l es t1 f k x n=dW l es t2 f k y n
 | 0,_,_,_,_=>rfl
 | k + 1,x,y,n,h=>by
  unfold dW;cases es[n]? with
  | none=>rfl
  | some e =>
   simp only [CW h,qG (x:=x) (y:=y) (f:=⟨f.a,f.b,e.name,f.c,f.d⟩) h,CX h,oq ht k x y _ h,oq ht k t1 t2 _ ht]
def fZ (ts:List Ty) (l:List Tp) (out:List Fc) (f:Fc):Bool:=dW l (aC ts f.a f.r) out f (aC ts f.a f.r).length out ((aC ts f.a f.r).length - 1)
theorem xy (ts:List Ty) (l:List Tp):Loc Fc.u (fZ ts l):=fun x y f h=>oq h _ x y _ h
def yU (ts:List Ty) (st:ByteArray × ByteArray→Int) (n:Int) (o:Al):List (ByteArray × ByteArray):=(aj ts).filter fun k=>k.1.toList == o.t.toList && decide (st k=n)
def iw (o:Al) (rel:ByteArray) (xu:List Al):List Fc:=xu.map fun u=>⟨o.t,o.s,rel,u.t,u.s⟩
def su (ts:List Ty) (st:ByteArray × ByteArray→Int) (xu:List Al) (n:Int) (o:Al):List Fc:=(yU ts st n o).flatMap fun k=>iw o k.2 xu
def bF (ts:List Ty) (st:ByteArray × ByteArray→Int) (xo xu:List Al) (n:Int):List Fc:=xo.flatMap (su ts st xu n)
theorem CY {ts:List Ty} {st:ByteArray × ByteArray→Int} {xo xu:List Al} {n:Int} {f:Fc} (h:f ∈ bF ts st xo xu n):f.u ∈ xu.map fun u=>(u.t,u.s):=by
 unfold bF su iw at h;obtain ⟨o,-,h⟩:=List.mem_flatMap.1 h;obtain ⟨k,-,h⟩:=List.mem_flatMap.1 h;obtain ⟨u,hu,rfl⟩:=List.mem_map.1 h;exact List.mem_map.2 ⟨u,hu,rfl⟩
theorem AJ (ts:List Ty) (st:ByteArray × ByteArray→Int) (xo xu:List Al) (n:Int) (p:ByteArray × ByteArray→Bool):(bF ts st xo xu n).filter (fun f=>p f.u)=bF ts st xo (xu.filter fun u=>p (u.t,u.s)) n:=by
 unfold bF su iw;rw [List.filter_flatMap];congr 1
 funext o
 rw [List.filter_flatMap];congr 1
 funext k
 rw [List.filter_map];rfl
theorem CZ {ts:List Ty} {st:ByteArray × ByteArray→Int} {xo xu:List Al} {n:Int} (h:∀ k ∈ aj ts,st k ≠ n):bF ts st xo xu n=[]:=by
 have:∀ o,yU ts st n o=[]:=fun o=>by
  unfold yU;rw [List.filter_eq_nil_iff];intro k hk;simp [h k hk]
 unfold bF su;simp [this]
section
variable [DecidableEq Fc]
def jw (ts:List Ty) (l:List Tp) (st:ByteArray × ByteArray→Int) (xo xu:List Al) (N:Nat):List Fc:=(List.range N).foldl (fun out (n:Nat)=>ko (fZ ts l) (bF ts st xo xu (n:Int)) out) []
theorem iy (ts:List Ty) (l:List Tp) (st:ByteArray × ByteArray→Int) (xo xu:List Al) (N:Nat):jw ts l st xo xu (N + 1)=ko (fZ ts l) (bF ts st xo xu (N:Int)) (jw ts l st xo xu N):=by
 unfold jw; rw [List.range_succ,List.foldl_append]; rfl
theorem FO {ts:List Ty} {l:List Tp} {st:ByteArray × ByteArray→Int} {xo xu:List Al} {N:Nat} (h:∀ k ∈ aj ts,st k < (N:Int)):∀ M,N≤M→jw ts l st xo xu M=jw ts l st xo xu N:=by
 intro M hM;obtain ⟨d,rfl⟩:∃ d,M=N + d:=⟨M - N,by omega⟩
 induction d with
 | zero=>rfl
 | succ d ih =>
  rw [Nat.add_succ,iy,ih (by omega),CZ fun k hk=>by have:=h k hk; omega];exact Ha _
theorem xz (ts:List Ty) (l:List Tp) (st:ByteArray × ByteArray→Int) (xo xu:List Al):∀ N,(jw ts l st xo xu N).Nodup
 | 0=>List.nodup_nil
 | N + 1=>by rw [iy]; exact Fu _ (xz ts l st xo xu N)
end
theorem mK {W w1:World} {n o:Nat} {v:Value} (hb:Below W.heap.size W w1) (hn:n < W.heap.size) (h:W.cell? ⟨n,o,none⟩=some v):w1.cell? ⟨n,o,none⟩=some v:=by
 rw [hb.cell (p:=⟨n,o,none⟩) hn]; exact h
def C8 (w:World) (g:Nat):Prop:=∀ j,w.frozen? ⟨g,j,none⟩=false
structure Chg (S:Nat→Prop) (w w':World):Prop where
 base:Below 0 w w'
 block:∀ k,k < w.heap.size→¬ S k→w'.heap[k]?=w.heap[k]?
 free:∀ g,g < w.heap.size→C8 w g→C8 w' g
theorem Chg.refl (S:Nat→Prop) (w:World):Chg S w w:=⟨Below.refl _ _,fun _ _ _=>rfl,fun _ _ h=>h⟩
theorem Chg.size {S:Nat→Prop} {w w':World} (h:Chg S w w'):w.heap.size≤w'.heap.size:=h.base.size
theorem Chg.trans {S:Nat→Prop} {a b c:World} (h:Chg S a b) (k:Chg S b c):Chg S a c :=
 ⟨h.base.trans k.base,fun i hi hs=>(k.block i (Nat.lt_of_lt_of_le hi h.size) hs).trans (h.block i hi hs),fun g hg hf=>k.free g (Nat.lt_of_lt_of_le hg h.size) (h.free g hg hf)⟩
theorem Chg.mono {S T:Nat→Prop} {a b:World} (h:Chg S a b) (hs:∀ g,S g→T g):Chg T a b :=
 ⟨h.base,fun i hi hn=>h.block i hi fun e=>hn (hs i e),h.free⟩
theorem Chg.of {S:Nat→Prop} {w w':World} (h:Below w.heap.size w w'):Chg S w w' :=
 ⟨h.mono (Nat.zero_le _),fun k hk _=>h.block k hk,fun g hg hf j=>by rw [h.frozen (p:=⟨g,j,none⟩) hg]; exact hf j⟩
theorem Chg.set {S:Nat→Prop} {w:World} {g j:Nat} (v:Value) (hs:S g):Chg S w (w.setCell ⟨g,j,none⟩ v) :=
 ⟨(Below.refl 0 w).setCell (Nat.zero_le _) v,fun k _ hk=>Below.heap_setCell _ _ _ _ (fun e=>hk (by rw [e]; exact hs)),fun g' _ hf j'=>by simpa using hf j'⟩
theorem Chg.below {S:Nat→Prop} {w w':World} {m:Nat} (h:Chg S w w') (hm:∀ g,S g→m≤g) (hw:m≤w.heap.size):Below m w w' :=
 ⟨h.base.os,h.base.tape,h.base.output,h.base.size,fun k hk=>h.block k (Nat.lt_of_lt_of_le hk hw) fun e=>by have:=hm k e; omega⟩
theorem Chg.cell {S:Nat→Prop} {w w':World} (h:Chg S w w') {g o:Nat} (hg:g < w.heap.size) (hs:¬ S g):w'.cell? ⟨g,o,none⟩=w.cell? ⟨g,o,none⟩:=by
 have:=h.block g hg hs;unfold World.cell?;simp only [this]
end Go.Proofs.YtdaoiceeidoehaaGreat
