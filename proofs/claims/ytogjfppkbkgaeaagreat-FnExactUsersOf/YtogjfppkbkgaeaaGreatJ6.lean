/- Contracts of the functions that look at tuples: each returns what the plain function says, and nothing that was in memory has changed. -/
import Derived.Test.YtogjfppkbkgaeaaGreatJ5
import Derived.Test.YtogjfppkbkgaeaaGreatJ1
import Derived.Test.YtogjfppkbkgaeaaGreatJ4
namespace Go.Proofs.YtogjfppkbkgaeaaGreat
open Go.ChangeShapes Go.WideShapes Go.ChangeAt Go.RowKit
open Pl
theorem yM (s:ByteArray) (w:World) (hs:s.size≤maxLen) :
  Calls Tryz.prog 136 #[.string s] w fun e w'=>e=.returned (.bool (p8 s))∧w'=w:=by
 go_enter Tryz.func136,Tryz.ntmps136;go_wp2_with (go_at_call 127; refine (ak _ _ hs).mono ?_; rintro e w' ⟨rfl,rfl⟩)
 all_goals go_ret
 all_goals exact ⟨ae (by simp [p8, *]),rfl⟩
theorem bv (a b r c d s:ByteArray) (w:World) (ha:a.size≤maxLen) (hb:b.size≤maxLen) (hr:r.size≤maxLen) (hc:c.size≤maxLen) (hd:d.size≤maxLen) (hs:s.size≤maxLen) :
  Calls Tryz.prog 80 #[.agg #[.string a,.string b,.string r,.string c,.string d,.string s]] w fun e w'=>e=.returned (.bool (aU a b r c d s))∧Below w.heap.size w w':=by
 by_cases h1:dG a b=true
 ·by_cases h2:aL r=true
  ·by_cases h3:dG c d=true
   ·have HT:Hid (aU a b r c d s=p8 s):=vH h1 h2 h3;go_enter Tryz.func80,Tryz.ntmps80;go_wp2_with fail;refine (ed _ _ _ ha hb).mono ?_;rintro e w1 ⟨rfl,hb1⟩;obtain ⟨hc1,hf1⟩:=fD hb1;have hz1:w.heap.size < w1.heap.size:=by have:=hb1.size; simp at this; omega
    go_wp2_with fail;refine (aA _ _ hr).mono ?_;rintro e w1' ⟨rfl,rfl⟩;go_wp2_with fail;refine (ed _ _ _ hc hd).mono ?_;rintro e w2 ⟨rfl,hb2⟩;obtain ⟨hc2,hf2⟩:=fD hb2;have hz2:w.heap.size < w2.heap.size:=by have:=hb2.size; omega
    go_wp2_with (go_at_call 77; refine (aA _ _ hs).mono ?_; rintro e w3 ⟨rfl,rfl⟩)
    all_goals go_ret
    all_goals exact ⟨ae (HT.out.trans (by simp [p8, *])).symm,((Below.refl _ _).alloc (Nat.le_refl _) _).trans ((hb1.mono (by simp)).trans (hb2.mono (by omega)))⟩
   ·have h3':dG c d=false:=by simpa using h3
    have HT:Hid (aU a b r c d s=false):=vG h3';clear h3;go_enter Tryz.func80,Tryz.ntmps80;go_wp2_with fail;refine (ed _ _ _ ha hb).mono ?_;rintro e w1 ⟨rfl,hb1⟩;obtain ⟨hc1,hf1⟩:=fD hb1;have hz1:w.heap.size < w1.heap.size:=by have:=hb1.size; simp at this; omega
    go_wp2_with fail;refine (aA _ _ hr).mono ?_;rintro e w1' ⟨rfl,rfl⟩;go_wp2_with fail;refine (ed _ _ _ hc hd).mono ?_;rintro e w2 ⟨rfl,hb2⟩;go_wp2;go_ret;exact ⟨ae HT.out.symm,((Below.refl _ _).alloc (Nat.le_refl _) _).trans ((hb1.mono (by simp)).trans (hb2.mono (by omega)))⟩
  ·have h2':aL r=false:=by simpa using h2
   have HT:Hid (aU a b r c d s=false):=vF h2';clear h2;go_enter Tryz.func80,Tryz.ntmps80;go_wp2_with fail;refine (ed _ _ _ ha hb).mono ?_;rintro e w1 ⟨rfl,hb1⟩;obtain ⟨hc1,hf1⟩:=fD hb1;go_wp2_with fail;refine (aA _ _ hr).mono ?_;rintro e w1' ⟨rfl,rfl⟩;go_wp2;go_ret;exact ⟨ae HT.out.symm,((Below.refl _ _).alloc (Nat.le_refl _) _).trans (hb1.mono (by simp))⟩
 ·have h1':dG a b=false:=by simpa using h1
  have HT:Hid (aU a b r c d s=false):=vD h1';clear h1;go_enter Tryz.func80,Tryz.ntmps80;go_wp2_with fail;refine (ed _ _ _ ha hb).mono ?_;rintro e w1 ⟨rfl,hb1⟩;go_wp2;go_ret;exact ⟨ae HT.out.symm,((Below.refl _ _).alloc (Nat.le_refl _) _).trans (hb1.mono (by simp))⟩
theorem bZ (a b r c d s:ByteArray) (w:World) (ha:a.size≤maxLen) (hb:b.size≤maxLen) (hr:r.size≤maxLen) (hc:c.size≤maxLen) (hd:d.size≤maxLen) (hs:s.size≤maxLen) :
  Calls Tryz.prog 91 #[.agg #[.string a,.string b,.string r,.string c,.string d,.string s]] w fun e w'=>e=.returned (.bool (aU a b r c d s))∧Below w.heap.size w w':=by
 by_cases h1:dG a b=true
 ·by_cases h2:aL r=true
  ·by_cases h3:dG c d=true
   ·have HT:Hid (aU a b r c d s=p8 s):=vH h1 h2 h3;go_enter Tryz.func91,Tryz.ntmps91;go_wp2_with fail;refine (eu _ _ _ ha hb).mono ?_;rintro e w1 ⟨rfl,hb1⟩;obtain ⟨hc1,hf1⟩:=fD hb1;have hz1:w.heap.size < w1.heap.size:=by have:=hb1.size; simp at this; omega
    go_wp2_with fail;refine (ak _ _ hr).mono ?_;rintro e w1' ⟨rfl,rfl⟩;go_wp2_with fail;refine (eu _ _ _ hc hd).mono ?_;rintro e w2 ⟨rfl,hb2⟩;obtain ⟨hc2,hf2⟩:=fD hb2;have hz2:w.heap.size < w2.heap.size:=by have:=hb2.size; omega
    go_wp2_with (go_at_call 136; refine (yM _ _ hs).mono ?_; rintro e w3 ⟨rfl,rfl⟩)
    all_goals go_ret
    all_goals exact ⟨ae (HT.out.trans (by simp [p8, *])).symm,((Below.refl _ _).alloc (Nat.le_refl _) _).trans ((hb1.mono (by simp)).trans (hb2.mono (by omega)))⟩
   ·have h3':dG c d=false:=by simpa using h3
    have HT:Hid (aU a b r c d s=false):=vG h3';clear h3;go_enter Tryz.func91,Tryz.ntmps91;go_wp2_with fail;refine (eu _ _ _ ha hb).mono ?_;rintro e w1 ⟨rfl,hb1⟩;obtain ⟨hc1,hf1⟩:=fD hb1;have hz1:w.heap.size < w1.heap.size:=by have:=hb1.size; simp at this; omega
    go_wp2_with fail;refine (ak _ _ hr).mono ?_;rintro e w1' ⟨rfl,rfl⟩;go_wp2_with fail;refine (eu _ _ _ hc hd).mono ?_;rintro e w2 ⟨rfl,hb2⟩;go_wp2;go_ret;exact ⟨ae HT.out.symm,((Below.refl _ _).alloc (Nat.le_refl _) _).trans ((hb1.mono (by simp)).trans (hb2.mono (by omega)))⟩
  ·have h2':aL r=false:=by simpa using h2
   have HT:Hid (aU a b r c d s=false):=vF h2';clear h2;go_enter Tryz.func91,Tryz.ntmps91;go_wp2_with fail;refine (eu _ _ _ ha hb).mono ?_;rintro e w1 ⟨rfl,hb1⟩;obtain ⟨hc1,hf1⟩:=fD hb1;go_wp2_with fail;refine (ak _ _ hr).mono ?_;rintro e w1' ⟨rfl,rfl⟩;go_wp2;go_ret;exact ⟨ae HT.out.symm,((Below.refl _ _).alloc (Nat.le_refl _) _).trans (hb1.mono (by simp))⟩
 ·have h1':dG a b=false:=by simpa using h1
  have HT:Hid (aU a b r c d s=false):=vD h1';clear h1;go_enter Tryz.func91,Tryz.ntmps91;go_wp2_with fail;refine (eu _ _ _ ha hb).mono ?_;rintro e w1 ⟨rfl,hb1⟩;go_wp2;go_ret;exact ⟨ae HT.out.symm,((Below.refl _ _).alloc (Nat.le_refl _) _).trans (hb1.mono (by simp))⟩
def eT (t i:ByteArray) (left:Int):Int:=if left - t.size < 0 then -1 else if left - t.size - i.size < 0 then -1 else left - t.size - i.size
theorem nG {k:IntKind} {a b:Int} (h:a=b):Ending.returned (.int k a)=.returned (.int k b):=by rw [h]
theorem ll (t i:ByteArray) (left:Int) (w:World) (ht:t.size≤maxLen) (hi:i.size≤maxLen) (h0:0≤left) (h1:left≤1048576) :
  Calls Tryz.prog 24 #[.agg #[.string t,.string i],.int .i64 left] w fun e w'=>e=.returned (.int .i64 (eT t i left))∧Below w.heap.size w w':=by
 unfold maxLen at ht hi;go_enter Tryz.func24,Tryz.ntmps24;go_wp2
 all_goals go_ret
 all_goals refine ⟨nG ?_,(Below.refl _ _).alloc (Nat.le_refl _) _⟩
 all_goals unfold eT
 all_goals first | rw [if_pos (by omega)] | (rw [if_neg (by omega)]; first | rw [if_pos (by omega)] | rw [if_neg (by omega)])
theorem ic (t i:ByteArray) (w:World) :
  Calls Tryz.prog 26 #[.agg #[.string t,.string i]] w fun e w'=>e=.returned (.agg #[.string t,.string i])∧Below w.heap.size w w':=by
 go_enter Tryz.func26,Tryz.ntmps26;go_wp2;exact bodyPost_ret (v:=.agg #[.string t,.string i]) (by simp [results,Tryz.results26,go_sem]) rfl ⟨rfl,by
  repeat (first | exact Below.refl _ _ | refine Below.setCell ?_ (by first | (simp; done) | (simp; omega)) _ | refine Below.alloc ?_ (by first | (simp; done) | (simp; omega)) _)⟩
theorem p9 (t i:ByteArray) (left:Int):eT t i left≤left ∨ eT t i left=-1:=by
 unfold eT; split
 ·exact .inr rfl
 ·split
  ·exact .inr rfl
  ·exact .inl (by omega)
def ol (a b r c d s:ByteArray) (left:Int):Int :=
 if eT a b left < 0 then -1 else if eT a b left - r.size < 0 then -1
 else if eT c d (eT a b left - r.size) < 0 then -1 else if eT c d (eT a b left - r.size) - s.size < 0 then -1
 else eT c d (eT a b left - r.size) - s.size
theorem I4 (a b r c d s:ByteArray) (left:Int):ol a b r c d s left≤left ∨ ol a b r c d s left=-1:=by
 unfold ol;split
 ·exact .inr rfl
 split
 ·exact .inr rfl
 split
 ·exact .inr rfl
 split
 ·exact .inr rfl
 ·refine .inl ?_;have h1:=p9 a b left;have h2:=p9 c d (eT a b left - r.size);omega
theorem BF (a b r c d s:ByteArray) (left:Int) (w:World) (ha:a.size≤maxLen) (hb:b.size≤maxLen) (hr:r.size≤maxLen) (hc:c.size≤maxLen) (hd:d.size≤maxLen) (hs:s.size≤maxLen) (h0:0≤left) (h1:left≤1048576) :
  Calls Tryz.prog 34 #[.agg #[.string a,.string b,.string r,.string c,.string d,.string s],.int .i64 left] w fun e w'=>e=.returned (.int .i64 (ol a b r c d s left))∧Below w.heap.size w w':=by
 have hr':=hr;have hs':=hs;unfold maxLen at hr' hs';have e1:=p9 a b left;have e2:=p9 c d (eT a b left - r.size);go_enter Tryz.func34,Tryz.ntmps34;go_wp2_with fail;refine (ll _ _ _ _ ha hb h0 h1).mono ?_;rintro e w1 ⟨rfl,hb1⟩;obtain ⟨hc1,hf1⟩:=fD hb1;have hz1:w.heap.size < w1.heap.size:=by have:=hb1.size; simp at this; omega
 have HB1:Below w.heap.size w w1:=((Below.refl _ _).alloc (Nat.le_refl _) _).trans (hb1.mono (by simp));by_cases n1:eT a b left < 0
 ·go_wp2;go_ret;exact ⟨nG (by rw [ol,if_pos (by omega)]),HB1⟩
 by_cases n2:eT a b left - r.size < 0
 ·go_wp2;go_ret;exact ⟨nG (by rw [ol,if_neg (by omega),if_pos (by omega)]),HB1⟩
 go_wp2_with fail;refine (ll _ _ _ _ hc hd (by omega) (by omega)).mono ?_;rintro e w2 ⟨rfl,hb2⟩;obtain ⟨hc2,hf2⟩:=fD hb2;have hz2:w.heap.size < w2.heap.size:=by have:=hb2.size; omega
 by_cases n3:eT c d (eT a b left - r.size) < 0
 ·go_wp2;go_ret;exact ⟨nG (by rw [ol,if_neg (by omega),if_neg (by omega),if_pos (by omega)]),HB1.trans (hb2.mono (by omega))⟩
 by_cases n4:eT c d (eT a b left - r.size) - s.size < 0
 ·go_wp2;go_ret;exact ⟨nG (by rw [ol,if_neg (by omega),if_neg (by omega),if_neg (by omega),if_pos (by omega)]),HB1.trans (hb2.mono (by omega))⟩
 go_wp2;go_ret;exact ⟨nG (by rw [ol,if_neg (by omega),if_neg (by omega),if_neg (by omega),if_neg (by omega)]),HB1.trans (hb2.mono (by omega))⟩
set_option maxHeartbeats 400000 in
theorem BG (a b r c d s:ByteArray) (w:World) :
  Calls Tryz.prog 39 #[.agg #[.string a,.string b,.string r,.string c,.string d,.string s]] w fun e w'=>e=.returned (.agg #[.string a,.string b,.string r,.string c,.string d,.string s])∧Below w.heap.size w w':=by
 go_enter Tryz.func39,Tryz.ntmps39;go_wp2_with fail;refine (ic _ _ _).mono ?_;rintro e w1 ⟨rfl,hb1⟩;obtain ⟨hc1,hf1⟩:=fD hb1;have hz1:w.heap.size + 1 + 1 < w1.heap.size:=by have:=hb1.size; simp at this; omega
 have hy1:w.heap.size + 1 < w1.heap.size:=by omega
 have hx1:w.heap.size < w1.heap.size:=by omega
 go_wp2_with fail;refine (ic _ _ _).mono ?_;rintro e w2 ⟨rfl,hb2⟩;obtain ⟨hc2,hf2⟩:=fD hb2;have hz2:w.heap.size + 1 + 1 < w2.heap.size:=by have:=hb2.size; simp at this; omega
 have hy2:w.heap.size + 1 < w2.heap.size:=by omega
 have hx2:w.heap.size < w2.heap.size:=by omega
 have HB1:Below w.heap.size w w1:=Below.trans (by
  repeat (first | exact Below.refl _ _ | refine Below.setCell ?_ (by first | (simp; done) | (simp; omega)) _ | refine Below.alloc ?_ (by first | (simp; done) | (simp; omega)) _)) (hb1.mono (by simp; omega))
 have HB2:Below w.heap.size w w2:=Below.trans (by
  repeat (first | refine Below.setCell ?_ (by first | (simp; done) | (simp; omega)) _ | with_reducible exact HB1)) (hb2.mono (by simp; omega))
 clear hb1 hb2;go_wp2;exact bodyPost_ret (v:=.agg #[.string a,.string b,.string r,.string c,.string d,.string s]) (by simp [results,Tryz.results39,go_sem, *]) rfl ⟨rfl,by
  repeat (first | refine Below.setCell ?_ (by first | (simp; done) | (simp; omega)) _ | with_reducible exact HB2)⟩
structure Tp where
 a:ByteArray
 b:ByteArray
 r:ByteArray
 c:ByteArray
 d:ByteArray
 s:ByteArray
def Tp.fits (t:Tp):Prop:=t.a.size≤maxLen∧t.b.size≤maxLen∧t.r.size≤maxLen∧t.c.size≤maxLen∧t.d.size≤maxLen∧t.s.size≤maxLen
def I5 (w:World) (b off:Nat) (t:Tp):Prop :=
 w.cell? ⟨b,off,none⟩=some (.string t.a)∧w.cell? ⟨b,off + 1,none⟩=some (.string t.b)∧w.cell? ⟨b,off + 2,none⟩=some (.string t.r) ∧
 w.cell? ⟨b,off + 3,none⟩=some (.string t.c)∧w.cell? ⟨b,off + 4,none⟩=some (.string t.d)∧w.cell? ⟨b,off + 5,none⟩=some (.string t.s)
def vJ (w:World) (b off:Nat) (ts:List Tp):Prop:=∀ (i:Nat) (h:i < ts.length),I5 w b (off + i * 6) ts[i]
def Sl (w:World) (ad:Option Addr) (ts:List Tp):Prop:=ts=[] ∨ ∃ b off,ad=some ⟨b,off,none⟩∧b < w.heap.size∧vJ w b off ts
theorem I5.same {w w':World} {b off:Nat} {t:Tp} (h:I5 w b off t) (hc:∀ o,w'.cell? ⟨b,o,none⟩=w.cell? ⟨b,o,none⟩):I5 w' b off t:=by
 obtain ⟨h0,h1,h2,h3,h4,h5⟩:=h;exact ⟨(hc _).trans h0,(hc _).trans h1,(hc _).trans h2,(hc _).trans h3,(hc _).trans h4,(hc _).trans h5⟩
theorem vJ.below {w w':World} {b off B:Nat} {ts:List Tp} (h:vJ w b off ts) (hB:Below B w w') (hb:b < B):vJ w' b off ts :=
 fun i hi=>(h i hi).same fun o=>hB.cell (p:=⟨b,o,none⟩) hb
theorem Sl.below {w w':World} {ad:Option Addr} {ts:List Tp} (h:Sl w ad ts) (hB:Below w.heap.size w w'):Sl w' ad ts:=by
 rcases h with h | ⟨b,off,e,hb,hr⟩
 ·exact .inl h
 ·exact .inr ⟨b,off,e,Nat.lt_of_lt_of_le hb hB.size,hr.below hB hb⟩
set_option maxHeartbeats 400000 in
theorem zY (b off cap:Nat) (ts:List Tp) (left:Int) (w:World) (hlen:ts.length≤maxLen) (hr:vJ w b off ts) (hb:b < w.heap.size) (hf:∀ t ∈ ts,t.fits) (h0:0≤left) (h1:left≤1048576) :
  Calls Tryz.prog 8 #[.slice (some ⟨b,off,none⟩) ts.length cap,.int .i64 left] w fun e w'=>(∃ n:Int,e=.returned (.int .i64 n)∧(n=-1 ∨ 0≤n∧n≤left∧ts.length≤left))∧Below w.heap.size w w':=by
 unfold maxLen at hlen;by_cases hneg:left - ts.length < 0
 ·go_enter Tryz.func8,Tryz.ntmps8;go_wp2;go_ret;exact ⟨⟨-1,rfl,.inl rfl⟩,Below.refl _ _⟩
 ·go_enter Tryz.func8,Tryz.ntmps8;go_wp2;go_loopw [1,5] (fun l i wr=>∃ (k:Nat) (x:Int),k≤ts.length∧i=.int .i64 k∧l=.int .i64 x∧0≤x∧x≤left∧Below w.heap.size w wr) (fun _ i _=>ts.length - (intOf i).toNat);case atStart=>exact ⟨0,_,Nat.zero_le _,rfl,rfl,by omega,by omega,Below.refl _ _⟩
  case round =>
   obtain ⟨k,x,hk,rfl,rfl,hx0,hx1,hB⟩:=hrel;by_cases hlt:k < ts.length
   ·obtain ⟨t0,t1,t2,t3,t4,t5⟩:=(hr.below hB hb) k hlt;obtain ⟨f0,f1,f2,f3,f4,f5⟩:=hf ts[k] (List.getElem_mem hlt);have hle:=I4 ts[k].a ts[k].b ts[k].r ts[k].c ts[k].d ts[k].s x;go_wp2_with fail;refine (BF _ _ _ _ _ _ _ _ f0 f1 f2 f3 f4 f5 hx0 (by omega)).mono ?_;rintro e w1 ⟨rfl,hb1⟩;by_cases hn:ol ts[k].a ts[k].b ts[k].r ts[k].c ts[k].d ts[k].s x < 0
    ·go_wp2;go_ret;exact ⟨⟨-1,rfl,.inl rfl⟩,hB.trans (hb1.mono hB.size)⟩
    ·go_wp2;go_roundw;case rel=>exact ⟨k + 1,_,by omega,by go_num,rfl,by omega,by omega,hB.trans (hb1.mono hB.size)⟩
     case measure=>simp [intOf]; omega
   ·go_wp2;go_ret;exact ⟨⟨x,rfl,.inr ⟨hx0,hx1,by omega⟩⟩,hB⟩
theorem zZ (ad:Option Addr) (cap:Nat) (left:Int) (w:World) (h0:0≤left) (h1:left≤1048576) :
  Calls Tryz.prog 8 #[.slice ad 0 cap,.int .i64 left] w fun e w'=>(∃ n:Int,e=.returned (.int .i64 n)∧(n=-1 ∨ 0≤n∧n≤left∧(0:Nat)≤left))∧Below w.heap.size w w':=by
 go_enter Tryz.func8,Tryz.ntmps8;go_wp2;go_loopw [1,5] (fun l i wr=>∃ x:Int,l=.int .i64 x∧i=.int .i64 0∧0≤x∧x≤left∧Below w.heap.size w wr) (fun _ i _=>(intOf i).toNat);case atStart=>exact ⟨_,rfl,rfl,by omega,by omega,Below.refl _ _⟩
 case round =>
  obtain ⟨x,rfl,rfl,hx0,hx1,hB⟩:=hrel;go_wp2;go_ret;exact ⟨⟨x,rfl,.inr ⟨hx0,hx1,by omega⟩⟩,hB⟩
theorem z8 (ad:Option Addr) (cap:Nat) (ts:List Tp) (left:Int) (w:World) (hlen:ts.length≤maxLen) (hs:Sl w ad ts) (hf:∀ t ∈ ts,t.fits) (h0:0≤left) (h1:left≤1048576) :
  Calls Tryz.prog 8 #[.slice ad ts.length cap,.int .i64 left] w fun e w'=>(∃ n:Int,e=.returned (.int .i64 n)∧(n=-1 ∨ 0≤n∧n≤left∧ts.length≤left))∧Below w.heap.size w w':=by
 rcases hs with rfl | ⟨b,off,rfl,hb,hr⟩
 ·exact zZ ad cap left w h0 h1
 ·exact zY b off cap ts left w hlen hr hb hf h0 h1
def vL (w:World) (g o:Nat) (t:Tp):World :=
 (((((w.setCell ⟨g,o,none⟩ (.string t.a)).setCell ⟨g,o + 1,none⟩ (.string t.b)).setCell ⟨g,o + 2,none⟩ (.string t.r)).setCell ⟨g,o + 3,none⟩ (.string t.c)).setCell ⟨g,o + 4,none⟩ (.string t.d)).setCell ⟨g,o + 5,none⟩ (.string t.s)
theorem ja {w:World} {g i j:Nat} {v:Value} (h:i ≠ j):(w.setCell ⟨g,i,none⟩ v).cell? ⟨g,j,none⟩=w.cell? ⟨g,j,none⟩:=by
 apply World.cell?_setCell_other;intro e;exact h (congrArg Addr.off e)
theorem I6 {w:World} {a:Addr} {v u:Value} (h:w.cell? a=some u):(w.setCell a v).cell? a=some v:=by
 apply World.cell?_setCell_same; exact h
theorem BH (w:World) (g o:Nat) (t:Tp) (j:Nat) (h:j < o ∨ o + 6≤j):(vL w g o t).cell? ⟨g,j,none⟩=w.cell? ⟨g,j,none⟩:=by
 unfold vL;rw [ja (by omega),ja (by omega),ja (by omega),ja (by omega),ja (by omega),ja (by omega)]
theorem Fz {w:World} {g o:Nat} (t:Tp) (h:∀ j,j < 6→(w.cell? ⟨g,o + j,none⟩).isSome=true):I5 (vL w g o t) g o t:=by
 have e:∀ (W:World) (i j:Nat) (v:Value),(W.cell? ⟨g,o + j,none⟩).isSome=true→((W.setCell ⟨g,o + i,none⟩ v).cell? ⟨g,o + j,none⟩).isSome=true:=by
  intro W i j v hW;by_cases hij:i=j
  ·subst hij;obtain ⟨u,hu⟩:=Option.isSome_iff_exists.mp hW;rw [I6 hu]; rfl
  ·rw [ja (by omega)]; exact hW
 have same:∀ (W:World) (j:Nat) (v:Value),(W.cell? ⟨g,o + j,none⟩).isSome=true→(W.setCell ⟨g,o + j,none⟩ v).cell? ⟨g,o + j,none⟩=some v:=by
  intro W j v hW;obtain ⟨u,hu⟩:=Option.isSome_iff_exists.mp hW;exact I6 hu
 have h0:=h 0 (by omega);have h1:=h 1 (by omega);have h2:=h 2 (by omega);have h3:=h 3 (by omega);have h4:=h 4 (by omega);have h5:=h 5 (by omega);unfold vL I5;refine ⟨?_,?_,?_,?_,?_,?_⟩
 ·rw [ja (by omega),ja (by omega),ja (by omega),ja (by omega),ja (by omega)];exact same _ 0 _ h0
 ·rw [ja (by omega),ja (by omega),ja (by omega),ja (by omega)];exact same _ 1 _ (e _ 0 1 _ h1)
 ·rw [ja (by omega),ja (by omega),ja (by omega)];exact same _ 2 _ (e _ 1 2 _ (e _ 0 2 _ h2))
 ·rw [ja (by omega),ja (by omega)];exact same _ 3 _ (e _ 2 3 _ (e _ 1 3 _ (e _ 0 3 _ h3)))
 ·rw [ja (by omega)];exact same _ 4 _ (e _ 3 4 _ (e _ 2 4 _ (e _ 1 4 _ (e _ 0 4 _ h4))))
 ·exact same _ 5 _ (e _ 4 5 _ (e _ 3 5 _ (e _ 2 5 _ (e _ 1 5 _ (e _ 0 5 _ h5)))))
theorem BI (w:World) (g o:Nat) (t:Tp) (x:Addr):(vL w g o t).frozen? x=w.frozen? x:=by simp [vL]
theorem DN {B:Nat} {w0 w:World} {g o:Nat} {t:Tp} (h:Below B w0 w) (hg:B≤g):Below B w0 (vL w g o t):=by
 unfold vL;exact (((((h.setCell (by exact hg) _).setCell (by exact hg) _).setCell (by exact hg) _).setCell (by exact hg) _).setCell (by exact hg) _).setCell (by exact hg) _
theorem GD (w:World) (g o:Nat) (t:Tp):(vL w g o t).heap.size=w.heap.size:=by simp [vL]
set_option linter.unusedVariables false
structure Fc where
 a:ByteArray
 b:ByteArray
 r:ByteArray
 c:ByteArray
 d:ByteArray
def Fc.u (f:Fc):ByteArray × ByteArray:=(f.c,f.d)
def Aa (x y:Fc):Bool:=x.a.toList == y.a.toList && x.b.toList == y.b.toList && x.r.toList == y.r.toList && x.c.toList == y.c.toList && x.d.toList == y.d.toList
theorem BJ {x y:Fc}:Aa x y=true ↔ x=y:=by
 constructor
 ·intro h;unfold Aa at h;simp only [Bool.and_eq_true,beq_iff_eq] at h;obtain ⟨⟨⟨⟨h1,h2⟩,h3⟩,h4⟩,h5⟩:=h;cases x; cases y;simp only at h1 h2 h3 h4 h5;rw [qW h1,qW h2,qW h3,qW h4,qW h5]
 ·rintro rfl; unfold Aa; simp
def dO (out:List Fc) (f:Fc):Bool:=out.any fun g=>Aa g f
theorem iV {out:List Fc} {f:Fc}:dO out f=true ↔ f ∈ out:=by
 unfold dO;rw [List.any_eq_true];constructor
 ·rintro ⟨g,hg,h⟩; rw [← BJ.1 h]; exact hg
 ·intro h; exact ⟨f,h,BJ.2 rfl⟩
def BL (u:ByteArray × ByteArray) (x y:List Fc):Prop:=∀ g:Fc,g.u=u→(g ∈ x ↔ g ∈ y)
theorem qY {x y:List Fc} {f:Fc} (h:BL f.u x y):dO x f=dO y f:=by
 rw [Bool.eq_iff_iff,iV,iV]; exact h f rfl
def dP (l:List Tp) (known:List Fc) (f:Fc):Bool:=l.any fun t=>(t.a.toList == f.a.toList && t.b.toList == f.b.toList && t.r.toList == f.r.toList) && (if t.s.toList.isEmpty then t.c.toList == f.c.toList && t.d.toList == f.d.toList else dO known ⟨t.c,t.d,t.s,f.c,f.d⟩)
def eX (l:List Tp) (known:List Fc) (over name:ByteArray) (f:Fc):Bool:=l.any fun t=>(t.a.toList == f.a.toList && t.b.toList == f.b.toList && t.r.toList == over.toList) && dO known ⟨t.c,t.d,name,f.c,f.d⟩
def ig (l:List Tp) (es:List Ex) (truth:List Fc) (f:Fc):Nat→List Fc→Nat→Bool
 | 0,_,_=>false
 | k + 1,known,n=>match es[n]? with
  | none=>false
  | some x =>
   if x.kind=1 then dP l known f
   else if x.kind=2 then dO known ⟨f.a,f.b,x.name,f.c,f.d⟩
   else if x.kind=3 then eX l known x.over x.name f
   else if x.kind=4 then x.kids.any fun i=>ig l es truth f k known i.toNat
   else if x.kind=5 then x.kids.all fun i=>ig l es truth f k known i.toNat
   else if x.kind=6 then ig l es truth f k known (x.kids.getD 0 0).toNat && !ig l es truth f k truth (x.kids.getD 1 0).toNat
   else false
theorem DR {l:List Tp} {x y:List Fc} {f:Fc} (h:BL f.u x y):dP l x f=dP l y f:=by
 unfold dP;congr 1
 funext t
 rw [qY (x:=x) (y:=y) (f:=⟨t.c,t.d,t.s,f.c,f.d⟩) h]
theorem DT {l:List Tp} {x y:List Fc} {ov nm:ByteArray} {f:Fc} (h:BL f.u x y):eX l x ov nm f=eX l y ov nm f:=by
 unfold eX;congr 1
 funext t
 rw [qY (x:=x) (y:=y) (f:=⟨t.c,t.d,nm,f.c,f.d⟩) h]
theorem oQ {l:List Tp} {es:List Ex} {f:Fc} {t1 t2:List Fc} (ht:BL f.u t1 t2):∀ (k:Nat) (x y:List Fc) (n:Nat),BL f.u x y→ig l es t1 f k x n=ig l es t2 f k y n
 | 0,_,_,_,_=>rfl
 | k + 1,x,y,n,h=>by
  unfold ig;cases es[n]? with
  | none=>rfl
  | some e =>
   simp only [DR h,qY (x:=x) (y:=y) (f:=⟨f.a,f.b,e.name,f.c,f.d⟩) h,DT h,oQ ht k x y _ h,oQ ht k t1 t2 _ ht]
def gm (ts:List Ty) (l:List Tp) (out:List Fc) (f:Fc):Bool:=ig l (aF ts f.a f.r) out f (aF ts f.a f.r).length out ((aF ts f.a f.r).length - 1)
theorem yN (ts:List Ty) (l:List Tp):Loc Fc.u (gm ts l):=fun x y f h=>oQ h _ x y _ h
def Ab (ts:List Ty) (st:ByteArray × ByteArray→Int) (n:Int) (o:Al):List (ByteArray × ByteArray):=(ai ts).filter fun k=>k.1.toList == o.t.toList && decide (st k=n)
def iy (o:Al) (rel:ByteArray) (xu:List Al):List Fc:=xu.map fun u=>⟨o.t,o.s,rel,u.t,u.s⟩
def uf (ts:List Ty) (st:ByteArray × ByteArray→Int) (xu:List Al) (n:Int) (o:Al):List Fc:=(Ab ts st n o).flatMap fun k=>iy o k.2 xu
def bF (ts:List Ty) (st:ByteArray × ByteArray→Int) (xo xu:List Al) (n:Int):List Fc:=xo.flatMap (uf ts st xu n)
theorem DU {ts:List Ty} {st:ByteArray × ByteArray→Int} {xo xu:List Al} {n:Int} {f:Fc} (h:f ∈ bF ts st xo xu n):f.u ∈ xu.map fun u=>(u.t,u.s):=by
 unfold bF uf iy at h;obtain ⟨o,-,h⟩:=List.mem_flatMap.1 h;obtain ⟨k,-,h⟩:=List.mem_flatMap.1 h;obtain ⟨u,hu,rfl⟩:=List.mem_map.1 h;exact List.mem_map.2 ⟨u,hu,rfl⟩
theorem BM (ts:List Ty) (st:ByteArray × ByteArray→Int) (xo xu:List Al) (n:Int) (p:ByteArray × ByteArray→Bool):(bF ts st xo xu n).filter (fun f=>p f.u)=bF ts st xo (xu.filter fun u=>p (u.t,u.s)) n:=by
 unfold bF uf iy;rw [List.filter_flatMap];congr 1
 funext o
 rw [List.filter_flatMap];congr 1
 funext k
 rw [List.filter_map];rfl
theorem DV {ts:List Ty} {st:ByteArray × ByteArray→Int} {xo xu:List Al} {n:Int} (h:∀ k ∈ ai ts,st k ≠ n):bF ts st xo xu n=[]:=by
 have:∀ o,Ab ts st n o=[]:=fun o=>by
  unfold Ab;rw [List.filter_eq_nil_iff];intro k hk;simp [h k hk]
 unfold bF uf;simp [this]
section
variable [DecidableEq Fc]
def jL (ts:List Ty) (l:List Tp) (st:ByteArray × ByteArray→Int) (xo xu:List Al) (N:Nat):List Fc:=(List.range N).foldl (fun out (n:Nat)=>kU (gm ts l) (bF ts st xo xu (n:Int)) out) []
theorem iE (ts:List Ty) (l:List Tp) (st:ByteArray × ByteArray→Int) (xo xu:List Al) (N:Nat):jL ts l st xo xu (N + 1)=kU (gm ts l) (bF ts st xo xu (N:Int)) (jL ts l st xo xu N):=by
 unfold jL; rw [List.range_succ,List.foldl_append]; rfl
theorem GG {ts:List Ty} {l:List Tp} {st:ByteArray × ByteArray→Int} {xo xu:List Al} {N:Nat} (h:∀ k ∈ ai ts,st k < (N:Int)):∀ M,N≤M→jL ts l st xo xu M=jL ts l st xo xu N:=by
 intro M hM;obtain ⟨d,rfl⟩:∃ d,M=N + d:=⟨M - N,by omega⟩
 induction d with
 | zero=>rfl
 | succ d ih =>
  rw [Nat.add_succ,iE,ih (by omega),DV fun k hk=>by have:=h k hk; omega];exact IC _
theorem yO (ts:List Ty) (l:List Tp) (st:ByteArray × ByteArray→Int) (xo xu:List Al):∀ N,(jL ts l st xo xu N).Nodup
 | 0=>List.nodup_nil
 | N + 1=>by rw [iE]; exact Gm _ (yO ts l st xo xu N)
end
end Go.Proofs.YtogjfppkbkgaeaaGreat
