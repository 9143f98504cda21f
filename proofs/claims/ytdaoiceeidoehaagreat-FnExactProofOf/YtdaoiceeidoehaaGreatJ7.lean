/- Contracts of the functions that look at tuples: each returns what the plain function says, and nothing that was in memory has changed. -/
import Derived.Test.YtdaoiceeidoehaaGreatJ6
open Go.Proofs.Tryz
set_option maxHeartbeats 80000000
namespace Go.Proofs.YtdaoiceeidoehaaGreat
open Go.ChangeShapes Go.WideShapes Go.ChangeAt Go.RowKit
open Pl
theorem JW (s:ByteArray) (w:World) (hs:s.size≤maxLen) :
  Calls prog 96 #[.string s] w fun e w'=>e=.returned (.bool (sV s))∧w'=w:=by
 go_enter func96,ntmps96;go_wp2_with (go_at_call 95; refine (aY _ _ hs).mono ?_; rintro e w' ⟨rfl,rfl⟩)
 all_goals go_ret
 all_goals exact ⟨af (by simp [sV, *]),rfl⟩
theorem eF (a b r c d s:ByteArray) (w:World) (ha:a.size≤maxLen) (hb:b.size≤maxLen) (hr:r.size≤maxLen) (hc:c.size≤maxLen) (hd:d.size≤maxLen) (hs:s.size≤maxLen) :
  Calls prog 80 #[.agg #[.string a,.string b,.string r,.string c,.string d,.string s]] w fun e w'=>e=.returned (.bool (df a b r c d s))∧Below w.heap.size w w':=by
 by_cases h1:eH a b=true
 ·by_cases h2:aR r=true
  ·by_cases h3:eH c d=true
   ·have HT:Hid (df a b r c d s=sV s):=DZ h1 h2 h3;go_enter func80,ntmps80;go_wp2_with fail;refine (dM _ _ _ ha hb).mono ?_;rintro e w1 ⟨rfl,hb1⟩;obtain ⟨hc1,hf1⟩:=ed hb1;have hz1:w.heap.size < w1.heap.size:=by have:=hb1.size; simp at this; omega
    go_wp2_with fail;refine (aL _ _ hr).mono ?_;rintro e w1' ⟨rfl,rfl⟩;go_wp2_with fail;refine (dM _ _ _ hc hd).mono ?_;rintro e w2 ⟨rfl,hb2⟩;obtain ⟨hc2,hf2⟩:=ed hb2;have hz2:w.heap.size < w2.heap.size:=by have:=hb2.size; omega
    go_wp2_with (go_at_call 56; refine (aL _ _ hs).mono ?_; rintro e w3 ⟨rfl,rfl⟩)
    all_goals go_ret
    all_goals exact ⟨af (HT.out.trans (by simp [sV, *])).symm,((R3 _ _).alloc (R4 _) _).trans ((hb1.mono (by simp)).trans (hb2.mono (by omega)))⟩
   ·have h3':eH c d=false:=by simpa using h3
    have HT:Hid (df a b r c d s=false):=DY h3';clear h3;go_enter func80,ntmps80;go_wp2_with fail;refine (dM _ _ _ ha hb).mono ?_;rintro e w1 ⟨rfl,hb1⟩;obtain ⟨hc1,hf1⟩:=ed hb1;have hz1:w.heap.size < w1.heap.size:=by have:=hb1.size; simp at this; omega
    go_wp2_with fail;refine (aL _ _ hr).mono ?_;rintro e w1' ⟨rfl,rfl⟩;go_wp2_with fail;refine (dM _ _ _ hc hd).mono ?_;rintro e w2 ⟨rfl,hb2⟩;go_wp2;go_ret;exact ⟨af HT.out.symm,((R3 _ _).alloc (R4 _) _).trans ((hb1.mono (by simp)).trans (hb2.mono (by omega)))⟩
  ·have h2':aR r=false:=by simpa using h2
   have HT:Hid (df a b r c d s=false):=DX h2';clear h2;go_enter func80,ntmps80;go_wp2_with fail;refine (dM _ _ _ ha hb).mono ?_;rintro e w1 ⟨rfl,hb1⟩;obtain ⟨hc1,hf1⟩:=ed hb1;go_wp2_with fail;refine (aL _ _ hr).mono ?_;rintro e w1' ⟨rfl,rfl⟩;go_wp2;go_ret;exact ⟨af HT.out.symm,((R3 _ _).alloc (R4 _) _).trans (hb1.mono (by simp))⟩
 ·have h1':eH a b=false:=by simpa using h1
  have HT:Hid (df a b r c d s=false):=DW h1';clear h1;go_enter func80,ntmps80;go_wp2_with fail;refine (dM _ _ _ ha hb).mono ?_;rintro e w1 ⟨rfl,hb1⟩;go_wp2;go_ret;exact ⟨af HT.out.symm,((R3 _ _).alloc (R4 _) _).trans (hb1.mono (by simp))⟩
theorem fe (a b r c d s:ByteArray) (w:World) (ha:a.size≤maxLen) (hb:b.size≤maxLen) (hr:r.size≤maxLen) (hc:c.size≤maxLen) (hd:d.size≤maxLen) (hs:s.size≤maxLen) :
  Calls prog 65 #[.agg #[.string a,.string b,.string r,.string c,.string d,.string s]] w fun e w'=>e=.returned (.bool (df a b r c d s))∧Below w.heap.size w w':=by
 by_cases h1:eH a b=true
 ·by_cases h2:aR r=true
  ·by_cases h3:eH c d=true
   ·have HT:Hid (df a b r c d s=sV s):=DZ h1 h2 h3;go_enter func65,ntmps65;go_wp2_with fail;refine (eZ _ _ _ ha hb).mono ?_;rintro e w1 ⟨rfl,hb1⟩;obtain ⟨hc1,hf1⟩:=ed hb1;have hz1:w.heap.size < w1.heap.size:=by have:=hb1.size; simp at this; omega
    go_wp2_with fail;refine (aY _ _ hr).mono ?_;rintro e w1' ⟨rfl,rfl⟩;go_wp2_with fail;refine (eZ _ _ _ hc hd).mono ?_;rintro e w2 ⟨rfl,hb2⟩;obtain ⟨hc2,hf2⟩:=ed hb2;have hz2:w.heap.size < w2.heap.size:=by have:=hb2.size; omega
    go_wp2_with (go_at_call 96; refine (JW _ _ hs).mono ?_; rintro e w3 ⟨rfl,rfl⟩)
    all_goals go_ret
    all_goals exact ⟨af (HT.out.trans (by simp [sV, *])).symm,((R3 _ _).alloc (R4 _) _).trans ((hb1.mono (by simp)).trans (hb2.mono (by omega)))⟩
   ·have h3':eH c d=false:=by simpa using h3
    have HT:Hid (df a b r c d s=false):=DY h3';clear h3;go_enter func65,ntmps65;go_wp2_with fail;refine (eZ _ _ _ ha hb).mono ?_;rintro e w1 ⟨rfl,hb1⟩;obtain ⟨hc1,hf1⟩:=ed hb1;have hz1:w.heap.size < w1.heap.size:=by have:=hb1.size; simp at this; omega
    go_wp2_with fail;refine (aY _ _ hr).mono ?_;rintro e w1' ⟨rfl,rfl⟩;go_wp2_with fail;refine (eZ _ _ _ hc hd).mono ?_;rintro e w2 ⟨rfl,hb2⟩;go_wp2;go_ret;exact ⟨af HT.out.symm,((R3 _ _).alloc (R4 _) _).trans ((hb1.mono (by simp)).trans (hb2.mono (by omega)))⟩
  ·have h2':aR r=false:=by simpa using h2
   have HT:Hid (df a b r c d s=false):=DX h2';clear h2;go_enter func65,ntmps65;go_wp2_with fail;refine (eZ _ _ _ ha hb).mono ?_;rintro e w1 ⟨rfl,hb1⟩;obtain ⟨hc1,hf1⟩:=ed hb1;go_wp2_with fail;refine (aY _ _ hr).mono ?_;rintro e w1' ⟨rfl,rfl⟩;go_wp2;go_ret;exact ⟨af HT.out.symm,((R3 _ _).alloc (R4 _) _).trans (hb1.mono (by simp))⟩
 ·have h1':eH a b=false:=by simpa using h1
  have HT:Hid (df a b r c d s=false):=DW h1';clear h1;go_enter func65,ntmps65;go_wp2_with fail;refine (eZ _ _ _ ha hb).mono ?_;rintro e w1 ⟨rfl,hb1⟩;go_wp2;go_ret;exact ⟨af HT.out.symm,((R3 _ _).alloc (R4 _) _).trans (hb1.mono (by simp))⟩
def dw (t i:ByteArray) (left:Int):Int:=if left - t.size < 0 then -1 else if left - t.size - i.size < 0 then -1 else left - t.size - i.size
theorem jy {k:IntKind} {a b:Int} (h:a=b):Ending.returned (.int k a)=.returned (.int k b):=by rw [h]
theorem jY (t i:ByteArray) (left:Int) (w:World) (ht:t.size≤maxLen) (hi:i.size≤maxLen) (h0:0≤left) (h1:left≤1048576) :
  Calls prog 29 #[.agg #[.string t,.string i],.int .i64 left] w fun e w'=>e=.returned (.int .i64 (dw t i left))∧Below w.heap.size w w':=by
 unfold maxLen at ht hi;go_enter func29,ntmps29;go_wp2
 all_goals go_ret
 all_goals refine ⟨jy ?_,(R3 _ _).alloc (R4 _) _⟩
 all_goals unfold dw
 all_goals first | rw [if_pos (by omega)] | (rw [if_neg (by omega)]; first | rw [if_pos (by omega)] | rw [if_neg (by omega)])
theorem jZ (t i:ByteArray) (w:World) :
  Calls prog 36 #[.agg #[.string t,.string i]] w fun e w'=>e=.returned (.agg #[.string t,.string i])∧Below w.heap.size w w':=by
 go_enter func36,ntmps36;go_wp2;exact bodyPost_ret (v:=.agg #[.string t,.string i]) (by simp [results,Tryz.results36,go_sem]) rfl ⟨rfl,by
  repeat (first | exact R3 _ _ | refine Below.setCell ?_ (by first | (simp; done) | (simp; omega)) _ | refine Below.alloc ?_ (by first | (simp; done) | (simp; omega)) _)⟩
theorem rf (t i:ByteArray) (left:Int):dw t i left≤left ∨ dw t i left=-1:=by
 unfold dw; split
 ·exact .inr rfl
 ·split
  ·exact .inr rfl
  ·exact .inl (by omega)
def qa (a b r c d s:ByteArray) (left:Int):Int :=
 if dw a b left < 0 then -1 else if dw a b left - r.size < 0 then -1
 else if dw c d (dw a b left - r.size) < 0 then -1 else if dw c d (dw a b left - r.size) - s.size < 0 then -1
 else dw c d (dw a b left - r.size) - s.size
theorem Mc (a b r c d s:ByteArray) (left:Int):qa a b r c d s left≤left ∨ qa a b r c d s left=-1:=by
 unfold qa;split
 ·exact .inr rfl
 split
 ·exact .inr rfl
 split
 ·exact .inr rfl
 split
 ·exact .inr rfl
 ·refine .inl ?_;have h1:=rf a b left;have h2:=rf c d (dw a b left - r.size);omega
theorem D6 (a b r c d s:ByteArray) (left:Int) (w:World) (ha:a.size≤maxLen) (hb:b.size≤maxLen) (hr:r.size≤maxLen) (hc:c.size≤maxLen) (hd:d.size≤maxLen) (hs:s.size≤maxLen) (h0:0≤left) (h1:left≤1048576) :
  Calls prog 28 #[.agg #[.string a,.string b,.string r,.string c,.string d,.string s],.int .i64 left] w fun e w'=>e=.returned (.int .i64 (qa a b r c d s left))∧Below w.heap.size w w':=by
 have hr':=hr;have hs':=hs;unfold maxLen at hr' hs';have e1:=rf a b left;have e2:=rf c d (dw a b left - r.size);go_enter func28,ntmps28;go_wp2_with fail;refine (jY _ _ _ _ ha hb h0 h1).mono ?_;rintro e w1 ⟨rfl,hb1⟩;obtain ⟨hc1,hf1⟩:=ed hb1;have hz1:w.heap.size < w1.heap.size:=by have:=hb1.size; simp at this; omega
 have HB1:Below w.heap.size w w1:=((R3 _ _).alloc (R4 _) _).trans (hb1.mono (by simp));by_cases n1:dw a b left < 0
 ·go_wp2;go_ret;exact ⟨jy (by rw [qa,if_pos (by omega)]),HB1⟩
 by_cases n2:dw a b left - r.size < 0
 ·go_wp2;go_ret;exact ⟨jy (by rw [qa,if_neg (by omega),if_pos (by omega)]),HB1⟩
 go_wp2_with fail;refine (jY _ _ _ _ hc hd (by omega) (by omega)).mono ?_;rintro e w2 ⟨rfl,hb2⟩;obtain ⟨hc2,hf2⟩:=ed hb2;have hz2:w.heap.size < w2.heap.size:=by have:=hb2.size; omega
 by_cases n3:dw c d (dw a b left - r.size) < 0
 ·go_wp2;go_ret;exact ⟨jy (by rw [qa,if_neg (by omega),if_neg (by omega),if_pos (by omega)]),HB1.trans (hb2.mono (by omega))⟩
 by_cases n4:dw c d (dw a b left - r.size) - s.size < 0
 ·go_wp2;go_ret;exact ⟨jy (by rw [qa,if_neg (by omega),if_neg (by omega),if_neg (by omega),if_pos (by omega)]),HB1.trans (hb2.mono (by omega))⟩
 go_wp2;go_ret;exact ⟨jy (by rw [qa,if_neg (by omega),if_neg (by omega),if_neg (by omega),if_neg (by omega)]),HB1.trans (hb2.mono (by omega))⟩
theorem D7 (a b r c d s:ByteArray) (w:World) :
  Calls prog 35 #[.agg #[.string a,.string b,.string r,.string c,.string d,.string s]] w fun e w'=>e=.returned (.agg #[.string a,.string b,.string r,.string c,.string d,.string s])∧Below w.heap.size w w':=by
 go_enter func35,ntmps35;go_wp2_with fail;refine (jZ _ _ _).mono ?_;rintro e w1 ⟨rfl,hb1⟩;obtain ⟨hc1,hf1⟩:=ed hb1;have hz1:w.heap.size + 1 + 1 < w1.heap.size:=by have:=hb1.size; simp at this; omega
 have hy1:w.heap.size + 1 < w1.heap.size:=by omega
 have hx1:w.heap.size < w1.heap.size:=by omega
 go_wp2_with fail;refine (jZ _ _ _).mono ?_;rintro e w2 ⟨rfl,hb2⟩;obtain ⟨hc2,hf2⟩:=ed hb2;have hz2:w.heap.size + 1 + 1 < w2.heap.size:=by have:=hb2.size; simp at this; omega
 have hy2:w.heap.size + 1 < w2.heap.size:=by omega
 have hx2:w.heap.size < w2.heap.size:=by omega
 have HB1:Below w.heap.size w w1:=Below.trans (by
  repeat (first | exact R3 _ _ | refine Below.setCell ?_ (by first | (simp; done) | (simp; omega)) _ | refine Below.alloc ?_ (by first | (simp; done) | (simp; omega)) _)) (hb1.mono (by simp; omega))
 have HB2:Below w.heap.size w w2:=Below.trans (by
  repeat (first | refine Below.setCell ?_ (by first | (simp; done) | (simp; omega)) _ | with_reducible exact HB1)) (hb2.mono (by simp; omega))
 clear hb1 hb2;go_wp2;exact bodyPost_ret (v:=.agg #[.string a,.string b,.string r,.string c,.string d,.string s]) (by simp [results,Tryz.results35,go_sem, *]) rfl ⟨rfl,by
  repeat (first | refine Below.setCell ?_ (by first | (simp; done) | (simp; omega)) _ | with_reducible exact HB2)⟩
structure Tp where
 a:ByteArray
 b:ByteArray
 r:ByteArray
 c:ByteArray
 d:ByteArray
 s:ByteArray
def Tp.fits (t:Tp):Prop:=t.a.size≤maxLen∧t.b.size≤maxLen∧t.r.size≤maxLen∧t.c.size≤maxLen∧t.d.size≤maxLen∧t.s.size≤maxLen
def Md (w:World) (b off:Nat) (t:Tp):Prop :=
 w.cell? ⟨b,off,none⟩=some (.string t.a)∧w.cell? ⟨b,off + 1,none⟩=some (.string t.b)∧w.cell? ⟨b,off + 2,none⟩=some (.string t.r) ∧
 w.cell? ⟨b,off + 3,none⟩=some (.string t.c)∧w.cell? ⟨b,off + 4,none⟩=some (.string t.d)∧w.cell? ⟨b,off + 5,none⟩=some (.string t.s)
def xQ (w:World) (b off:Nat) (ts:List Tp):Prop:=∀ (i:Nat) (h:i < ts.length),Md w b (off + i * 6) ts[i]
def Sl (w:World) (ad:Option Addr) (ts:List Tp):Prop:=ts=[] ∨ ∃ b off,ad=some ⟨b,off,none⟩∧b < w.heap.size∧xQ w b off ts
theorem Md.same {w w':World} {b off:Nat} {t:Tp} (h:Md w b off t) (hc:∀ o,w'.cell? ⟨b,o,none⟩=w.cell? ⟨b,o,none⟩):Md w' b off t:=by
 obtain ⟨h0,h1,h2,h3,h4,h5⟩:=h;exact ⟨(hc _).trans h0,(hc _).trans h1,(hc _).trans h2,(hc _).trans h3,(hc _).trans h4,(hc _).trans h5⟩
theorem xQ.below {w w':World} {b off B:Nat} {ts:List Tp} (h:xQ w b off ts) (hB:Below B w w') (hb:b < B):xQ w' b off ts :=
 fun i hi=>(h i hi).same fun o=>hB.cell (p:=⟨b,o,none⟩) hb
theorem Sl.below {w w':World} {ad:Option Addr} {ts:List Tp} (h:Sl w ad ts) (hB:Below w.heap.size w w'):Sl w' ad ts:=by
 rcases h with h | ⟨b,off,e,hb,hr⟩
 ·exact .inl h
 ·exact .inr ⟨b,off,e,RZ hb hB.size,hr.below hB hb⟩
theorem Cg (b off cap:Nat) (ts:List Tp) (left:Int) (w:World) (hlen:ts.length≤maxLen) (hr:xQ w b off ts) (hb:b < w.heap.size) (hf:∀ t ∈ ts,t.fits) (h0:0≤left) (h1:left≤1048576) :
  Calls prog 7 #[.slice (some ⟨b,off,none⟩) ts.length cap,.int .i64 left] w fun e w'=>(∃ n:Int,e=.returned (.int .i64 n)∧(n=-1 ∨ 0≤n∧n≤left∧ts.length≤left))∧Below w.heap.size w w':=by
 unfold maxLen at hlen;by_cases hneg:left - ts.length < 0
 ·go_enter func7,ntmps7;go_wp2;go_ret;exact ⟨⟨-1,rfl,.inl rfl⟩,R3 _ _⟩
 ·go_enter func7,ntmps7;go_wp2;go_loopw [1,5] (fun l i wr=>∃ (k:Nat) (x:Int),k≤ts.length∧i=.int .i64 k∧l=.int .i64 x∧0≤x∧x≤left∧Below w.heap.size w wr) (fun _ i _=>ts.length - (intOf i).toNat);case atStart=>exact ⟨0,_,R6 _,rfl,rfl,by omega,by omega,R3 _ _⟩
  case round =>
   obtain ⟨k,x,hk,rfl,rfl,hx0,hx1,hB⟩:=hrel;by_cases hlt:k < ts.length
   ·obtain ⟨t0,t1,t2,t3,t4,t5⟩:=(hr.below hB hb) k hlt;obtain ⟨f0,f1,f2,f3,f4,f5⟩:=hf ts[k] (RY hlt);have hle:=Mc ts[k].a ts[k].b ts[k].r ts[k].c ts[k].d ts[k].s x;go_wp2_with fail;refine (D6 _ _ _ _ _ _ _ _ f0 f1 f2 f3 f4 f5 hx0 (by omega)).mono ?_;rintro e w1 ⟨rfl,hb1⟩;by_cases hn:qa ts[k].a ts[k].b ts[k].r ts[k].c ts[k].d ts[k].s x < 0
    ·go_wp2;go_ret;exact ⟨⟨-1,rfl,.inl rfl⟩,hB.trans (hb1.mono hB.size)⟩
    ·go_wp2;go_roundw;case rel=>exact ⟨k + 1,_,by omega,by go_num,rfl,by omega,by omega,hB.trans (hb1.mono hB.size)⟩
     case measure=>simp [intOf]; omega
   ·go_wp2;go_ret;exact ⟨⟨x,rfl,.inr ⟨hx0,hx1,by omega⟩⟩,hB⟩
theorem Ch (ad:Option Addr) (cap:Nat) (left:Int) (w:World) (h0:0≤left) (h1:left≤1048576) :
  Calls prog 7 #[.slice ad 0 cap,.int .i64 left] w fun e w'=>(∃ n:Int,e=.returned (.int .i64 n)∧(n=-1 ∨ 0≤n∧n≤left∧(0:Nat)≤left))∧Below w.heap.size w w':=by
 go_enter func7,ntmps7;go_wp2;go_loopw [1,5] (fun l i wr=>∃ x:Int,l=.int .i64 x∧i=.int .i64 0∧0≤x∧x≤left∧Below w.heap.size w wr) (fun _ i _=>(intOf i).toNat);case atStart=>exact ⟨_,rfl,rfl,by omega,by omega,R3 _ _⟩
 case round =>
  obtain ⟨x,rfl,rfl,hx0,hx1,hB⟩:=hrel;go_wp2;go_ret;exact ⟨⟨x,rfl,.inr ⟨hx0,hx1,by omega⟩⟩,hB⟩
theorem Ci (ad:Option Addr) (cap:Nat) (ts:List Tp) (left:Int) (w:World) (hlen:ts.length≤maxLen) (hs:Sl w ad ts) (hf:∀ t ∈ ts,t.fits) (h0:0≤left) (h1:left≤1048576) :
  Calls prog 7 #[.slice ad ts.length cap,.int .i64 left] w fun e w'=>(∃ n:Int,e=.returned (.int .i64 n)∧(n=-1 ∨ 0≤n∧n≤left∧ts.length≤left))∧Below w.heap.size w w':=by
 rcases hs with rfl | ⟨b,off,rfl,hb,hr⟩
 ·exact Ch ad cap left w h0 h1
 ·exact Cg b off cap ts left w hlen hr hb hf h0 h1
def xR (w:World) (g o:Nat) (t:Tp):World :=
 (((((w.setCell ⟨g,o,none⟩ (.string t.a)).setCell ⟨g,o + 1,none⟩ (.string t.b)).setCell ⟨g,o + 2,none⟩ (.string t.r)).setCell ⟨g,o + 3,none⟩ (.string t.c)).setCell ⟨g,o + 4,none⟩ (.string t.d)).setCell ⟨g,o + 5,none⟩ (.string t.s)
theorem jL {w:World} {g i j:Nat} {v:Value} (h:i ≠ j):(w.setCell ⟨g,i,none⟩ v).cell? ⟨g,j,none⟩=w.cell? ⟨g,j,none⟩:=by
 apply World.cell?_setCell_other;intro e;exact h (congrArg Addr.off e)
theorem Me {w:World} {a:Addr} {v u:Value} (h:w.cell? a=some u):(w.setCell a v).cell? a=some v:=by
 apply World.cell?_setCell_same; exact h
theorem Ea (w:World) (g o:Nat) (t:Tp) (j:Nat) (h:j < o ∨ o + 6≤j):(xR w g o t).cell? ⟨g,j,none⟩=w.cell? ⟨g,j,none⟩:=by
 unfold xR;rw [jL (by omega),jL (by omega),jL (by omega),jL (by omega),jL (by omega),jL (by omega)]
theorem I6 {w:World} {g o:Nat} (t:Tp) (h:∀ j,j < 6→(w.cell? ⟨g,o + j,none⟩).isSome=true):Md (xR w g o t) g o t:=by
 have e:∀ (W:World) (i j:Nat) (v:Value),(W.cell? ⟨g,o + j,none⟩).isSome=true→((W.setCell ⟨g,o + i,none⟩ v).cell? ⟨g,o + j,none⟩).isSome=true:=by
  intro W i j v hW;by_cases hij:i=j
  ·subst hij;obtain ⟨u,hu⟩:=Option.isSome_iff_exists.mp hW;rw [Me hu]; rfl
  ·rw [jL (by omega)]; exact hW
 have same:∀ (W:World) (j:Nat) (v:Value),(W.cell? ⟨g,o + j,none⟩).isSome=true→(W.setCell ⟨g,o + j,none⟩ v).cell? ⟨g,o + j,none⟩=some v:=by
  intro W j v hW;obtain ⟨u,hu⟩:=Option.isSome_iff_exists.mp hW;exact Me hu
 have h0:=h 0 (by omega);have h1:=h 1 (by omega);have h2:=h 2 (by omega);have h3:=h 3 (by omega);have h4:=h 4 (by omega);have h5:=h 5 (by omega);unfold xR Md;refine ⟨?_,?_,?_,?_,?_,?_⟩
 ·rw [jL (by omega),jL (by omega),jL (by omega),jL (by omega),jL (by omega)];exact same _ 0 _ h0
 ·rw [jL (by omega),jL (by omega),jL (by omega),jL (by omega)];exact same _ 1 _ (e _ 0 1 _ h1)
 ·rw [jL (by omega),jL (by omega),jL (by omega)];exact same _ 2 _ (e _ 1 2 _ (e _ 0 2 _ h2))
 ·rw [jL (by omega),jL (by omega)];exact same _ 3 _ (e _ 2 3 _ (e _ 1 3 _ (e _ 0 3 _ h3)))
 ·rw [jL (by omega)];exact same _ 4 _ (e _ 3 4 _ (e _ 2 4 _ (e _ 1 4 _ (e _ 0 4 _ h4))))
 ·exact same _ 5 _ (e _ 4 5 _ (e _ 3 5 _ (e _ 2 5 _ (e _ 1 5 _ (e _ 0 5 _ h5)))))
theorem Eb (w:World) (g o:Nat) (t:Tp) (x:Addr):(xR w g o t).frozen? x=w.frozen? x:=by simp [xR]
theorem Gn {B:Nat} {w0 w:World} {g o:Nat} {t:Tp} (h:Below B w0 w) (hg:B≤g):Below B w0 (xR w g o t):=by
 unfold xR;exact (((((h.setCell (by exact hg) _).setCell (by exact hg) _).setCell (by exact hg) _).setCell (by exact hg) _).setCell (by exact hg) _).setCell (by exact hg) _
theorem JX (w:World) (g o:Nat) (t:Tp):(xR w g o t).heap.size=w.heap.size:=by simp [xR]
set_option linter.unusedVariables false
structure Fc where
 a:ByteArray
 b:ByteArray
 r:ByteArray
 c:ByteArray
 d:ByteArray
def Fc.u (f:Fc):ByteArray × ByteArray:=(f.c,f.d)
def rq (x y:Fc):Bool:=x.a.toList == y.a.toList && x.b.toList == y.b.toList && x.r.toList == y.r.toList && x.c.toList == y.c.toList && x.d.toList == y.d.toList
theorem jF {x y:Fc}:rq x y=true ↔ x=y:=by
 constructor
 ·intro h;unfold rq at h;simp only [R7,beq_iff_eq] at h;obtain ⟨⟨⟨⟨h1,h2⟩,h3⟩,h4⟩,h5⟩:=h;cases x; cases y;simp only at h1 h2 h3 h4 h5;rw [jk h1,jk h2,jk h3,jk h4,jk h5]
 ·rintro rfl; unfold rq; simp
def aO (out:List Fc) (f:Fc):Bool:=out.any fun g=>rq g f
theorem aX {out:List Fc} {f:Fc}:aO out f=true ↔ f ∈ out:=by
 unfold aO;rw [Sw];constructor
 ·rintro ⟨g,hg,h⟩; rw [← jF.1 h]; exact hg
 ·intro h; exact ⟨f,h,jF.2 rfl⟩
def Ec (u:ByteArray × ByteArray) (x y:List Fc):Prop:=∀ g:Fc,g.u=u→(g ∈ x ↔ g ∈ y)
theorem sW {x y:List Fc} {f:Fc} (h:Ec f.u x y):aO x f=aO y f:=by
 rw [Bool.eq_iff_iff,aX,aX]; exact h f rfl
def eG (l:List Tp) (known:List Fc) (f:Fc):Bool:=l.any fun t=>(t.a.toList == f.a.toList && t.b.toList == f.b.toList && t.r.toList == f.r.toList) && (if t.s.toList.isEmpty then t.c.toList == f.c.toList && t.d.toList == f.d.toList else aO known ⟨t.c,t.d,t.s,f.c,f.d⟩)
def fG (l:List Tp) (known:List Fc) (over name:ByteArray) (f:Fc):Bool:=l.any fun t=>(t.a.toList == f.a.toList && t.b.toList == f.b.toList && t.r.toList == over.toList) && aO known ⟨t.c,t.d,name,f.c,f.d⟩
def cO (l:List Tp) (es:List Ex) (truth:List Fc) (f:Fc):Nat→List Fc→Nat→Bool
 | 0,_,_=>false
 | k + 1,known,n=>match es[n]? with
  | none=>false
  | some x =>
   if x.kind=1 then eG l known f
   else if x.kind=2 then aO known ⟨f.a,f.b,x.name,f.c,f.d⟩
   else if x.kind=3 then fG l known x.over x.name f
   else if x.kind=4 then x.kids.any fun i=>cO l es truth f k known i.toNat
   else if x.kind=5 then x.kids.all fun i=>cO l es truth f k known i.toNat
   else if x.kind=6 then cO l es truth f k known (x.kids.getD 0 0).toNat && !cO l es truth f k truth (x.kids.getD 1 0).toNat
   else false
theorem Gp {l:List Tp} {x y:List Fc} {f:Fc} (h:Ec f.u x y):eG l x f=eG l y f:=by
 unfold eG;congr 1
 funext t
 rw [sW (x:=x) (y:=y) (f:=⟨t.c,t.d,t.s,f.c,f.d⟩) h]
theorem Gq {l:List Tp} {x y:List Fc} {ov nm:ByteArray} {f:Fc} (h:Ec f.u x y):fG l x ov nm f=fG l y ov nm f:=by
 unfold fG;congr 1
 funext t
 rw [sW (x:=x) (y:=y) (f:=⟨t.c,t.d,nm,f.c,f.d⟩) h]
theorem qD {l:List Tp} {es:List Ex} {f:Fc} {t1 t2:List Fc} (ht:Ec f.u t1 t2):∀ (k:Nat) (x y:List Fc) (n:Nat),Ec f.u x y→cO l es t1 f k x n=cO l es t2 f k y n
 | 0,_,_,_,_=>rfl
 | k + 1,x,y,n,h=>by
  unfold cO;cases es[n]? with
  | none=>rfl
  | some e =>
   simp only [Gp h,sW (x:=x) (y:=y) (f:=⟨f.a,f.b,e.name,f.c,f.d⟩) h,Gq h,qD ht k x y _ h,qD ht k t1 t2 _ ht]
def fH (ts:List Ty) (l:List Tp) (out:List Fc) (f:Fc):Bool:=cO l (ax ts f.a f.r) out f (ax ts f.a f.r).length out ((ax ts f.a f.r).length - 1)
theorem AC (ts:List Ty) (l:List Tp):Loc Fc.u (fH ts l):=fun x y f h=>qD h _ x y _ h
def zG (ts:List Ty) (st:ByteArray × ByteArray→Int) (n:Int) (o:Al):List (ByteArray × ByteArray):=(ai ts).filter fun k=>k.1.toList == o.t.toList && decide (st k=n)
def iJ (o:Al) (rel:ByteArray) (xu:List Al):List Fc:=xu.map fun u=>⟨o.t,o.s,rel,u.t,u.s⟩
def sZ (ts:List Ty) (st:ByteArray × ByteArray→Int) (xu:List Al) (n:Int) (o:Al):List Fc:=(zG ts st n o).flatMap fun k=>iJ o k.2 xu
def bR (ts:List Ty) (st:ByteArray × ByteArray→Int) (xo xu:List Al) (n:Int):List Fc:=xo.flatMap (sZ ts st xu n)
theorem Gr {ts:List Ty} {st:ByteArray × ByteArray→Int} {xo xu:List Al} {n:Int} {f:Fc} (h:f ∈ bR ts st xo xu n):f.u ∈ xu.map fun u=>(u.t,u.s):=by
 unfold bR sZ iJ at h;obtain ⟨o,-,h⟩:=Sk.1 h;obtain ⟨k,-,h⟩:=Sk.1 h;obtain ⟨u,hu,rfl⟩:=Sa.1 h;exact Sa.2 ⟨u,hu,rfl⟩
theorem Ed (ts:List Ty) (st:ByteArray × ByteArray→Int) (xo xu:List Al) (n:Int) (p:ByteArray × ByteArray→Bool):(bR ts st xo xu n).filter (fun f=>p f.u)=bR ts st xo (xu.filter fun u=>p (u.t,u.s)) n:=by
 unfold bR sZ iJ;rw [List.filter_flatMap];congr 1
 funext o
 rw [List.filter_flatMap];congr 1
 funext k
 rw [List.filter_map];rfl
theorem Gt {ts:List Ty} {st:ByteArray × ByteArray→Int} {xo xu:List Al} {n:Int} (h:∀ k ∈ ai ts,st k ≠ n):bR ts st xo xu n=[]:=by
 have:∀ o,zG ts st n o=[]:=fun o=>by
  unfold zG;rw [List.filter_eq_nil_iff];intro k hk;simp [h k hk]
 unfold bR sZ;simp [this]
section
variable [DecidableEq Fc]
def gI (ts:List Ty) (l:List Tp) (st:ByteArray × ByteArray→Int) (xo xu:List Al) (N:Nat):List Fc:=(List.range N).foldl (fun out (n:Nat)=>kZ (fH ts l) (bR ts st xo xu (n:Int)) out) []
theorem iD (ts:List Ty) (l:List Tp) (st:ByteArray × ByteArray→Int) (xo xu:List Al) (N:Nat):gI ts l st xo xu (N + 1)=kZ (fH ts l) (bR ts st xo xu (N:Int)) (gI ts l st xo xu N):=by
 unfold gI; rw [List.range_succ,List.foldl_append]; rfl
theorem JY {ts:List Ty} {l:List Tp} {st:ByteArray × ByteArray→Int} {xo xu:List Al} {N:Nat} (h:∀ k ∈ ai ts,st k < (N:Int)):∀ M,N≤M→gI ts l st xo xu M=gI ts l st xo xu N:=by
 intro M hM;obtain ⟨d,rfl⟩:∃ d,M=N + d:=⟨M - N,by omega⟩
 induction d with
 | zero=>rfl
 | succ d ih =>
  rw [Nat.add_succ,iD,ih (by omega),Gt fun k hk=>by have:=h k hk; omega];exact LA _
theorem tq (ts:List Ty) (l:List Tp) (st:ByteArray × ByteArray→Int) (xo xu:List Al):∀ N,(gI ts l st xo xu N).Nodup
 | 0=>List.nodup_nil
 | N + 1=>by rw [iD]; exact JI _ (tq ts l st xo xu N)
end
section
variable {φ:Type} [DecidableEq φ] {rk:φ→Int} {H:List φ→φ→Bool} {qs:Nat→List φ}
def OH (H:List φ→φ→Bool) (qs:Nat→List φ):Nat→List φ
 | 0=>[]
 | n + 1=>kZ H (qs n) (OH H qs n)
theorem Ee (q out:List φ):∃ new,kZ H q out=out ++ new∧∀ g ∈ new,g ∈ q:=sO q _ out
theorem Ef (hq:∀ n,∀ f ∈ qs n,rk f=(n:Int)):∀ N,∀ f ∈ OH H qs N,rk f < (N:Int)
 | 0,f,h=>by cases h
 | N + 1,f,h=>by
  obtain ⟨new,e,hn⟩:=Ee (H:=H) (qs N) (OH H qs N);rw [OH,e] at h;rcases Sd.1 h with h | h
  ·have:=Ef hq N f h; omega
  ·have:=hq N f (hn f h); omega
end
def nI (es:List Ex):List Int→Nat→Nat→Prop
 | [],a,b=>a=b
 | k::ks,a,b=>0≤k∧ak es k.toNat=(a:Int)∧nI es ks (k.toNat + 1) b
theorem xS {es:List Ex}:∀ (ks:List Int) (k:Int) (a m b:Nat),nI es ks a m→0≤k→ak es k.toNat=(m:Int)→k.toNat + 1=b→nI es (ks ++ [k]) a b
 | [],k,a,m,b,h,h0,h1,h2=>by
  have:a=m:=h;subst this;exact ⟨h0,h1,h2⟩
 | x::ks,k,a,m,b,h,h0,h1,h2=>⟨h.1,h.2.1,xS ks k _ m b h.2.2 h0 h1 h2⟩
theorem Eg {es:List Ex} {n:Nat}:∀ (rs:List Int) (b:Nat),b≤n→0≤dA (dI es n) rs ((b:Int) - 1)→nI es rs.reverse (dA (dI es n) rs ((b:Int) - 1)).toNat b
 | [],b,_,h=>by simp [dA,nI]
 | k::rs,b,hb,h=>by
  unfold dA at h ⊢;split at h
  ·omega
  ·rename_i c;rw [if_neg c];split at h
   ·omega
   ·rename_i c2;rw [if_neg c2];have h0:0≤(b:Int) - 1:=by omega
    have hk:k=(b:Int) - 1:=by omega
    have hF:dI es n ((b:Int) - 1)=ak es ((b:Int) - 1).toNat:=by unfold dI; rw [if_pos ⟨h0,by omega⟩]
    have hle:=fJ es ((b:Int) - 1).toNat;rw [hF] at h c2 ⊢;obtain ⟨m,hm⟩:∃ m:Nat,ak es ((b:Int) - 1).toNat=(m:Int):=⟨(ak es ((b:Int) - 1).toNat).toNat,by omega⟩;rw [hm] at h hle ⊢;rw [List.reverse_cons];exact xS _ k _ m b (Eg rs m (by omega) h) (by omega) (by rw [hk,hm]) (by omega)
theorem kG {es:List Ex} {n:Nat} (h:0≤ak es n):nI es (cZ es n) (ak es n).toNat n:=by
 rw [j5] at h ⊢;have:=Eg (cZ es n).reverse n (R4 _) h;rw [List.reverse_reverse] at this;exact this
theorem lQ {es:List Ex}:∀ (ks:List Int) (a b:Nat),nI es ks a b→a≤b∧∀ k ∈ ks,0≤k∧k.toNat < b
 | [],a,b,h=>⟨Nat.le_of_eq h,fun k hk=>by cases hk⟩
 | x::ks,a,b,h=>by
  obtain ⟨h1,h2⟩:=lQ ks _ b h.2.2;have:=fJ es x.toNat;have h3:=h.2.1;refine ⟨by omega,fun k hk=>?_⟩;rcases List.mem_cons.1 hk with rfl | hk
  ·exact ⟨h.1,by omega⟩
  ·exact h2 k hk
end Go.Proofs.YtdaoiceeidoehaaGreat
