/- Contracts of the two functions that write an object's text. -/
import Derived.Test.YtdmniljjnaebbaaGreatDoorSq
import Derived.Test.YtdmniljjnaebbaaGreatDoorJ2
import Derived.Test.YtdmniljjnaebbaaGreatDoorJ4
import Derived.Deep.RegionHeld3
import Derived.Deep.DrawnRows
import Derived.Test.YtdmniljjnaebbaaGreatDoorShelf
open Go.Proofs.Tryz
set_option maxHeartbeats 80000000
namespace Go.Proofs.YtdmniljjnaebbaaGreatDoor
open Go.ChangeShapes Go.WideShapes Go.ChangeAt Go.RowKit
open Pl
theorem wm (t i:dB) (w:af) (ht:t.size≤maxLen) (hi:i.size≤maxLen) :
  Calls prog 188 #[.agg #[.string t,.string i]] w fun e w'=>e=.returned (.string (ax t i))∧aa w w':=by
 by_cases hn:dS t i=true
 ·obtain ⟨h1,h2⟩:=wW hn;have HT:Hid (ax t i=t ++ ⟨#[58]⟩ ++ i):=kS hn;go_enter func188,ntmps188;go_wp2_with (go_at_call 115; refine (eY _ _ _ ht hi).mono ?_; rintro e w' ⟨rfl,hb⟩; obtain ⟨hc,hf⟩:=eO hb);go_ret;exact ⟨fu HT.out.symm,((Si _ _).alloc (Sj _) _).trans (hb.mono (by simp))⟩
 have hn':dS t i=false:=by simpa using hn
 have HT:Hid (ax t i=⟨#[]⟩):=qM hn';clear hn;go_enter func188,ntmps188;go_wp2_with (go_at_call 115; refine (eY _ _ _ ht hi).mono ?_; rintro e w' ⟨rfl,hb⟩; obtain ⟨hc,hf⟩:=eO hb);go_ret;exact ⟨fu HT.out.symm,((Si _ _).alloc (Sj _) _).trans (hb.mono (by simp))⟩
theorem wu (t i:dB) (w:af) (ht:t.size≤maxLen) (hi:i.size≤maxLen) :
  Calls prog 183 #[.agg #[.string t,.string i]] w fun e w'=>e=.returned (.string (ax t i))∧aa w w':=by
 by_cases hn:dS t i=true
 ·obtain ⟨h1,h2⟩:=wW hn;have HT:Hid (ax t i=t ++ ⟨#[58]⟩ ++ i):=kS hn;go_enter func183,ntmps183;go_wp2_with (go_at_call 170; refine (eZ _ _ _ ht hi).mono ?_; rintro e w' ⟨rfl,hb⟩; obtain ⟨hc,hf⟩:=eO hb);go_ret;exact ⟨fu HT.out.symm,((Si _ _).alloc (Sj _) _).trans (hb.mono (by simp))⟩
 have hn':dS t i=false:=by simpa using hn
 have HT:Hid (ax t i=⟨#[]⟩):=qM hn';clear hn;go_enter func183,ntmps183;go_wp2_with (go_at_call 170; refine (eZ _ _ _ ht hi).mono ?_; rintro e w' ⟨rfl,hb⟩; obtain ⟨hc,hf⟩:=eO hb);go_ret;exact ⟨fu HT.out.symm,((Si _ _).alloc (Sj _) _).trans (hb.mono (by simp))⟩
theorem AV (s:dB) (w:af) (hs:s.size≤maxLen) :
  Calls prog 171 #[.string s] w fun e w'=>e=.returned (.bool (rH s))∧w'=w:=by
 go_enter func171,ntmps171;go_wp2_with (go_at_call 162; refine (aL _ _ hs).mono ?_; rintro e w' ⟨rfl,rfl⟩)
 all_goals go_ret
 all_goals exact ⟨ah (by simp [rH, *]),rfl⟩
theorem dI (a b r c d s:dB) (w:af) (ha:a.size≤maxLen) (hb:b.size≤maxLen) (hr:r.size≤maxLen) (hc:c.size≤maxLen) (hd:d.size≤maxLen) (hs:s.size≤maxLen) :
  Calls prog 77 #[.agg #[.string a,.string b,.string r,.string c,.string d,.string s]] w fun e w'=>e=.returned (.bool (bn a b r c d s))∧aa w w':=by
 by_cases h1:dS a b=true
 ·by_cases h2:aR r=true
  ·by_cases h3:dS c d=true
   ·have HT:Hid (bn a b r c d s=rH s):=xG h1 h2 h3;go_enter func77,ntmps77;go_wp2_with fail;refine (eY _ _ _ ha hb).mono ?_;rintro e w1 ⟨rfl,hb1⟩;obtain ⟨hc1,hf1⟩:=eO hb1;have hz1:w.heap.size < w1.heap.size:=by have:=hb1.size; simp at this; omega
    go_wp2_with fail;refine (aN _ _ hr).mono ?_;rintro e w1' ⟨rfl,rfl⟩;go_wp2_with fail;refine (eY _ _ _ hc hd).mono ?_;rintro e w2 ⟨rfl,hb2⟩;obtain ⟨hc2,hf2⟩:=eO hb2;have hz2:w.heap.size < w2.heap.size:=by have:=hb2.size; omega
    go_wp2_with (go_at_call 105; refine (aN _ _ hs).mono ?_; rintro e w3 ⟨rfl,rfl⟩)
    all_goals go_ret
    all_goals exact ⟨ah (HT.out.trans (by simp [rH, *])).symm,((Si _ _).alloc (Sj _) _).trans ((hb1.mono (by simp)).trans (hb2.mono (by omega)))⟩
   have h3':dS c d=false:=by simpa using h3
   have HT:Hid (bn a b r c d s=false):=xE h3';clear h3;go_enter func77,ntmps77;go_wp2_with fail;refine (eY _ _ _ ha hb).mono ?_;rintro e w1 ⟨rfl,hb1⟩;obtain ⟨hc1,hf1⟩:=eO hb1;have hz1:w.heap.size < w1.heap.size:=by have:=hb1.size; simp at this; omega
   go_wp2_with fail;refine (aN _ _ hr).mono ?_;rintro e w1' ⟨rfl,rfl⟩;go_wp2_with fail;refine (eY _ _ _ hc hd).mono ?_;rintro e w2 ⟨rfl,hb2⟩;go_wp2;go_ret;exact ⟨ah HT.out.symm,((Si _ _).alloc (Sj _) _).trans ((hb1.mono (by simp)).trans (hb2.mono (by omega)))⟩
  have h2':aR r=false:=by simpa using h2
  have HT:Hid (bn a b r c d s=false):=xD h2';clear h2;go_enter func77,ntmps77;go_wp2_with fail;refine (eY _ _ _ ha hb).mono ?_;rintro e w1 ⟨rfl,hb1⟩;obtain ⟨hc1,hf1⟩:=eO hb1;go_wp2_with fail;refine (aN _ _ hr).mono ?_;rintro e w1' ⟨rfl,rfl⟩;go_wp2;go_ret;exact ⟨ah HT.out.symm,((Si _ _).alloc (Sj _) _).trans (hb1.mono (by simp))⟩
 have h1':dS a b=false:=by simpa using h1
 have HT:Hid (bn a b r c d s=false):=xC h1';clear h1;go_enter func77,ntmps77;go_wp2_with fail;refine (eY _ _ _ ha hb).mono ?_;rintro e w1 ⟨rfl,hb1⟩;go_wp2;go_ret;exact ⟨ah HT.out.symm,((Si _ _).alloc (Sj _) _).trans (hb1.mono (by simp))⟩
theorem d9 (a b r c d s:dB) (w:af) (ha:a.size≤maxLen) (hb:b.size≤maxLen) (hr:r.size≤maxLen) (hc:c.size≤maxLen) (hd:d.size≤maxLen) (hs:s.size≤maxLen) :
  Calls prog 128 #[.agg #[.string a,.string b,.string r,.string c,.string d,.string s]] w fun e w'=>e=.returned (.bool (bn a b r c d s))∧aa w w':=by
 by_cases h1:dS a b=true
 ·by_cases h2:aR r=true
  ·by_cases h3:dS c d=true
   ·have HT:Hid (bn a b r c d s=rH s):=xG h1 h2 h3;go_enter func128,ntmps128;go_wp2_with fail;refine (eZ _ _ _ ha hb).mono ?_;rintro e w1 ⟨rfl,hb1⟩;obtain ⟨hc1,hf1⟩:=eO hb1;have hz1:w.heap.size < w1.heap.size:=by have:=hb1.size; simp at this; omega
    go_wp2_with fail;refine (aL _ _ hr).mono ?_;rintro e w1' ⟨rfl,rfl⟩;go_wp2_with fail;refine (eZ _ _ _ hc hd).mono ?_;rintro e w2 ⟨rfl,hb2⟩;obtain ⟨hc2,hf2⟩:=eO hb2;have hz2:w.heap.size < w2.heap.size:=by have:=hb2.size; omega
    go_wp2_with (go_at_call 171; refine (AV _ _ hs).mono ?_; rintro e w3 ⟨rfl,rfl⟩)
    all_goals go_ret
    all_goals exact ⟨ah (HT.out.trans (by simp [rH, *])).symm,((Si _ _).alloc (Sj _) _).trans ((hb1.mono (by simp)).trans (hb2.mono (by omega)))⟩
   have h3':dS c d=false:=by simpa using h3
   have HT:Hid (bn a b r c d s=false):=xE h3';clear h3;go_enter func128,ntmps128;go_wp2_with fail;refine (eZ _ _ _ ha hb).mono ?_;rintro e w1 ⟨rfl,hb1⟩;obtain ⟨hc1,hf1⟩:=eO hb1;have hz1:w.heap.size < w1.heap.size:=by have:=hb1.size; simp at this; omega
   go_wp2_with fail;refine (aL _ _ hr).mono ?_;rintro e w1' ⟨rfl,rfl⟩;go_wp2_with fail;refine (eZ _ _ _ hc hd).mono ?_;rintro e w2 ⟨rfl,hb2⟩;go_wp2;go_ret;exact ⟨ah HT.out.symm,((Si _ _).alloc (Sj _) _).trans ((hb1.mono (by simp)).trans (hb2.mono (by omega)))⟩
  have h2':aR r=false:=by simpa using h2
  have HT:Hid (bn a b r c d s=false):=xD h2';clear h2;go_enter func128,ntmps128;go_wp2_with fail;refine (eZ _ _ _ ha hb).mono ?_;rintro e w1 ⟨rfl,hb1⟩;obtain ⟨hc1,hf1⟩:=eO hb1;go_wp2_with fail;refine (aL _ _ hr).mono ?_;rintro e w1' ⟨rfl,rfl⟩;go_wp2;go_ret;exact ⟨ah HT.out.symm,((Si _ _).alloc (Sj _) _).trans (hb1.mono (by simp))⟩
 have h1':dS a b=false:=by simpa using h1
 have HT:Hid (bn a b r c d s=false):=xC h1';clear h1;go_enter func128,ntmps128;go_wp2_with fail;refine (eZ _ _ _ ha hb).mono ?_;rintro e w1 ⟨rfl,hb1⟩;go_wp2;go_ret;exact ⟨ah HT.out.symm,((Si _ _).alloc (Sj _) _).trans (hb1.mono (by simp))⟩
def gW (t i:ByteArray) (left:Int):Int:=if left - t.size < 0 then -1 else if left - t.size - i.size < 0 then -1 else left - t.size - i.size
theorem nz {k:IntKind} {a b:Int} (h:a=b):Ending.returned (.int k a)=.returned (.int k b):=by rw [h]
theorem rO (t i:dB) (left:Int) (w:af) (ht:t.size≤maxLen) (hi:i.size≤maxLen) (h0:0≤left) (h1:left≤1048576) :
  Calls prog 42 #[.agg #[.string t,.string i],.int .i64 left] w fun e w'=>e=.returned (.int .i64 (gW t i left))∧aa w w':=by
 unfold maxLen at ht hi;go_enter func42,ntmps42;go_wp2
 all_goals go_ret
 all_goals refine ⟨nz ?_,(Si _ _).alloc (Sj _) _⟩
 all_goals unfold gW
 all_goals first | rw [if_pos (by omega)] | (rw [if_neg (by omega)]; first | rw [if_pos (by omega)] | rw [if_neg (by omega)])
theorem rP (t i:dB) (w:af) :
  Calls prog 45 #[.agg #[.string t,.string i]] w fun e w'=>e=.returned (.agg #[.string t,.string i])∧aa w w':=by
 go_enter func45,ntmps45;go_wp2;exact bodyPost_ret (v:=.agg #[.string t,.string i]) (by simp [results,Tryz.results45,go_sem]) rfl ⟨rfl,by
  repeat (first | exact Si _ _ | refine Below.setCell ?_ (by first | (simp; done) | (simp; omega)) _ | refine Below.alloc ?_ (by first | (simp; done) | (simp; omega)) _)⟩
theorem rQ (t i:dB) (left:Int):gW t i left≤left ∨ gW t i left=-1:=by
 unfold gW; split
 ·exact .inr rfl
 split
 ·exact .inr rfl
 exact .inl (by omega)
def jQ (a b r c d s:ByteArray) (left:Int):Int :=
 if gW a b left < 0 then -1 else if gW a b left - r.size < 0 then -1
 else if gW c d (gW a b left - r.size) < 0 then -1 else if gW c d (gW a b left - r.size) - s.size < 0 then -1
 else gW c d (gW a b left - r.size) - s.size
theorem xO (a b r c d s:dB) (left:Int):jQ a b r c d s left≤left ∨ jQ a b r c d s left=-1:=by
 unfold jQ;split
 ·exact .inr rfl
 split
 ·exact .inr rfl
 split
 ·exact .inr rfl
 split
 ·exact .inr rfl
 refine .inl ?_;have h1:=rQ a b left;have h2:=rQ c d (gW a b left - r.size);omega
theorem vg (a b r c d s:dB) (left:Int) (w:af) (ha:a.size≤maxLen) (hb:b.size≤maxLen) (hr:r.size≤maxLen) (hc:c.size≤maxLen) (hd:d.size≤maxLen) (hs:s.size≤maxLen) (h0:0≤left) (h1:left≤1048576) :
  Calls prog 28 #[.agg #[.string a,.string b,.string r,.string c,.string d,.string s],.int .i64 left] w fun e w'=>e=.returned (.int .i64 (jQ a b r c d s left))∧aa w w':=by
 have hr':=hr;have hs':=hs;unfold maxLen at hr' hs';have e1:=rQ a b left;have e2:=rQ c d (gW a b left - r.size);go_enter func28,ntmps28;go_wp2_with fail;refine (rO _ _ _ _ ha hb h0 h1).mono ?_;rintro e w1 ⟨rfl,hb1⟩;obtain ⟨hc1,hf1⟩:=eO hb1;have hz1:w.heap.size < w1.heap.size:=by have:=hb1.size; simp at this; omega
 have HB1:aa w w1:=((Si _ _).alloc (Sj _) _).trans (hb1.mono (by simp));by_cases n1:gW a b left < 0
 ·go_wp2;go_ret;exact ⟨nz (by rw [jQ,if_pos (by omega)]),HB1⟩
 by_cases n2:gW a b left - r.size < 0
 ·go_wp2;go_ret;exact ⟨nz (by rw [jQ,if_neg (by omega),if_pos (by omega)]),HB1⟩
 go_wp2_with fail;refine (rO _ _ _ _ hc hd (by omega) (by omega)).mono ?_;rintro e w2 ⟨rfl,hb2⟩;obtain ⟨hc2,hf2⟩:=eO hb2;have hz2:w.heap.size < w2.heap.size:=by have:=hb2.size; omega
 by_cases n3:gW c d (gW a b left - r.size) < 0
 ·go_wp2;go_ret;exact ⟨nz (by rw [jQ,if_neg (by omega),if_neg (by omega),if_pos (by omega)]),HB1.trans (hb2.mono (by omega))⟩
 by_cases n4:gW c d (gW a b left - r.size) - s.size < 0
 ·go_wp2;go_ret;exact ⟨nz (by rw [jQ,if_neg (by omega),if_neg (by omega),if_neg (by omega),if_pos (by omega)]),HB1.trans (hb2.mono (by omega))⟩
 go_wp2;go_ret;exact ⟨nz (by rw [jQ,if_neg (by omega),if_neg (by omega),if_neg (by omega),if_neg (by omega)]),HB1.trans (hb2.mono (by omega))⟩
theorem vk (a b r c d s:dB) (w:af) :
  Calls prog 33 #[.agg #[.string a,.string b,.string r,.string c,.string d,.string s]] w fun e w'=>e=.returned (.agg #[.string a,.string b,.string r,.string c,.string d,.string s])∧aa w w':=by
 go_enter func33,ntmps33;go_wp2_with fail;refine (rP _ _ _).mono ?_;rintro e w1 ⟨rfl,hb1⟩;obtain ⟨hc1,hf1⟩:=eO hb1;have hz1:w.heap.size + 1 + 1 < w1.heap.size:=by have:=hb1.size; simp at this; omega
 have hy1:w.heap.size + 1 < w1.heap.size:=by omega
 have hx1:w.heap.size < w1.heap.size:=by omega
 go_wp2_with fail;refine (rP _ _ _).mono ?_;rintro e w2 ⟨rfl,hb2⟩;obtain ⟨hc2,hf2⟩:=eO hb2;have hz2:w.heap.size + 1 + 1 < w2.heap.size:=by have:=hb2.size; simp at this; omega
 have hy2:w.heap.size + 1 < w2.heap.size:=by omega
 have hx2:w.heap.size < w2.heap.size:=by omega
 have HB1:aa w w1:=Below.trans (by
  repeat (first | exact Si _ _ | refine Below.setCell ?_ (by first | (simp; done) | (simp; omega)) _ | refine Below.alloc ?_ (by first | (simp; done) | (simp; omega)) _)) (hb1.mono (by simp; omega))
 have HB2:aa w w2:=Below.trans (by
  repeat (first | refine Below.setCell ?_ (by first | (simp; done) | (simp; omega)) _ | with_reducible exact HB1)) (hb2.mono (by simp; omega))
 clear hb1 hb2;go_wp2;exact bodyPost_ret (v:=.agg #[.string a,.string b,.string r,.string c,.string d,.string s]) (by simp [results,Tryz.results33,go_sem, *]) rfl ⟨rfl,by
  repeat (first | refine Below.setCell ?_ (by first | (simp; done) | (simp; omega)) _ | with_reducible exact HB2)⟩
structure Tp where
 a:ByteArray
 b:ByteArray
 r:ByteArray
 c:ByteArray
 d:ByteArray
 s:ByteArray
def Tp.fits (t:Tp):Prop:=t.a.size≤maxLen∧t.b.size≤maxLen∧t.r.size≤maxLen∧t.c.size≤maxLen∧t.d.size≤maxLen∧t.s.size≤maxLen
def Mm (w:World) (b off:Nat) (t:Tp):Prop :=
 w.cell? ⟨b,off,none⟩=some (.string t.a)∧w.cell? ⟨b,off + 1,none⟩=some (.string t.b)∧w.cell? ⟨b,off + 2,none⟩=some (.string t.r) ∧
 w.cell? ⟨b,off + 3,none⟩=some (.string t.c)∧w.cell? ⟨b,off + 4,none⟩=some (.string t.d)∧w.cell? ⟨b,off + 5,none⟩=some (.string t.s)
def dF (w:World) (b off:Nat) (ts:List Tp):Prop:=∀ (i:Nat) (h:i < ts.length),Mm w b (off + i * 6) ts[i]
def Sl (w:World) (ad:Option Addr) (ts:List Tp):Prop:=ts=[] ∨ ∃ b off,ad=some ⟨b,off,none⟩∧b < w.heap.size∧dF w b off ts
theorem Mm.same {w w':af} {b off:Nat} {t:Tp} (h:Mm w b off t) (hc:∀ o,w'.cell? ⟨b,o,none⟩=w.cell? ⟨b,o,none⟩):Mm w' b off t:=by
 obtain ⟨h0,h1,h2,h3,h4,h5⟩:=h;exact ⟨(hc _).trans h0,(hc _).trans h1,(hc _).trans h2,(hc _).trans h3,(hc _).trans h4,(hc _).trans h5⟩
theorem dF.below {w w':af} {b off B:Nat} {ts:List Tp} (h:dF w b off ts) (hB:Below B w w') (hb:b < B):dF w' b off ts :=
 fun i hi=>(h i hi).same fun o=>hB.cell (p:=⟨b,o,none⟩) hb
theorem Sl.below {w w':af} {ad:Option Addr} {ts:List Tp} (h:Sl w ad ts) (hB:aa w w'):Sl w' ad ts:=by
 rcases h with h | ⟨b,off,e,hb,hr⟩
 ·exact .inl h
 exact .inr ⟨b,off,e,Sg hb hB.size,hr.below hB hb⟩
theorem Cm (b off cap:Nat) (ts:List Tp) (left:Int) (w:af) (hlen:ts.length≤maxLen) (hr:dF w b off ts) (hb:b < w.heap.size) (hf:∀ t ∈ ts,t.fits) (h0:0≤left) (h1:left≤1048576) :
  Calls prog 6 #[.slice (some ⟨b,off,none⟩) ts.length cap,.int .i64 left] w fun e w'=>(∃ n:Int,e=.returned (.int .i64 n)∧(n=-1 ∨ 0≤n∧n≤left∧ts.length≤left))∧aa w w':=by
 unfold maxLen at hlen;by_cases hneg:left - ts.length < 0
 ·go_enter func6,ntmps6;go_wp2;go_ret;exact ⟨⟨-1,rfl,.inl rfl⟩,Si _ _⟩
 go_enter func6,ntmps6;go_wp2;go_loopw [1,5] (fun l i wr=>∃ (k:Nat) (x:Int),k≤ts.length∧i=.int .i64 k∧l=.int .i64 x∧0≤x∧x≤left∧aa w wr) (fun _ i _=>ts.length - (intOf i).toNat);case atStart=>exact ⟨0,_,Sm _,rfl,rfl,by omega,by omega,Si _ _⟩
 obtain ⟨k,x,hk,rfl,rfl,hx0,hx1,hB⟩:=hrel;by_cases hlt:k < ts.length
 ·obtain ⟨t0,t1,t2,t3,t4,t5⟩:=(hr.below hB hb) k hlt;obtain ⟨f0,f1,f2,f3,f4,f5⟩:=hf ts[k] (Sd hlt);have hle:=xO ts[k].a ts[k].b ts[k].r ts[k].c ts[k].d ts[k].s x;go_wp2_with fail;refine (vg _ _ _ _ _ _ _ _ f0 f1 f2 f3 f4 f5 hx0 (by omega)).mono ?_;rintro e w1 ⟨rfl,hb1⟩;by_cases hn:jQ ts[k].a ts[k].b ts[k].r ts[k].c ts[k].d ts[k].s x < 0
  ·go_wp2;go_ret;exact ⟨⟨-1,rfl,.inl rfl⟩,hB.trans (hb1.mono hB.size)⟩
  go_wp2;go_roundw;case rel=>exact ⟨k + 1,_,by omega,by go_num,rfl,by omega,by omega,hB.trans (hb1.mono hB.size)⟩
  simp [intOf]; omega
 go_wp2;go_ret;exact ⟨⟨x,rfl,.inr ⟨hx0,hx1,by omega⟩⟩,hB⟩
theorem Cn (ad:Option Addr) (cap:Nat) (left:Int) (w:af) (h0:0≤left) (h1:left≤1048576) :
  Calls prog 6 #[.slice ad 0 cap,.int .i64 left] w fun e w'=>(∃ n:Int,e=.returned (.int .i64 n)∧(n=-1 ∨ 0≤n∧n≤left∧(0:Nat)≤left))∧aa w w':=by
 go_enter func6,ntmps6;go_wp2;go_loopw [1,5] (fun l i wr=>∃ x:Int,l=.int .i64 x∧i=.int .i64 0∧0≤x∧x≤left∧aa w wr) (fun _ i _=>(intOf i).toNat);case atStart=>exact ⟨_,rfl,rfl,by omega,by omega,Si _ _⟩
 obtain ⟨x,rfl,rfl,hx0,hx1,hB⟩:=hrel;go_wp2;go_ret;exact ⟨⟨x,rfl,.inr ⟨hx0,hx1,by omega⟩⟩,hB⟩
theorem Co (ad:Option Addr) (cap:Nat) (ts:List Tp) (left:Int) (w:af) (hlen:ts.length≤maxLen) (hs:Sl w ad ts) (hf:∀ t ∈ ts,t.fits) (h0:0≤left) (h1:left≤1048576) :
  Calls prog 6 #[.slice ad ts.length cap,.int .i64 left] w fun e w'=>(∃ n:Int,e=.returned (.int .i64 n)∧(n=-1 ∨ 0≤n∧n≤left∧ts.length≤left))∧aa w w':=by
 rcases hs with rfl | ⟨b,off,rfl,hb,hr⟩
 ·exact Cn ad cap left w h0 h1
 exact Cm b off cap ts left w hlen hr hb hf h0 h1
def xP (w:World) (g o:Nat) (t:Tp):World :=
 (((((w.setCell ⟨g,o,none⟩ (.string t.a)).setCell ⟨g,o + 1,none⟩ (.string t.b)).setCell ⟨g,o + 2,none⟩ (.string t.r)).setCell ⟨g,o + 3,none⟩ (.string t.c)).setCell ⟨g,o + 4,none⟩ (.string t.d)).setCell ⟨g,o + 5,none⟩ (.string t.s)
theorem jN {w:af} {g i j:Nat} {v:Value} (h:i ≠ j):(w.setCell ⟨g,i,none⟩ v).cell? ⟨g,j,none⟩=w.cell? ⟨g,j,none⟩:=by
 apply World.cell?_setCell_other;intro e;exact h (congrArg Addr.off e)
theorem JQ {w:af} {a:Addr} {v u:Value} (h:w.cell? a=some u):(w.setCell a v).cell? a=some v:=by
 apply World.cell?_setCell_same; exact h
theorem DZ (w:af) (g o:Nat) (t:Tp) (j:Nat) (h:j < o ∨ o + 6≤j):(xP w g o t).cell? ⟨g,j,none⟩=w.cell? ⟨g,j,none⟩:=by
 unfold xP;rw [jN (by omega),jN (by omega),jN (by omega),jN (by omega),jN (by omega),jN (by omega)]
theorem I9 {w:af} {g o:Nat} (t:Tp) (h:∀ j,j < 6→(w.cell? ⟨g,o + j,none⟩).isSome=true):Mm (xP w g o t) g o t:=by
 have e:∀ (W:World) (i j:Nat) (v:Value),(W.cell? ⟨g,o + j,none⟩).isSome=true→((W.setCell ⟨g,o + i,none⟩ v).cell? ⟨g,o + j,none⟩).isSome=true:=by
  intro W i j v hW;by_cases hij:i=j
  ·subst hij;obtain ⟨u,hu⟩:=Option.isSome_iff_exists.mp hW;rw [JQ hu]; rfl
  rw [jN (by omega)]; exact hW
 have same:∀ (W:World) (j:Nat) (v:Value),(W.cell? ⟨g,o + j,none⟩).isSome=true→(W.setCell ⟨g,o + j,none⟩ v).cell? ⟨g,o + j,none⟩=some v:=by
  intro W j v hW;obtain ⟨u,hu⟩:=Option.isSome_iff_exists.mp hW;exact JQ hu
 have h0:=h 0 (by omega);have h1:=h 1 (by omega);have h2:=h 2 (by omega);have h3:=h 3 (by omega);have h4:=h 4 (by omega);have h5:=h 5 (by omega);unfold xP Mm;refine ⟨?_,?_,?_,?_,?_,?_⟩
 ·rw [jN (by omega),jN (by omega),jN (by omega),jN (by omega),jN (by omega)];exact same _ 0 _ h0
 ·rw [jN (by omega),jN (by omega),jN (by omega),jN (by omega)];exact same _ 1 _ (e _ 0 1 _ h1)
 ·rw [jN (by omega),jN (by omega),jN (by omega)];exact same _ 2 _ (e _ 1 2 _ (e _ 0 2 _ h2))
 ·rw [jN (by omega),jN (by omega)];exact same _ 3 _ (e _ 2 3 _ (e _ 1 3 _ (e _ 0 3 _ h3)))
 ·rw [jN (by omega)];exact same _ 4 _ (e _ 3 4 _ (e _ 2 4 _ (e _ 1 4 _ (e _ 0 4 _ h4))))
 exact same _ 5 _ (e _ 4 5 _ (e _ 3 5 _ (e _ 2 5 _ (e _ 1 5 _ (e _ 0 5 _ h5)))))
theorem D5 (w:af) (g o:Nat) (t:Tp) (x:Addr):(xP w g o t).frozen? x=w.frozen? x:=by simp [xP]
theorem Gq {B:Nat} {w0 w:af} {g o:Nat} {t:Tp} (h:Below B w0 w) (hg:B≤g):Below B w0 (xP w g o t):=by
 unfold xP;exact (((((h.setCell (by exact hg) _).setCell (by exact hg) _).setCell (by exact hg) _).setCell (by exact hg) _).setCell (by exact hg) _).setCell (by exact hg) _
theorem JR (w:af) (g o:Nat) (t:Tp):(xP w g o t).heap.size=w.heap.size:=by simp [xP]
theorem Ja:∃ i z,prog.info? 42=some i∧i.zero=some z∧i.size=6∧i.bytes=96:=by
 have h:(prog.info? 42).map (fun i=>(i.zero.isSome,i.size,i.bytes))=some (true,6,96):=by kernel_rfl
 cases hi:prog.info? 42 with
 | none=>rw [hi] at h; cases h
 | some i =>
  rw [hi] at h;simp at h;obtain ⟨z,hz⟩:=Option.isSome_iff_exists.mp h.1;exact ⟨i,z,rfl,hz,h.2.1,h.2.2⟩
structure Filling (w wr:World) (g:Nat) (ts:List Tp) (k:Nat):Prop where
 below:aa w wr
 ge:w.heap.size≤g
 lt:g < wr.heap.size
 done:∀ (i:Nat) (h:i < ts.length),i < k→Mm wr g (0 + i * 6) ts[i]
 there:∀ j,j < ts.length * 6→(wr.cell? ⟨g,j,none⟩).isSome=true
 free:∀ j,wr.frozen? ⟨g,j,none⟩=false
theorem Filling.later {w wr w1:af} {g:Nat} {ts:List Tp} {k:Nat} (h:Filling w wr g ts k) (hb:aa wr w1):Filling w w1 g ts k where
 below:=h.below.trans (hb.mono h.below.size)
 ge:=h.ge
 lt:=Sg h.lt hb.size
 done i hi hk:=(h.done i hi hk).same fun o=>hb.cell (p:=⟨g,o,none⟩) h.lt
 there j hj:=by rw [hb.cell (p:=⟨g,j,none⟩) h.lt]; exact h.there j hj
 free j:=by rw [hb.frozen (p:=⟨g,j,none⟩) h.lt]; exact h.free j
theorem Filling.put {w wr:af} {g:Nat} {ts:List Tp} {k:Nat} (h:Filling w wr g ts k) (hk:k < ts.length):Filling w (xP wr g (k * 6) ts[k]) g ts (k + 1) where
 below:=Gq h.below h.ge
 ge:=h.ge
 lt:=by rw [JR]; exact h.lt
 done i hi hik:=by
  by_cases e:i=k
  ·subst e;rw [SG];exact I9 _ (fun j hj=>h.there _ (by omega))
  obtain ⟨a0,a1,a2,a3,a4,a5⟩:=h.done i hi (by omega);refine ⟨?_,?_,?_,?_,?_,?_⟩ <;> (rw [DZ _ _ _ _ _ (by omega)]; assumption)
 there j hj:=by
  by_cases hin:j < k * 6 ∨ k * 6 + 6≤j
  ·rw [DZ _ _ _ _ _ hin]; exact h.there j hj
  obtain ⟨a0,a1,a2,a3,a4,a5⟩:=I9 (w:=wr) (g:=g) (o:=k * 6) ts[k] (fun j hj=>h.there _ (by omega));have hj6:j=k * 6 ∨ j=k * 6 + 1 ∨ j=k * 6 + 2 ∨ j=k * 6 + 3 ∨ j=k * 6 + 4 ∨ j=k * 6 + 5:=by omega
  rcases hj6 with e | e | e | e | e | e
  ·rw [e,a0]; rfl
  ·rw [e,a1]; rfl
  ·rw [e,a2]; rfl
  ·rw [e,a3]; rfl
  ·rw [e,a4]; rfl
  rw [e,a5]; rfl
 free j:=by rw [D5]; exact h.free j
theorem rR {w w0:af} {ts:List Tp} {base:Nat} {e:TypeId} {xs:List Value} (h:w0.ownsRow base e 6 (.slice (some ⟨w.heap.size,0,none⟩) ts.length ts.length) ts.length xs) (hg:w.grownBy w0 none):Filling w w0 w.heap.size ts 0 where
 below:=(Si _ _).grown hg (Sj _) (fun k hk=>by cases hk)
 ge:=Sj _
 lt:=(h.lt w.heap.size rfl).2
 done i hi hk:=absurd hk (SV _)
 there j hj:=by
  rw [h.cellAt j hj,Sw (by rw [h.1]; exact hj)]; rfl
 free j:=h.frozenAt j
theorem Cq (b off cap:Nat) (ts:List Tp) (w:af) (hlen:ts.length≤1048576) (hr:dF w b off ts) (hb:b < w.heap.size) :
  Calls prog 10 #[.slice (some ⟨b,off,none⟩) ts.length cap] w fun e w'=>e=.returned (.slice (some ⟨w.heap.size,0,none⟩) ts.length ts.length)∧Filling w w' w.heap.size ts ts.length:=by
 obtain ⟨inf,z,hi,hz0,hz1,hz2⟩:=Ja;go_enter func10,ntmps10;go_wp2_with (at_make; refine wpList_make_full _ rfl _ _ 38 rfl w.heap.size 42 inf z 6 underlying38 hi hz0 hz1 .i64 .i64 _ _ ts.length rfl rfl rfl rfl (by rw [hz2]; omega) (by unfold maxLen; omega) (Sj _) ?_; intro w0 hown0 Tg);have F0:Filling w w0 w.heap.size ts 0:=rR hown0 Tg;clear hown0 Tg hi hz0 hz1 hz2;go_loopw [4] (fun i wr=>∃ k:Nat,k≤ts.length∧i=.int .i64 k∧Filling w wr w.heap.size ts k) (fun i _=>ts.length - (intOf i).toNat);case atStart=>exact ⟨0,Sm _,rfl,F0⟩
 obtain ⟨k,hk,rfl,F⟩:=hrel;by_cases hlt:k < ts.length
 ·obtain ⟨t0,t1,t2,t3,t4,t5⟩:=(hr.below F.below hb) k hlt;go_wp2_with fail;refine (vk _ _ _ _ _ _ _).mono ?_;rintro e w1 ⟨rfl,hb1⟩;have F1:=F.later hb1;have fz:=F1.free;obtain ⟨v0,u0⟩:=Option.isSome_iff_exists.mp (F1.there (k * 6) (by omega));obtain ⟨v1,u1⟩:=Option.isSome_iff_exists.mp (F1.there (k * 6 + 1) (by omega));obtain ⟨v2,u2⟩:=Option.isSome_iff_exists.mp (F1.there (k * 6 + 2) (by omega));obtain ⟨v3,u3⟩:=Option.isSome_iff_exists.mp (F1.there (k * 6 + 3) (by omega));obtain ⟨v4,u4⟩:=Option.isSome_iff_exists.mp (F1.there (k * 6 + 4) (by omega));obtain ⟨v5,u5⟩:=Option.isSome_iff_exists.mp (F1.there (k * 6 + 5) (by omega));have F2:=F1.put hlt;clear F F0 t0 t1 t2 t3 t4 t5 hb1;go_wp2;go_roundw;case rel=>exact ⟨k + 1,by omega,by go_num,F2⟩
  simp [intOf]; omega
 obtain rfl:k=ts.length:=by omega
 go_wp2;go_ret;exact ⟨rfl,F⟩
theorem Cr (ad:Option Addr) (cap:Nat) (w:af) :
  Calls prog 10 #[.slice ad 0 cap] w fun e w'=>e=.returned (.slice (some ⟨w.heap.size,0,none⟩) 0 0)∧Filling w w' w.heap.size [] 0:=by
 obtain ⟨inf,z,hi,hz0,hz1,hz2⟩:=Ja;go_enter func10,ntmps10;go_wp2_with (at_make; refine wpList_make_full _ rfl _ _ 38 rfl w.heap.size 42 inf z 6 underlying38 hi hz0 hz1 .i64 .i64 _ _ 0 rfl rfl rfl rfl (by omega) (by unfold maxLen; omega) (Sj _) ?_; intro w0 hown0 Tg);have F0:Filling w w0 w.heap.size [] 0:=rR (ts:=[]) hown0 Tg;clear hown0 Tg hi hz0 hz1 hz2;go_loopw [4] (fun i wr=>∃ k:Nat,k=0∧i=.int .i64 k∧Filling w wr w.heap.size [] 0) (fun i _=>(intOf i).toNat);case atStart=>exact ⟨0,rfl,rfl,F0⟩
 obtain ⟨k,rfl,rfl,F⟩:=hrel;go_wp2;go_ret;exact ⟨rfl,F⟩
theorem jX (ad:Option Addr) (cap:Nat) (ts:List Tp) (w:af) (hlen:ts.length≤1048576) (hs:Sl w ad ts) :
  Calls prog 10 #[.slice ad ts.length cap] w fun e w'=>e=.returned (.slice (some ⟨w.heap.size,0,none⟩) ts.length ts.length)∧Filling w w' w.heap.size ts ts.length:=by
 rcases hs with rfl | ⟨b,off,rfl,hb,hr⟩
 ·exact Cr ad cap w
 exact Cq b off cap ts w hlen hr hb
theorem Filling.row {w w':af} {g:Nat} {ts:List Tp} (h:Filling w w' g ts ts.length):dF w' g 0 ts:=fun i hi=>h.done i hi hi
theorem Filling.sl {w w':af} {g:Nat} {ts:List Tp} (h:Filling w w' g ts ts.length):Sl w' (some ⟨g,0,none⟩) ts:=.inr ⟨g,0,rfl,h.lt,h.row⟩
end Go.Proofs.YtdmniljjnaebbaaGreatDoor
namespace Go.Proofs.YtdmniljjnaebbaaGreatDoor
open Go.ChangeShapes Go.WideShapes Go.ChangeAt Go.RowKit
open Pl
attribute [local go_sem ↓] Go.wp_at_zero Go.wp_at_succ
theorem P5 {w W w':af} {n:Nat} {x0 x1 x2 x3 x4 x5:Value} (h:W.cell? ⟨n,0,none⟩=some x0∧W.cell? ⟨n,1,none⟩=some x1∧W.cell? ⟨n,2,none⟩=some x2∧W.cell? ⟨n,3,none⟩=some x3∧W.cell? ⟨n,4,none⟩=some x4∧W.cell? ⟨n,5,none⟩=some x5∧n < W.heap.size∧Below n w W) (hb:aa W w'):w'.cell? ⟨n,0,none⟩=some x0∧w'.cell? ⟨n,1,none⟩=some x1∧w'.cell? ⟨n,2,none⟩=some x2∧w'.cell? ⟨n,3,none⟩=some x3∧w'.cell? ⟨n,4,none⟩=some x4∧w'.cell? ⟨n,5,none⟩=some x5∧n < w'.heap.size∧Below n w w':=by
 obtain ⟨h0,h1,h2,h3,h4,h5,hn,hB⟩:=h;have hc:∀ o,w'.cell? ⟨n,o,none⟩=W.cell? ⟨n,o,none⟩:=fun o=>hb.cell (p:=⟨n,o,none⟩) hn;refine ⟨by rw [hc]; exact h0,by rw [hc]; exact h1,by rw [hc]; exact h2,by rw [hc]; exact h3,by rw [hc]; exact h4,by rw [hc]; exact h5,Sg hn hb.size,hB.trans (hb.mono (Tf hn))⟩
theorem ww (a b r c d s:dB) (w:af) (ha:a.size≤maxLen) (hb:b.size≤maxLen) (hr:r.size≤maxLen) (hc:c.size≤maxLen) (hd:d.size≤maxLen) (hs:s.size≤maxLen) :
  Calls prog 158 #[.agg #[.string a,.string b,.string r,.string c,.string d,.string s]] w fun e w'=>e=.returned (.string (aU a b r c d s))∧aa w w':=by
 by_cases hn:bn a b r c d s=true
 ·obtain ⟨h1,h2,h3,h4⟩:=jf hn;have hx:=fZ a b;have hy:=fZ c d;have hr12:=(lW h2).2;have hs12:=Ce h4;clear h1 h2 h3 h4;go_enter func158,ntmps158;go_wp2_with fail;refine (dI _ _ _ _ _ _ _ ha hb hr hc hd hs).mono ?_;rintro e w1 ⟨rfl,hb1⟩;obtain ⟨hc1,hf1⟩:=eO hb1;have hz1:w.heap.size < w1.heap.size:=by have:=hb1.size; simp at this; omega
  have k:∀ o v,(w.alloc (.cells #[.string a,.string b,.string r,.string c,.string d,.string s] 42)).cell? ⟨w.heap.size,o,none⟩=some v→w1.cell? ⟨w.heap.size,o,none⟩=some v:=fun o v h=>by rw [hc1 _ _ (by simp)]; exact h
  have k0:=k 0 (.string a) (by simp);have k1:=k 1 (.string b) (by simp);have k2:=k 2 (.string r) (by simp);have k3:=k 3 (.string c) (by simp);have k4:=k 4 (.string d) (by simp);have k5:=k 5 (.string s) (by simp);have HB1:aa w w1:=((Si _ _).alloc (Sj _) _).trans (hb1.mono (by simp));clear k hb1 hc1 hf1;have q1:(9223372036854775807 < (ax a b).size + 1)=False:=by simp; omega
  have q2:(9223372036854775807 < (ax a b).size + 1 + r.size)=False:=by simp; omega
  have q3:(9223372036854775807 < (ax a b).size + 1 + r.size + 1)=False:=by simp; omega
  have q4:(9223372036854775807 < (ax a b).size + 1 + r.size + 1 + (ax c d).size)=False:=by simp; omega
  go_wp2_with fail
  go_region_held3 (fun w'=>w'.cell? ⟨w.heap.size,0,none⟩=some (.string a)∧w'.cell? ⟨w.heap.size,1,none⟩=some (.string b)∧w'.cell? ⟨w.heap.size,2,none⟩=some (.string r)∧w'.cell? ⟨w.heap.size,3,none⟩=some (.string c)∧w'.cell? ⟨w.heap.size,4,none⟩=some (.string d)∧w'.cell? ⟨w.heap.size,5,none⟩=some (.string s)∧w.heap.size < w'.heap.size∧aa w w')
   (first | exact P5 (by assumption) hbx | exact ⟨k0,k1,k2,k3,k4,k5,hz1,HB1.drew⟩)
   (first | (go_at_call 188; refine (wm _ _ _ (by assumption) (by assumption)).mono ?_; rintro e w' ⟨rfl,hbx⟩))
  rename_i hH;obtain ⟨g0,g1,g2,g3,g4,g5,gz,gB⟩:=hH;clear k0 k1 k2 k3 k4 k5 hbx q1 q2 q3 q4 HB1;by_cases he:s.toList.isEmpty=true
  ·have HT:Hid (aU a b r c d s=_):=kT hn he;go_wp2;go_ret;exact ⟨fu HT.out.symm,gB⟩
  have he':s.toList.isEmpty=false:=by simpa using he
  have HT:Hid (aU a b r c d s=_):=kU hn he';clear he;go_wp2;go_ret;exact ⟨fu HT.out.symm,gB⟩
 have hn':bn a b r c d s=false:=by simpa using hn
 have HT:Hid (aU a b r c d s=⟨#[]⟩):=qN hn';clear hn;go_enter func158,ntmps158;go_wp2_with fail;refine (dI _ _ _ _ _ _ _ ha hb hr hc hd hs).mono ?_;rintro e w1 ⟨rfl,hb1⟩;go_wp2;go_ret;exact ⟨fu HT.out.symm,((Si _ _).alloc (Sj _) _).trans (hb1.mono (by simp))⟩
theorem wy (a b r c d s:dB) (w:af) (ha:a.size≤maxLen) (hb:b.size≤maxLen) (hr:r.size≤maxLen) (hc:c.size≤maxLen) (hd:d.size≤maxLen) (hs:s.size≤maxLen) :
  Calls prog 148 #[.agg #[.string a,.string b,.string r,.string c,.string d,.string s]] w fun e w'=>e=.returned (.string (aU a b r c d s))∧aa w w':=by
 by_cases hn:bn a b r c d s=true
 ·obtain ⟨h1,h2,h3,h4⟩:=jf hn;have hx:=fZ a b;have hy:=fZ c d;have hr12:=(lW h2).2;have hs12:=Ce h4;clear h1 h2 h3 h4;go_enter func148,ntmps148;go_wp2_with fail;refine (d9 _ _ _ _ _ _ _ ha hb hr hc hd hs).mono ?_;rintro e w1 ⟨rfl,hb1⟩;obtain ⟨hc1,hf1⟩:=eO hb1;have hz1:w.heap.size < w1.heap.size:=by have:=hb1.size; simp at this; omega
  have k:∀ o v,(w.alloc (.cells #[.string a,.string b,.string r,.string c,.string d,.string s] 42)).cell? ⟨w.heap.size,o,none⟩=some v→w1.cell? ⟨w.heap.size,o,none⟩=some v:=fun o v h=>by rw [hc1 _ _ (by simp)]; exact h
  have k0:=k 0 (.string a) (by simp);have k1:=k 1 (.string b) (by simp);have k2:=k 2 (.string r) (by simp);have k3:=k 3 (.string c) (by simp);have k4:=k 4 (.string d) (by simp);have k5:=k 5 (.string s) (by simp);have HB1:aa w w1:=((Si _ _).alloc (Sj _) _).trans (hb1.mono (by simp));clear k hb1 hc1 hf1;have q1:(9223372036854775807 < (ax a b).size + 1)=False:=by simp; omega
  have q2:(9223372036854775807 < (ax a b).size + 1 + r.size)=False:=by simp; omega
  have q3:(9223372036854775807 < (ax a b).size + 1 + r.size + 1)=False:=by simp; omega
  have q4:(9223372036854775807 < (ax a b).size + 1 + r.size + 1 + (ax c d).size)=False:=by simp; omega
  go_wp2_with fail
  go_region_held3 (fun w'=>w'.cell? ⟨w.heap.size,0,none⟩=some (.string a)∧w'.cell? ⟨w.heap.size,1,none⟩=some (.string b)∧w'.cell? ⟨w.heap.size,2,none⟩=some (.string r)∧w'.cell? ⟨w.heap.size,3,none⟩=some (.string c)∧w'.cell? ⟨w.heap.size,4,none⟩=some (.string d)∧w'.cell? ⟨w.heap.size,5,none⟩=some (.string s)∧w.heap.size < w'.heap.size∧aa w w')
   (first | exact P5 (by assumption) hbx | exact ⟨k0,k1,k2,k3,k4,k5,hz1,HB1.drew⟩)
   (first | (go_at_call 183; refine (wu _ _ _ (by assumption) (by assumption)).mono ?_; rintro e w' ⟨rfl,hbx⟩))
  rename_i hH;obtain ⟨g0,g1,g2,g3,g4,g5,gz,gB⟩:=hH;clear k0 k1 k2 k3 k4 k5 hbx q1 q2 q3 q4 HB1;by_cases he:s.toList.isEmpty=true
  ·have HT:Hid (aU a b r c d s=_):=kT hn he;go_wp2;go_ret;exact ⟨fu HT.out.symm,gB⟩
  have he':s.toList.isEmpty=false:=by simpa using he
  have HT:Hid (aU a b r c d s=_):=kU hn he';clear he;go_wp2;go_ret;exact ⟨fu (HT.out.trans (by simp only [ByteArray.append_assoc])).symm,gB⟩
 have hn':bn a b r c d s=false:=by simpa using hn
 have HT:Hid (aU a b r c d s=⟨#[]⟩):=qN hn';clear hn;go_enter func148,ntmps148;go_wp2_with fail;refine (d9 _ _ _ _ _ _ _ ha hb hr hc hd hs).mono ?_;rintro e w1 ⟨rfl,hb1⟩;go_wp2;go_ret;exact ⟨fu HT.out.symm,((Si _ _).alloc (Sj _) _).trans (hb1.mono (by simp))⟩
end Go.Proofs.YtdmniljjnaebbaaGreatDoor
namespace Go.Proofs.YtdmniljjnaebbaaGreatDoor
open Go.ChangeShapes Go.WideShapes Go.ChangeAt Go.RowKit
open Pl
attribute [local go_sem ↓] Go.wp_at_zero Go.wp_at_succ
theorem Gr {w W w':af} {n m k:Nat} {x0 x1 x2 x3 x4 x5 y0 y1 y2 y3 y4 y5:Value} (hk:k≤n) (h:W.cell? ⟨n,0,none⟩=some x0∧W.cell? ⟨n,1,none⟩=some x1∧W.cell? ⟨n,2,none⟩=some x2∧W.cell? ⟨n,3,none⟩=some x3∧W.cell? ⟨n,4,none⟩=some x4∧W.cell? ⟨n,5,none⟩=some x5∧W.cell? ⟨m,0,none⟩=some y0∧W.cell? ⟨m,1,none⟩=some y1∧W.cell? ⟨m,2,none⟩=some y2∧W.cell? ⟨m,3,none⟩=some y3∧W.cell? ⟨m,4,none⟩=some y4∧W.cell? ⟨m,5,none⟩=some y5∧n < W.heap.size∧m < W.heap.size∧Below k w W) (hb:aa W w'):w'.cell? ⟨n,0,none⟩=some x0∧w'.cell? ⟨n,1,none⟩=some x1∧w'.cell? ⟨n,2,none⟩=some x2∧w'.cell? ⟨n,3,none⟩=some x3∧w'.cell? ⟨n,4,none⟩=some x4∧w'.cell? ⟨n,5,none⟩=some x5∧w'.cell? ⟨m,0,none⟩=some y0∧w'.cell? ⟨m,1,none⟩=some y1∧w'.cell? ⟨m,2,none⟩=some y2∧w'.cell? ⟨m,3,none⟩=some y3∧w'.cell? ⟨m,4,none⟩=some y4∧w'.cell? ⟨m,5,none⟩=some y5∧n < w'.heap.size∧m < w'.heap.size∧Below k w w':=by
 obtain ⟨h0,h1,h2,h3,h4,h5,h6,h7,h8,h9,h10,h11,hn,hm,hB⟩:=h;have hc:∀ o,w'.cell? ⟨n,o,none⟩=W.cell? ⟨n,o,none⟩:=fun o=>hb.cell (p:=⟨n,o,none⟩) hn;have hd:∀ o,w'.cell? ⟨m,o,none⟩=W.cell? ⟨m,o,none⟩:=fun o=>hb.cell (p:=⟨m,o,none⟩) hm;exact ⟨by rw [hc]; exact h0,by rw [hc]; exact h1,by rw [hc]; exact h2,by rw [hc]; exact h3,by rw [hc]; exact h4,by rw [hc]; exact h5,by rw [hd]; exact h6,by rw [hd]; exact h7,by rw [hd]; exact h8,by rw [hd]; exact h9,by rw [hd]; exact h10,by rw [hd]; exact h11,Sg hn hb.size,Sg hm hb.size,hB.trans (hb.mono (by omega))⟩
theorem xQ (w:af) (o1 o2:Obj):aa w ((w.alloc o1).alloc o2) :=
 ((Si _ _).alloc (Sj _) _).alloc (by simp) _
def D6 (a b r c d s a' b' r' c' d' s':ByteArray):Int:=Lib.compareBytes (aU a b r c d s).data.toList (aU a' b' r' c' d' s').data.toList
theorem rT (x y:List UInt8):decide (Lib.compareBytes x y < 0)=Op.bytesLess x y:=by
 induction x generalizing y with
 | nil=>cases y <;> simp [Lib.compareBytes,Op.bytesLess]
 | cons a x ih =>
  cases y with
  | nil=>simp [Lib.compareBytes,Op.bytesLess]
  | cons b y =>
   unfold Lib.compareBytes Op.bytesLess;by_cases h:a < b
   ·simp [h]
   by_cases h2:b < a
   ·have hne:(a == b)=false:=by simp; intro e; subst e; exact h h2
    simp [h,h2,hne]
   have he:a=b:=by
    have h1:=UInt8.not_lt.mp h;have h3:=UInt8.not_lt.mp h2;exact UInt8.le_antisymm h3 h1
   subst he;simp [ih]
theorem P6 (a b r c d s a' b' r' c' d' s':dB) (w W:af) (hW:W=((w.alloc (.cells #[.string a,.string b,.string r,.string c,.string d,.string s] 42)).alloc (.cells #[.string a',.string b',.string r',.string c',.string d',.string s'] 42))):W.drew.cell? ⟨w.heap.size,0,none⟩=some (.string a)∧W.drew.cell? ⟨w.heap.size,1,none⟩=some (.string b)∧W.drew.cell? ⟨w.heap.size,2,none⟩=some (.string r)∧W.drew.cell? ⟨w.heap.size,3,none⟩=some (.string c)∧W.drew.cell? ⟨w.heap.size,4,none⟩=some (.string d)∧W.drew.cell? ⟨w.heap.size,5,none⟩=some (.string s)∧W.drew.cell? ⟨w.heap.size + 1,0,none⟩=some (.string a')∧W.drew.cell? ⟨w.heap.size + 1,1,none⟩=some (.string b')∧W.drew.cell? ⟨w.heap.size + 1,2,none⟩=some (.string r')∧W.drew.cell? ⟨w.heap.size + 1,3,none⟩=some (.string c')∧W.drew.cell? ⟨w.heap.size + 1,4,none⟩=some (.string d')∧W.drew.cell? ⟨w.heap.size + 1,5,none⟩=some (.string s')∧w.heap.size < W.drew.heap.size∧w.heap.size + 1 < W.drew.heap.size∧aa w (W.drew):=by
 subst hW;refine ⟨?_,?_,?_,?_,?_,?_,?_,?_,?_,?_,?_,?_,?_,?_,?_⟩
 all_goals first | exact (xQ _ _ _).drew | (simp; done) | (simp; omega)
theorem kY (a b r c d s a' b' r' c' d' s':dB) (w:af) (ha:a.size≤maxLen) (hb:b.size≤maxLen) (hr:r.size≤maxLen) (hc:c.size≤maxLen) (hd:d.size≤maxLen) (hs:s.size≤maxLen) (ga:a'.size≤maxLen) (gb:b'.size≤maxLen) (gr:r'.size≤maxLen) (gc:c'.size≤maxLen) (gd:d'.size≤maxLen) (gs:s'.size≤maxLen) :
  Calls prog 100 #[.agg #[.string a,.string b,.string r,.string c,.string d,.string s],.agg #[.string a',.string b',.string r',.string c',.string d',.string s']] w fun e w'=>e=.returned (.int .i64 (D6 a b r c d s a' b' r' c' d' s'))∧aa w w':=by
 have H0:=P6 a b r c d s a' b' r' c' d' s' w _ rfl;go_enter func100,ntmps100;go_wp2_with fail
 go_region_held3 (fun w'=>w'.cell? ⟨w.heap.size,0,none⟩=some (.string a)∧w'.cell? ⟨w.heap.size,1,none⟩=some (.string b)∧w'.cell? ⟨w.heap.size,2,none⟩=some (.string r)∧w'.cell? ⟨w.heap.size,3,none⟩=some (.string c)∧w'.cell? ⟨w.heap.size,4,none⟩=some (.string d)∧w'.cell? ⟨w.heap.size,5,none⟩=some (.string s)∧w'.cell? ⟨w.heap.size + 1,0,none⟩=some (.string a')∧w'.cell? ⟨w.heap.size + 1,1,none⟩=some (.string b')∧w'.cell? ⟨w.heap.size + 1,2,none⟩=some (.string r')∧w'.cell? ⟨w.heap.size + 1,3,none⟩=some (.string c')∧w'.cell? ⟨w.heap.size + 1,4,none⟩=some (.string d')∧w'.cell? ⟨w.heap.size + 1,5,none⟩=some (.string s')∧w.heap.size < w'.heap.size∧w.heap.size + 1 < w'.heap.size∧aa w w')
  (first | assumption | exact Gr (Sj _) (by assumption) hbx | exact H0)
  (first | (go_at_call 148; refine (wy _ _ _ _ _ _ _ (by assumption) (by assumption) (by assumption) (by assumption) (by assumption) (by assumption)).mono ?_; rintro e w' ⟨rfl,hbx⟩) | (go_at_call 147; refine (Tryz.strings_Compare _ _ _).mono ?_; rintro e w' ⟨rfl,rfl⟩))
 rename_i hH;obtain ⟨-,-,-,-,-,-,-,-,-,-,-,-,-,-,gB⟩:=hH;go_wp2;go_ret;exact ⟨rfl,gB⟩
def eQ (a b r c d s a' b' r' c' d' s':ByteArray):Bool:=bn a b r c d s && bn a' b' r' c' d' s' && Op.bytesLess (aU a b r c d s).toList (aU a' b' r' c' d' s').toList
theorem xR {a b r c d s a' b' r' c' d' s':ByteArray} (h:bn a b r c d s=false):eQ a b r c d s a' b' r' c' d' s'=false:=by simp [eQ,h]
theorem xS {a b r c d s a' b' r' c' d' s':ByteArray} (h:bn a' b' r' c' d' s'=false):eQ a b r c d s a' b' r' c' d' s'=false:=by simp [eQ,h]
theorem qR {a b r c d s a' b' r' c' d' s':ByteArray} (h:bn a b r c d s=true) (h2:bn a' b' r' c' d' s'=true):eQ a b r c d s a' b' r' c' d' s'=Op.bytesLess (aU a b r c d s).toList (aU a' b' r' c' d' s').toList:=by simp [eQ,h,h2]
theorem xU {a b r c d s a' b' r' c' d' s':ByteArray} (h:bn a b r c d s=true) (h2:bn a' b' r' c' d' s'=true):eQ a b r c d s a' b' r' c' d' s'=decide (D6 a b r c d s a' b' r' c' d' s' < 0):=by
 rw [qR h h2,D6,rT,Go.ByteArray.toList_eq,Go.ByteArray.toList_eq]
theorem lF (a b r c d s a' b' r' c' d' s':dB) (w:af) (ha:a.size≤maxLen) (hb:b.size≤maxLen) (hr:r.size≤maxLen) (hc:c.size≤maxLen) (hd:d.size≤maxLen) (hs:s.size≤maxLen) (ga:a'.size≤maxLen) (gb:b'.size≤maxLen) (gr:r'.size≤maxLen) (gc:c'.size≤maxLen) (gd:d'.size≤maxLen) (gs:s'.size≤maxLen) :
  Calls prog 113 #[.agg #[.string a,.string b,.string r,.string c,.string d,.string s],.agg #[.string a',.string b',.string r',.string c',.string d',.string s']] w fun e w'=>e=.returned (.bool (eQ a b r c d s a' b' r' c' d' s'))∧aa w w':=by
 have H0:=P6 a b r c d s a' b' r' c' d' s' w _ rfl;by_cases h1:bn a b r c d s=true
 ·by_cases h2:bn a' b' r' c' d' s'=true
  ·have HT:Hid (eQ a b r c d s a' b' r' c' d' s'=_):=qR h1 h2;go_enter func113,ntmps113;go_wp2_with fail
   go_region_held3 (fun w'=>w'.cell? ⟨w.heap.size,0,none⟩=some (.string a)∧w'.cell? ⟨w.heap.size,1,none⟩=some (.string b)∧w'.cell? ⟨w.heap.size,2,none⟩=some (.string r)∧w'.cell? ⟨w.heap.size,3,none⟩=some (.string c)∧w'.cell? ⟨w.heap.size,4,none⟩=some (.string d)∧w'.cell? ⟨w.heap.size,5,none⟩=some (.string s)∧w'.cell? ⟨w.heap.size + 1,0,none⟩=some (.string a')∧w'.cell? ⟨w.heap.size + 1,1,none⟩=some (.string b')∧w'.cell? ⟨w.heap.size + 1,2,none⟩=some (.string r')∧w'.cell? ⟨w.heap.size + 1,3,none⟩=some (.string c')∧w'.cell? ⟨w.heap.size + 1,4,none⟩=some (.string d')∧w'.cell? ⟨w.heap.size + 1,5,none⟩=some (.string s')∧w.heap.size < w'.heap.size∧w.heap.size + 1 < w'.heap.size∧aa w w')
    (first | assumption | exact Gr (Sj _) (by assumption) hbx | exact H0)
    (first | (go_at_call_of 77 (Value.agg #[.string a,.string b,.string r,.string c,.string d,.string s]); refine (dI a b r c d s _ ha hb hr hc hd hs).mono ?_; rintro e w' ⟨he,hbx⟩; rw [h1] at he; subst he) | (go_at_call_of 77 (Value.agg #[.string a',.string b',.string r',.string c',.string d',.string s']); refine (dI a' b' r' c' d' s' _ ga gb gr gc gd gs).mono ?_; rintro e w' ⟨he,hbx⟩; rw [h2] at he; subst he) | (go_at_call 158; refine (ww _ _ _ _ _ _ _ (by assumption) (by assumption) (by assumption) (by assumption) (by assumption) (by assumption)).mono ?_; rintro e w' ⟨rfl,hbx⟩))
   rename_i hH;obtain ⟨-,-,-,-,-,-,-,-,-,-,-,-,-,-,gB⟩:=hH;clear H0;go_wp2;go_ret;exact ⟨ah HT.out.symm,gB⟩
  have h2':bn a' b' r' c' d' s'=false:=by simpa using h2
  have HT:Hid (eQ a b r c d s a' b' r' c' d' s'=false):=xS h2';clear h2;obtain ⟨u0,u1,u2,u3,u4,u5,u6,u7,u8,u9,u10,u11,un,um,uB⟩:=H0;go_enter func113,ntmps113;go_wp2_with fail
  go_region_with (first | (go_at_call_of 77 (Value.agg #[.string a,.string b,.string r,.string c,.string d,.string s]); refine (dI a b r c d s _ ha hb hr hc hd hs).mono ?_; rintro e w1 ⟨he,hbx⟩; rw [h1] at he; subst he; obtain ⟨k0,k1,k2,k3,k4,k5,k6,k7,k8,k9,k10,k11,kn,km,kB⟩:=Gr (Sj _) ⟨u0,u1,u2,u3,u4,u5,u6,u7,u8,u9,u10,u11,un,um,uB⟩ hbx) | (go_at_call_of 77 (Value.agg #[.string a',.string b',.string r',.string c',.string d',.string s']); refine (dI a' b' r' c' d' s' _ ga gb gr gc gd gs).mono ?_; rintro e w2 ⟨he,hby⟩; rw [h2'] at he; subst he))
  all_goals clear u0 u1 u2 u3 u4 u5 u6 u7 u8 u9 u10 u11
  all_goals go_wp2
  all_goals go_ret
  all_goals exact ⟨ah HT.out.symm,kB.trans (hby.mono (by omega))⟩
 have h1':bn a b r c d s=false:=by simpa using h1
 have HT:Hid (eQ a b r c d s a' b' r' c' d' s'=false):=xR h1';clear h1;obtain ⟨u0,u1,u2,u3,u4,u5,u6,u7,u8,u9,u10,u11,un,um,uB⟩:=H0;go_enter func113,ntmps113;go_wp2_with fail
 go_region_with (go_at_call_of 77 (Value.agg #[.string a,.string b,.string r,.string c,.string d,.string s]); refine (dI a b r c d s _ ha hb hr hc hd hs).mono ?_; rintro e w1 ⟨he,hbx⟩; rw [h1'] at he; subst he)
 all_goals clear u0 u1 u2 u3 u4 u5 u6 u7 u8 u9 u10 u11
 all_goals go_wp2
 all_goals go_ret
 all_goals exact ⟨ah HT.out.symm,uB.trans (hbx.mono (by omega))⟩
theorem zS (a b r c d s a' b' r' c' d' s':dB) (w:af) (ha:a.size≤maxLen) (hb:b.size≤maxLen) (hr:r.size≤maxLen) (hc:c.size≤maxLen) (hd:d.size≤maxLen) (hs:s.size≤maxLen) (ga:a'.size≤maxLen) (gb:b'.size≤maxLen) (gr:r'.size≤maxLen) (gc:c'.size≤maxLen) (gd:d'.size≤maxLen) (gs:s'.size≤maxLen) :
  Calls prog 129 #[.agg #[.string a,.string b,.string r,.string c,.string d,.string s],.agg #[.string a',.string b',.string r',.string c',.string d',.string s']] w fun e w'=>e=.returned (.bool (eQ a b r c d s a' b' r' c' d' s'))∧aa w w':=by
 by_cases h1:bn a b r c d s=true
 ·by_cases h2:bn a' b' r' c' d' s'=true
  ·have HT:Hid (eQ a b r c d s a' b' r' c' d' s'=decide (D6 a b r c d s a' b' r' c' d' s' < 0)):=xU h1 h2;go_enter func129,ntmps129;go_wp2_with fail;refine (d9 _ _ _ _ _ _ _ ha hb hr hc hd hs).mono ?_;rintro e w1 ⟨rfl,hb1⟩;obtain ⟨hc1,hf1⟩:=eO hb1;have hz1:w.heap.size + 1 < w1.heap.size:=by have:=hb1.size; simp at this; omega
   have hy1:w.heap.size < w1.heap.size:=by omega
   have HB1:aa w w1:=(xQ _ _ _).trans (hb1.mono (by simp; omega));go_wp2_with fail;refine (d9 _ _ _ _ _ _ _ ga gb gr gc gd gs).mono ?_;rintro e w2 ⟨rfl,hb2⟩;obtain ⟨hc2,hf2⟩:=eO hb2;have hz2:w.heap.size + 1 < w2.heap.size:=by have:=hb2.size; omega
   have hy2:w.heap.size < w2.heap.size:=by omega
   go_wp2_with fail;refine (kY _ _ _ _ _ _ _ _ _ _ _ _ _ ha hb hr hc hd hs ga gb gr gc gd gs).mono ?_;rintro e w3 ⟨rfl,hb3⟩;go_wp2;go_ret;exact ⟨ah HT.out.symm,HB1.trans ((hb2.mono (by omega)).trans (hb3.mono (by omega)))⟩
  have h2':bn a' b' r' c' d' s'=false:=by simpa using h2
  have HT:Hid (eQ a b r c d s a' b' r' c' d' s'=false):=xS h2';clear h2;go_enter func129,ntmps129;go_wp2_with fail;refine (d9 _ _ _ _ _ _ _ ha hb hr hc hd hs).mono ?_;rintro e w1 ⟨rfl,hb1⟩;obtain ⟨hc1,hf1⟩:=eO hb1;have hz1:w.heap.size + 1 < w1.heap.size:=by have:=hb1.size; simp at this; omega
  have hy1:w.heap.size < w1.heap.size:=by omega
  have HB1:aa w w1:=(xQ _ _ _).trans (hb1.mono (by simp; omega));go_wp2_with fail;refine (d9 _ _ _ _ _ _ _ ga gb gr gc gd gs).mono ?_;rintro e w2 ⟨rfl,hb2⟩;go_wp2;go_ret;exact ⟨ah HT.out.symm,HB1.trans (hb2.mono (by omega))⟩
 have h1':bn a b r c d s=false:=by simpa using h1
 have HT:Hid (eQ a b r c d s a' b' r' c' d' s'=false):=xR h1';clear h1;go_enter func129,ntmps129;go_wp2_with fail;refine (d9 _ _ _ _ _ _ _ ha hb hr hc hd hs).mono ?_;rintro e w1 ⟨rfl,hb1⟩;obtain ⟨hc1,hf1⟩:=eO hb1;have hz1:w.heap.size + 1 < w1.heap.size:=by have:=hb1.size; simp at this; omega
 have hy1:w.heap.size < w1.heap.size:=by omega
 have HB1:aa w w1:=(xQ _ _ _).trans (hb1.mono (by simp; omega));go_wp2;go_ret;exact ⟨ah HT.out.symm,HB1⟩
end Go.Proofs.YtdmniljjnaebbaaGreatDoor
namespace Go.Proofs.YtdmniljjnaebbaaGreatDoor
open Go.ChangeShapes Go.WideShapes Go.ChangeAt Go.RowKit Go.Maps
open Pl
def lG (x y:Tp):Bool:=x.a.toList == y.a.toList && x.b.toList == y.b.toList && x.r.toList == y.r.toList && x.c.toList == y.c.toList && x.d.toList == y.d.toList && x.s.toList == y.s.toList
theorem iL {x y:ByteArray} (k:x.toList=y.toList):x=y:=by
 rw [Go.ByteArray.toList_eq,Go.ByteArray.toList_eq] at k;obtain ⟨x⟩:=x;obtain ⟨y⟩:=y;exact congrArg ByteArray.mk (Array.toList_inj.1 k)
theorem lX {x y:Tp}:lG x y=true ↔ x=y:=by
 unfold lG;simp only [Sn,beq_iff_eq];constructor
 ·rintro ⟨⟨⟨⟨⟨h0,h1⟩,h2⟩,h3⟩,h4⟩,h5⟩;obtain ⟨xa,xb,xr,xc,xd,xs⟩:=x;obtain ⟨ya,yb,yr,yc,yd,ys⟩:=y;simp only at h0 h1 h2 h3 h4 h5;rw [iL h0,iL h1,iL h2,iL h3,iL h4,iL h5]
 rintro rfl; simp
theorem Cs (x y:Tp) {v:Bool} (h:lG x y=v) (w:af) :
  (binOp .eql 42 (.agg #[.string x.a,.string x.b,.string x.r,.string x.c,.string x.d,.string x.s]) (.agg #[.string y.a,.string y.b,.string y.r,.string y.c,.string y.d,.string y.s])).run prog w=.ok (.bool v) w:=by
 subst h;go_simp;unfold lG
 (repeat' split) <;> simp_all
theorem Mo (x y:Tp) {v:Bool} (h:(!lG x y)=v) (w:af) :
  (binOp .neq 42 (.agg #[.string x.a,.string x.b,.string x.r,.string x.c,.string x.d,.string x.s]) (.agg #[.string y.a,.string y.b,.string y.r,.string y.c,.string y.d,.string y.s])).run prog w=.ok (.bool v) w:=by
 subst h;go_simp;unfold lG
 (repeat' split) <;> simp_all
def gH (ts:List Tp) (t:Tp):Bool:=ts.any fun x=>lG x t
theorem JS {ts:List Tp} {t:Tp} {k:Nat} (h:k < ts.length):gH (ts.drop k) t=(lG ts[k] t || gH (ts.drop (k + 1)) t):=by
 rw [SH h]; rfl
def Tp.row (t:Tp):List Value:=[.string t.a,.string t.b,.string t.r,.string t.c,.string t.d,.string t.s]
def aD (ts:List Tp):List Value:=ts.flatMap Tp.row
theorem eT:∀ ts:List Tp,(aD ts).length=ts.length * 6
 | []=>rfl
 | r::rs=>by have:=eT rs; simp only [aD,Tp.row,List.flatMap_cons,Sr,List.length_cons,List.length_nil] at this ⊢; omega
theorem rU:∀ (rs:List Tp) (i:Nat) (h:i < rs.length) (j:Nat),j < 6→(aD rs)[i * 6 + j]?=(rs[i]).row[j]?
 | [],i,h,_,_=>by simp at h
 | r::rs,0,_,j,hj=>by
  simp only [aD,List.flatMap_cons,Nat.zero_mul,SG,List.getElem_cons_zero];rw [List.getElem?_append_left (by simpa [Tp.row] using hj)]
 | r::rs,i + 1,h,j,hj=>by
  have:=rU rs i (by simpa using h) j hj;simp only [aD,List.flatMap_cons,List.getElem_cons_succ] at this ⊢;rw [List.getElem?_append_right (by simp [Tp.row]; omega),← this];congr 1;simp [Tp.row]; omega
theorem qU (ts:List Tp) (t:Tp):aD (ts ++ [t])=aD ts ++ t.row:=by simp [aD]
theorem rV (t:Tp):∀ u ∈ t.row,u.oneCell'=true:=by
 intro u hu;simp [Tp.row] at hu;rcases hu with rfl | rfl | rfl | rfl | rfl | rfl <;> rfl
theorem tY (w:af) (t:Tp):∀ j u,t.row[j]?=some u→(w.alloc (.cells #[.string t.a,.string t.b,.string t.r,.string t.c,.string t.d,.string t.s] 42)).cell? ((⟨w.heap.size,0,none⟩:Addr).add j)=some u:=by
 intro j u hu;rw [show (⟨w.heap.size,0,none⟩:Addr).add j=⟨w.heap.size,0 + j,none⟩ by simp [Addr.add]; omega,SG];have:=World.cell?_alloc_mark w #[.string t.a,.string t.b,.string t.r,.string t.c,.string t.d,.string t.s] 42 (0,0) j;rw [this];simpa [Tp.row] using hu
theorem Mq {w:af} {base n:Nat} {v:Value} {ts:List Tp} (h:w.ownsRow base 42 6 v n (aD ts)) (hn:n=ts.length):∃ ad cap,v=.slice ad ts.length cap∧Sl w ad ts∧∀ g,ad=some ⟨g,0,none⟩→base≤g∧g < w.heap.size∧dD w g:=by
 subst hn;have h2:=h;rcases h.2 with ⟨rfl,h0⟩ | ⟨g,cap,cur,rfl,hbg,hg,hnc,-⟩
 ·exact ⟨none,0,by rw [h0],.inl (SA.1 h0),fun g e=>by cases e⟩
 have hlt:=h2.lt g rfl;refine ⟨some ⟨g,0,none⟩,cap,rfl,.inr ⟨g,0,rfl,hlt.2,fun i hi=>?_⟩,fun g' e=>?_⟩
 ·have hl:=eT ts;have key:∀ j,j < 6→w.cell? ⟨g,0 + i * 6 + j,none⟩=(ts[i]).row[j]?:=fun j hj=>by
   rw [h2.cellAt (0 + i * 6 + j) (by omega),← rU ts i hi j hj,SG]
  exact ⟨key 0 (by omega),key 1 (by omega),key 2 (by omega),key 3 (by omega),key 4 (by omega),key 5 (by omega)⟩
 injection e with e; injection e with e1 e2;subst e1;exact ⟨hlt.1,hlt.2,fun y=>h2.frozenAt y⟩
def dL (ts:List Tp) (t:Tp):List Tp:=ts.filter fun x=>!lG x t
theorem Gs {ts:List Tp} {t:Tp} {k:Nat} (h:k < ts.length):dL (ts.take (k + 1)) t=dL (ts.take k) t ++ (if lG ts[k] t then [] else [ts[k]]):=by
 rw [Sk h];unfold dL;rw [Te];cases e:lG ts[k] t <;> simp [e]
theorem JU (ts:List Tp) (t:Tp) (k:Nat):(dL (ts.take k) t).length≤k:=by
 unfold dL;exact Sq (List.length_filter_le _ _) (by simp; omega)
theorem aO {B:Nat} {w w':af} (hB:Below B w w') {n o:Nat} {v:Value} (hn:n < B) (h:w.cell? ⟨n,o,none⟩=some v):w'.cell? ⟨n,o,none⟩=some v:=(hB.cell (p:=⟨n,o,none⟩) hn).trans h
theorem au {p:Prop} (h:p):Hid p:=h
theorem aB {w w':af} {base:Nat} {e:TypeId} {size:Nat} {v:Value} {n:Nat} {xs:List Value} (h:w.ownsRow base e size v n xs) (hb:aa w w'):w'.ownsRow base e size v n xs:=by
 have hl:=fun g hg=>(h.lt g hg).2;refine ⟨h.1,?_⟩;rcases h.2 with h0 | ⟨g,cap,cur,rfl,h1,h2,h3⟩
 ·exact .inl h0
 exact .inr ⟨g,cap,cur,rfl,h1,(hb.block g (hl g rfl)).trans h2,h3⟩
end Go.Proofs.YtdmniljjnaebbaaGreatDoor
