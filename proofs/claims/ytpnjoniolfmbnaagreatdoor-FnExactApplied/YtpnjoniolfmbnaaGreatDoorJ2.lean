/- Contracts of the functions that look at tuples: each returns what the plain function says, and nothing that was in memory has changed. -/
import Derived.Test.YtpnjoniolfmbnaaGreatDoorJ1
import Derived.Deep.RegionHeld3
import Derived.Deep.DrawnRows
namespace Go.Proofs.YtpnjoniolfmbnaaGreatDoor
open Go.ChangeShapes Go.WideShapes Go.ChangeAt Go.RowKit
open Pl
theorem setOk_any (s:ByteArray) (w:World) (hs:s.size≤maxLen) :
  Calls Tryz.prog 113 #[.string s] w fun e w'=>e=.returned (.bool (setB s))∧w'=w:=by
 go_enter Tryz.func113,Tryz.ntmps113
 go_wp2_with (go_at_call 112; refine (implName_any _ _ hs).mono ?_; rintro e w' ⟨rfl,rfl⟩)
 all_goals go_ret
 all_goals exact ⟨ret_bool (by simp [setB, *]),rfl⟩
theorem specTup_any (a b r c d s:ByteArray) (w:World) (ha:a.size≤maxLen) (hb:b.size≤maxLen) (hr:r.size≤maxLen) (hc:c.size≤maxLen) (hd:d.size≤maxLen) (hs:s.size≤maxLen) :
  Calls Tryz.prog 70 #[.agg #[.string a,.string b,.string r,.string c,.string d,.string s]] w fun e w'=>e=.returned (.bool (tupB a b r c d s))∧Below w.heap.size w w':=by
 by_cases h1:objB a b=true
 ·by_cases h2:nameB r=true
  ·by_cases h3:objB c d=true
   ·have HT:Hid (tupB a b r c d s=setB s):=tupB_yes h1 h2 h3
    go_enter Tryz.func70,Tryz.ntmps70
    go_wp2_with fail
    refine (specObj_any _ _ _ ha hb).mono ?_
    rintro e w1 ⟨rfl,hb1⟩
    obtain ⟨hc1,hf1⟩:=bcell hb1
    have hz1:w.heap.size < w1.heap.size:=by have:=hb1.size; simp at this; omega
    go_wp2_with fail
    refine (specName_any _ _ hr).mono ?_
    rintro e w1' ⟨rfl,rfl⟩
    go_wp2_with fail
    refine (specObj_any _ _ _ hc hd).mono ?_
    rintro e w2 ⟨rfl,hb2⟩
    obtain ⟨hc2,hf2⟩:=bcell hb2
    have hz2:w.heap.size < w2.heap.size:=by have:=hb2.size; omega
    go_wp2_with (go_at_call 85; refine (specName_any _ _ hs).mono ?_; rintro e w3 ⟨rfl,rfl⟩)
    all_goals go_ret
    all_goals exact ⟨ret_bool (HT.out.trans (by simp [setB, *])).symm,((Below.refl _ _).alloc (Nat.le_refl _) _).trans ((hb1.mono (by simp)).trans (hb2.mono (by omega)))⟩
   ·have h3':objB c d=false:=by simpa using h3
    have HT:Hid (tupB a b r c d s=false):=tupB_no3 h3'
    clear h3
    go_enter Tryz.func70,Tryz.ntmps70
    go_wp2_with fail
    refine (specObj_any _ _ _ ha hb).mono ?_
    rintro e w1 ⟨rfl,hb1⟩
    obtain ⟨hc1,hf1⟩:=bcell hb1
    have hz1:w.heap.size < w1.heap.size:=by have:=hb1.size; simp at this; omega
    go_wp2_with fail
    refine (specName_any _ _ hr).mono ?_
    rintro e w1' ⟨rfl,rfl⟩
    go_wp2_with fail
    refine (specObj_any _ _ _ hc hd).mono ?_
    rintro e w2 ⟨rfl,hb2⟩
    go_wp2
    go_ret
    exact ⟨ret_bool HT.out.symm,((Below.refl _ _).alloc (Nat.le_refl _) _).trans ((hb1.mono (by simp)).trans (hb2.mono (by omega)))⟩
  ·have h2':nameB r=false:=by simpa using h2
   have HT:Hid (tupB a b r c d s=false):=tupB_no2 h2'
   clear h2
   go_enter Tryz.func70,Tryz.ntmps70
   go_wp2_with fail
   refine (specObj_any _ _ _ ha hb).mono ?_
   rintro e w1 ⟨rfl,hb1⟩
   obtain ⟨hc1,hf1⟩:=bcell hb1
   go_wp2_with fail
   refine (specName_any _ _ hr).mono ?_
   rintro e w1' ⟨rfl,rfl⟩
   go_wp2
   go_ret
   exact ⟨ret_bool HT.out.symm,((Below.refl _ _).alloc (Nat.le_refl _) _).trans (hb1.mono (by simp))⟩
 ·have h1':objB a b=false:=by simpa using h1
  have HT:Hid (tupB a b r c d s=false):=tupB_no1 h1'
  clear h1
  go_enter Tryz.func70,Tryz.ntmps70
  go_wp2_with fail
  refine (specObj_any _ _ _ ha hb).mono ?_
  rintro e w1 ⟨rfl,hb1⟩
  go_wp2
  go_ret
  exact ⟨ret_bool HT.out.symm,((Below.refl _ _).alloc (Nat.le_refl _) _).trans (hb1.mono (by simp))⟩
theorem implTup_any (a b r c d s:ByteArray) (w:World) (ha:a.size≤maxLen) (hb:b.size≤maxLen) (hr:r.size≤maxLen) (hc:c.size≤maxLen) (hd:d.size≤maxLen) (hs:s.size≤maxLen) :
  Calls Tryz.prog 75 #[.agg #[.string a,.string b,.string r,.string c,.string d,.string s]] w fun e w'=>e=.returned (.bool (tupB a b r c d s))∧Below w.heap.size w w':=by
 by_cases h1:objB a b=true
 ·by_cases h2:nameB r=true
  ·by_cases h3:objB c d=true
   ·have HT:Hid (tupB a b r c d s=setB s):=tupB_yes h1 h2 h3
    go_enter Tryz.func75,Tryz.ntmps75
    go_wp2_with fail
    refine (implObj_any _ _ _ ha hb).mono ?_
    rintro e w1 ⟨rfl,hb1⟩
    obtain ⟨hc1,hf1⟩:=bcell hb1
    have hz1:w.heap.size < w1.heap.size:=by have:=hb1.size; simp at this; omega
    go_wp2_with fail
    refine (implName_any _ _ hr).mono ?_
    rintro e w1' ⟨rfl,rfl⟩
    go_wp2_with fail
    refine (implObj_any _ _ _ hc hd).mono ?_
    rintro e w2 ⟨rfl,hb2⟩
    obtain ⟨hc2,hf2⟩:=bcell hb2
    have hz2:w.heap.size < w2.heap.size:=by have:=hb2.size; omega
    go_wp2_with (go_at_call 113; refine (setOk_any _ _ hs).mono ?_; rintro e w3 ⟨rfl,rfl⟩)
    all_goals go_ret
    all_goals exact ⟨ret_bool (HT.out.trans (by simp [setB, *])).symm,((Below.refl _ _).alloc (Nat.le_refl _) _).trans ((hb1.mono (by simp)).trans (hb2.mono (by omega)))⟩
   ·have h3':objB c d=false:=by simpa using h3
    have HT:Hid (tupB a b r c d s=false):=tupB_no3 h3'
    clear h3
    go_enter Tryz.func75,Tryz.ntmps75
    go_wp2_with fail
    refine (implObj_any _ _ _ ha hb).mono ?_
    rintro e w1 ⟨rfl,hb1⟩
    obtain ⟨hc1,hf1⟩:=bcell hb1
    have hz1:w.heap.size < w1.heap.size:=by have:=hb1.size; simp at this; omega
    go_wp2_with fail
    refine (implName_any _ _ hr).mono ?_
    rintro e w1' ⟨rfl,rfl⟩
    go_wp2_with fail
    refine (implObj_any _ _ _ hc hd).mono ?_
    rintro e w2 ⟨rfl,hb2⟩
    go_wp2
    go_ret
    exact ⟨ret_bool HT.out.symm,((Below.refl _ _).alloc (Nat.le_refl _) _).trans ((hb1.mono (by simp)).trans (hb2.mono (by omega)))⟩
  ·have h2':nameB r=false:=by simpa using h2
   have HT:Hid (tupB a b r c d s=false):=tupB_no2 h2'
   clear h2
   go_enter Tryz.func75,Tryz.ntmps75
   go_wp2_with fail
   refine (implObj_any _ _ _ ha hb).mono ?_
   rintro e w1 ⟨rfl,hb1⟩
   obtain ⟨hc1,hf1⟩:=bcell hb1
   go_wp2_with fail
   refine (implName_any _ _ hr).mono ?_
   rintro e w1' ⟨rfl,rfl⟩
   go_wp2
   go_ret
   exact ⟨ret_bool HT.out.symm,((Below.refl _ _).alloc (Nat.le_refl _) _).trans (hb1.mono (by simp))⟩
 ·have h1':objB a b=false:=by simpa using h1
  have HT:Hid (tupB a b r c d s=false):=tupB_no1 h1'
  clear h1
  go_enter Tryz.func75,Tryz.ntmps75
  go_wp2_with fail
  refine (implObj_any _ _ _ ha hb).mono ?_
  rintro e w1 ⟨rfl,hb1⟩
  go_wp2
  go_ret
  exact ⟨ret_bool HT.out.symm,((Below.refl _ _).alloc (Nat.le_refl _) _).trans (hb1.mono (by simp))⟩
end Go.Proofs.YtpnjoniolfmbnaaGreatDoor
namespace Go.Proofs.YtpnjoniolfmbnaaGreatDoor
open Go.ChangeShapes Go.WideShapes Go.ChangeAt Go.RowKit
open Pl
def szObj (t i:ByteArray) (left:Int):Int:=if left - t.size < 0 then -1 else if left - t.size - i.size < 0 then -1 else left - t.size - i.size
theorem ret_int {k:IntKind} {a b:Int} (h:a=b):Ending.returned (.int k a)=.returned (.int k b):=by rw [h]
theorem szObject_any (t i:ByteArray) (left:Int) (w:World) (ht:t.size≤maxLen) (hi:i.size≤maxLen) (h0:0≤left) (h1:left≤1048576) :
  Calls Tryz.prog 79 #[.agg #[.string t,.string i],.int .i64 left] w fun e w'=>e=.returned (.int .i64 (szObj t i left))∧Below w.heap.size w w':=by
 unfold maxLen at ht hi
 go_enter Tryz.func79,Tryz.ntmps79
 go_wp2
 all_goals go_ret
 all_goals refine ⟨ret_int ?_,(Below.refl _ _).alloc (Nat.le_refl _) _⟩
 all_goals unfold szObj
 all_goals first | rw [if_pos (by omega)] | (rw [if_neg (by omega)]; first | rw [if_pos (by omega)] | rw [if_neg (by omega)])
theorem toObject_any (t i:ByteArray) (w:World) :
  Calls Tryz.prog 81 #[.agg #[.string t,.string i]] w fun e w'=>e=.returned (.agg #[.string t,.string i])∧Below w.heap.size w w':=by
 go_enter Tryz.func81,Tryz.ntmps81
 go_wp2
 exact bodyPost_ret (v:=.agg #[.string t,.string i]) (by simp [results,Tryz.results81,go_sem]) rfl ⟨rfl,by
  repeat (first | exact Below.refl _ _ | refine Below.setCell ?_ (by first | (simp; done) | (simp; omega)) _ | refine Below.alloc ?_ (by first | (simp; done) | (simp; omega)) _)⟩
end Go.Proofs.YtpnjoniolfmbnaaGreatDoor
namespace Go.Proofs.YtpnjoniolfmbnaaGreatDoor
open Go.ChangeShapes Go.WideShapes Go.ChangeAt Go.RowKit
open Pl
theorem szObj_le (t i:ByteArray) (left:Int):szObj t i left≤left ∨ szObj t i left=-1:=by
 unfold szObj; split
 ·exact .inr rfl
 ·split
  ·exact .inr rfl
  ·exact .inl (by omega)
def szTup (a b r c d s:ByteArray) (left:Int):Int :=
 if szObj a b left < 0 then -1 else if szObj a b left - r.size < 0 then -1
 else if szObj c d (szObj a b left - r.size) < 0 then -1 else if szObj c d (szObj a b left - r.size) - s.size < 0 then -1
 else szObj c d (szObj a b left - r.size) - s.size
theorem szTup_le (a b r c d s:ByteArray) (left:Int):szTup a b r c d s left≤left ∨ szTup a b r c d s left=-1:=by
 unfold szTup
 split
 ·exact .inr rfl
 split
 ·exact .inr rfl
 split
 ·exact .inr rfl
 split
 ·exact .inr rfl
 ·refine .inl ?_
  have h1:=szObj_le a b left
  have h2:=szObj_le c d (szObj a b left - r.size)
  omega
theorem szTuple_any (a b r c d s:ByteArray) (left:Int) (w:World) (ha:a.size≤maxLen) (hb:b.size≤maxLen) (hr:r.size≤maxLen) (hc:c.size≤maxLen) (hd:d.size≤maxLen) (hs:s.size≤maxLen) (h0:0≤left) (h1:left≤1048576) :
  Calls Tryz.prog 43 #[.agg #[.string a,.string b,.string r,.string c,.string d,.string s],.int .i64 left] w fun e w'=>e=.returned (.int .i64 (szTup a b r c d s left))∧Below w.heap.size w w':=by
 have hr':=hr
 have hs':=hs
 unfold maxLen at hr' hs'
 have e1:=szObj_le a b left
 have e2:=szObj_le c d (szObj a b left - r.size)
 go_enter Tryz.func43,Tryz.ntmps43
 go_wp2_with fail
 refine (szObject_any _ _ _ _ ha hb h0 h1).mono ?_
 rintro e w1 ⟨rfl,hb1⟩
 obtain ⟨hc1,hf1⟩:=bcell hb1
 have hz1:w.heap.size < w1.heap.size:=by have:=hb1.size; simp at this; omega
 have HB1:Below w.heap.size w w1:=((Below.refl _ _).alloc (Nat.le_refl _) _).trans (hb1.mono (by simp))
 by_cases n1:szObj a b left < 0
 ·go_wp2
  go_ret
  exact ⟨ret_int (by rw [szTup,if_pos (by omega)]),HB1⟩
 by_cases n2:szObj a b left - r.size < 0
 ·go_wp2
  go_ret
  exact ⟨ret_int (by rw [szTup,if_neg (by omega),if_pos (by omega)]),HB1⟩
 go_wp2_with fail
 refine (szObject_any _ _ _ _ hc hd (by omega) (by omega)).mono ?_
 rintro e w2 ⟨rfl,hb2⟩
 obtain ⟨hc2,hf2⟩:=bcell hb2
 have hz2:w.heap.size < w2.heap.size:=by have:=hb2.size; omega
 by_cases n3:szObj c d (szObj a b left - r.size) < 0
 ·go_wp2
  go_ret
  exact ⟨ret_int (by rw [szTup,if_neg (by omega),if_neg (by omega),if_pos (by omega)]),HB1.trans (hb2.mono (by omega))⟩
 by_cases n4:szObj c d (szObj a b left - r.size) - s.size < 0
 ·go_wp2
  go_ret
  exact ⟨ret_int (by rw [szTup,if_neg (by omega),if_neg (by omega),if_neg (by omega),if_pos (by omega)]),HB1.trans (hb2.mono (by omega))⟩
 go_wp2
 go_ret
 exact ⟨ret_int (by rw [szTup,if_neg (by omega),if_neg (by omega),if_neg (by omega),if_neg (by omega)]),HB1.trans (hb2.mono (by omega))⟩
set_option maxHeartbeats 400000 in
theorem toTuple_any (a b r c d s:ByteArray) (w:World) :
  Calls Tryz.prog 45 #[.agg #[.string a,.string b,.string r,.string c,.string d,.string s]] w fun e w'=>e=.returned (.agg #[.string a,.string b,.string r,.string c,.string d,.string s])∧Below w.heap.size w w':=by
 go_enter Tryz.func45,Tryz.ntmps45
 go_wp2_with fail
 refine (toObject_any _ _ _).mono ?_
 rintro e w1 ⟨rfl,hb1⟩
 obtain ⟨hc1,hf1⟩:=bcell hb1
 have hz1:w.heap.size + 1 + 1 < w1.heap.size:=by have:=hb1.size; simp at this; omega
 have hy1:w.heap.size + 1 < w1.heap.size:=by omega
 have hx1:w.heap.size < w1.heap.size:=by omega
 go_wp2_with fail
 refine (toObject_any _ _ _).mono ?_
 rintro e w2 ⟨rfl,hb2⟩
 obtain ⟨hc2,hf2⟩:=bcell hb2
 have hz2:w.heap.size + 1 + 1 < w2.heap.size:=by have:=hb2.size; simp at this; omega
 have hy2:w.heap.size + 1 < w2.heap.size:=by omega
 have hx2:w.heap.size < w2.heap.size:=by omega
 have HB1:Below w.heap.size w w1:=Below.trans (by
  repeat (first | exact Below.refl _ _ | refine Below.setCell ?_ (by first | (simp; done) | (simp; omega)) _ | refine Below.alloc ?_ (by first | (simp; done) | (simp; omega)) _)) (hb1.mono (by simp; omega))
 have HB2:Below w.heap.size w w2:=Below.trans (by
  repeat (first | refine Below.setCell ?_ (by first | (simp; done) | (simp; omega)) _ | with_reducible exact HB1)) (hb2.mono (by simp; omega))
 clear hb1 hb2
 go_wp2
 exact bodyPost_ret (v:=.agg #[.string a,.string b,.string r,.string c,.string d,.string s]) (by simp [results,Tryz.results45,go_sem, *]) rfl ⟨rfl,by
  repeat (first | refine Below.setCell ?_ (by first | (simp; done) | (simp; omega)) _ | with_reducible exact HB2)⟩
end Go.Proofs.YtpnjoniolfmbnaaGreatDoor
namespace Go.Proofs.YtpnjoniolfmbnaaGreatDoor
open Go.ChangeShapes Go.WideShapes Go.ChangeAt Go.RowKit
open Pl
structure Tp where
 a:ByteArray
 b:ByteArray
 r:ByteArray
 c:ByteArray
 d:ByteArray
 s:ByteArray
def Tp.fits (t:Tp):Prop:=t.a.size≤maxLen∧t.b.size≤maxLen∧t.r.size≤maxLen∧t.c.size≤maxLen∧t.d.size≤maxLen∧t.s.size≤maxLen
def At6 (w:World) (b off:Nat) (t:Tp):Prop :=
 w.cell? ⟨b,off,none⟩=some (.string t.a)∧w.cell? ⟨b,off + 1,none⟩=some (.string t.b)∧w.cell? ⟨b,off + 2,none⟩=some (.string t.r) ∧
 w.cell? ⟨b,off + 3,none⟩=some (.string t.c)∧w.cell? ⟨b,off + 4,none⟩=some (.string t.d)∧w.cell? ⟨b,off + 5,none⟩=some (.string t.s)
def Row6 (w:World) (b off:Nat) (ts:List Tp):Prop:=∀ (i:Nat) (h:i < ts.length),At6 w b (off + i * 6) ts[i]
def Sl (w:World) (ad:Option Addr) (ts:List Tp):Prop:=ts=[] ∨ ∃ b off,ad=some ⟨b,off,none⟩∧b < w.heap.size∧Row6 w b off ts
theorem At6.same {w w':World} {b off:Nat} {t:Tp} (h:At6 w b off t) (hc:∀ o,w'.cell? ⟨b,o,none⟩=w.cell? ⟨b,o,none⟩):At6 w' b off t:=by
 obtain ⟨h0,h1,h2,h3,h4,h5⟩:=h
 exact ⟨(hc _).trans h0,(hc _).trans h1,(hc _).trans h2,(hc _).trans h3,(hc _).trans h4,(hc _).trans h5⟩
theorem Row6.below {w w':World} {b off B:Nat} {ts:List Tp} (h:Row6 w b off ts) (hB:Below B w w') (hb:b < B):Row6 w' b off ts :=
 fun i hi=>(h i hi).same fun o=>hB.cell (p:=⟨b,o,none⟩) hb
theorem Sl.below {w w':World} {ad:Option Addr} {ts:List Tp} (h:Sl w ad ts) (hB:Below w.heap.size w w'):Sl w' ad ts:=by
 rcases h with h | ⟨b,off,e,hb,hr⟩
 ·exact .inl h
 ·exact .inr ⟨b,off,e,Nat.lt_of_lt_of_le hb hB.size,hr.below hB hb⟩
set_option maxHeartbeats 400000 in
theorem szTupleS_row (b off cap:Nat) (ts:List Tp) (left:Int) (w:World) (hlen:ts.length≤maxLen) (hr:Row6 w b off ts) (hb:b < w.heap.size) (hf:∀ t ∈ ts,t.fits) (h0:0≤left) (h1:left≤1048576) :
  Calls Tryz.prog 13 #[.slice (some ⟨b,off,none⟩) ts.length cap,.int .i64 left] w fun e w'=>(∃ n:Int,e=.returned (.int .i64 n)∧(n=-1 ∨ 0≤n∧n≤left∧ts.length≤left))∧Below w.heap.size w w':=by
 unfold maxLen at hlen
 by_cases hneg:left - ts.length < 0
 ·go_enter Tryz.func13,Tryz.ntmps13
  go_wp2
  go_ret
  exact ⟨⟨-1,rfl,.inl rfl⟩,Below.refl _ _⟩
 ·go_enter Tryz.func13,Tryz.ntmps13
  go_wp2
  go_loopw [1,5] (fun l i wr=>∃ (k:Nat) (x:Int),k≤ts.length∧i=.int .i64 k∧l=.int .i64 x∧0≤x∧x≤left∧Below w.heap.size w wr) (fun _ i _=>ts.length - (intOf i).toNat)
  case atStart=>exact ⟨0,_,Nat.zero_le _,rfl,rfl,by omega,by omega,Below.refl _ _⟩
  case round =>
   obtain ⟨k,x,hk,rfl,rfl,hx0,hx1,hB⟩:=hrel
   by_cases hlt:k < ts.length
   ·obtain ⟨t0,t1,t2,t3,t4,t5⟩:=(hr.below hB hb) k hlt
    obtain ⟨f0,f1,f2,f3,f4,f5⟩:=hf ts[k] (List.getElem_mem hlt)
    have hle:=szTup_le ts[k].a ts[k].b ts[k].r ts[k].c ts[k].d ts[k].s x
    go_wp2_with fail
    refine (szTuple_any _ _ _ _ _ _ _ _ f0 f1 f2 f3 f4 f5 hx0 (by omega)).mono ?_
    rintro e w1 ⟨rfl,hb1⟩
    by_cases hn:szTup ts[k].a ts[k].b ts[k].r ts[k].c ts[k].d ts[k].s x < 0
    ·go_wp2
     go_ret
     exact ⟨⟨-1,rfl,.inl rfl⟩,hB.trans (hb1.mono hB.size)⟩
    ·go_wp2
     go_roundw
     case rel=>exact ⟨k + 1,_,by omega,by go_num,rfl,by omega,by omega,hB.trans (hb1.mono hB.size)⟩
     case measure=>simp [intOf]; omega
   ·go_wp2
    go_ret
    exact ⟨⟨x,rfl,.inr ⟨hx0,hx1,by omega⟩⟩,hB⟩
theorem szTupleS_nil (ad:Option Addr) (cap:Nat) (left:Int) (w:World) (h0:0≤left) (h1:left≤1048576) :
  Calls Tryz.prog 13 #[.slice ad 0 cap,.int .i64 left] w fun e w'=>(∃ n:Int,e=.returned (.int .i64 n)∧(n=-1 ∨ 0≤n∧n≤left∧(0:Nat)≤left))∧Below w.heap.size w w':=by
 go_enter Tryz.func13,Tryz.ntmps13
 go_wp2
 go_loopw [1,5] (fun l i wr=>∃ x:Int,l=.int .i64 x∧i=.int .i64 0∧0≤x∧x≤left∧Below w.heap.size w wr) (fun _ i _=>(intOf i).toNat)
 case atStart=>exact ⟨_,rfl,rfl,by omega,by omega,Below.refl _ _⟩
 case round =>
  obtain ⟨x,rfl,rfl,hx0,hx1,hB⟩:=hrel
  go_wp2
  go_ret
  exact ⟨⟨x,rfl,.inr ⟨hx0,hx1,by omega⟩⟩,hB⟩
theorem szTupleS_any (ad:Option Addr) (cap:Nat) (ts:List Tp) (left:Int) (w:World) (hlen:ts.length≤maxLen) (hs:Sl w ad ts) (hf:∀ t ∈ ts,t.fits) (h0:0≤left) (h1:left≤1048576) :
  Calls Tryz.prog 13 #[.slice ad ts.length cap,.int .i64 left] w fun e w'=>(∃ n:Int,e=.returned (.int .i64 n)∧(n=-1 ∨ 0≤n∧n≤left∧ts.length≤left))∧Below w.heap.size w w':=by
 rcases hs with rfl | ⟨b,off,rfl,hb,hr⟩
 ·exact szTupleS_nil ad cap left w h0 h1
 ·exact szTupleS_row b off cap ts left w hlen hr hb hf h0 h1
def put6 (w:World) (g o:Nat) (t:Tp):World :=
 (((((w.setCell ⟨g,o,none⟩ (.string t.a)).setCell ⟨g,o + 1,none⟩ (.string t.b)).setCell ⟨g,o + 2,none⟩ (.string t.r)).setCell ⟨g,o + 3,none⟩ (.string t.c)).setCell ⟨g,o + 4,none⟩ (.string t.d)).setCell ⟨g,o + 5,none⟩ (.string t.s)
theorem setO {w:World} {g i j:Nat} {v:Value} (h:i ≠ j):(w.setCell ⟨g,i,none⟩ v).cell? ⟨g,j,none⟩=w.cell? ⟨g,j,none⟩:=by
 apply World.cell?_setCell_other
 intro e
 exact h (congrArg Addr.off e)
theorem setS {w:World} {a:Addr} {v u:Value} (h:w.cell? a=some u):(w.setCell a v).cell? a=some v:=by
 apply World.cell?_setCell_same; exact h
theorem put6_far (w:World) (g o:Nat) (t:Tp) (j:Nat) (h:j < o ∨ o + 6≤j):(put6 w g o t).cell? ⟨g,j,none⟩=w.cell? ⟨g,j,none⟩:=by
 unfold put6
 rw [setO (by omega),setO (by omega),setO (by omega),setO (by omega),setO (by omega),setO (by omega)]
theorem put6_at {w:World} {g o:Nat} (t:Tp) (h:∀ j,j < 6→(w.cell? ⟨g,o + j,none⟩).isSome=true):At6 (put6 w g o t) g o t:=by
 have e:∀ (W:World) (i j:Nat) (v:Value),(W.cell? ⟨g,o + j,none⟩).isSome=true→((W.setCell ⟨g,o + i,none⟩ v).cell? ⟨g,o + j,none⟩).isSome=true:=by
  intro W i j v hW
  by_cases hij:i=j
  ·subst hij
   obtain ⟨u,hu⟩:=Option.isSome_iff_exists.mp hW
   rw [setS hu]; rfl
  ·rw [setO (by omega)]; exact hW
 have same:∀ (W:World) (j:Nat) (v:Value),(W.cell? ⟨g,o + j,none⟩).isSome=true→(W.setCell ⟨g,o + j,none⟩ v).cell? ⟨g,o + j,none⟩=some v:=by
  intro W j v hW
  obtain ⟨u,hu⟩:=Option.isSome_iff_exists.mp hW
  exact setS hu
 have h0:=h 0 (by omega)
 have h1:=h 1 (by omega)
 have h2:=h 2 (by omega)
 have h3:=h 3 (by omega)
 have h4:=h 4 (by omega)
 have h5:=h 5 (by omega)
 unfold put6 At6
 refine ⟨?_,?_,?_,?_,?_,?_⟩
 ·rw [setO (by omega),setO (by omega),setO (by omega),setO (by omega),setO (by omega)]
  exact same _ 0 _ h0
 ·rw [setO (by omega),setO (by omega),setO (by omega),setO (by omega)]
  exact same _ 1 _ (e _ 0 1 _ h1)
 ·rw [setO (by omega),setO (by omega),setO (by omega)]
  exact same _ 2 _ (e _ 1 2 _ (e _ 0 2 _ h2))
 ·rw [setO (by omega),setO (by omega)]
  exact same _ 3 _ (e _ 2 3 _ (e _ 1 3 _ (e _ 0 3 _ h3)))
 ·rw [setO (by omega)]
  exact same _ 4 _ (e _ 3 4 _ (e _ 2 4 _ (e _ 1 4 _ (e _ 0 4 _ h4))))
 ·exact same _ 5 _ (e _ 4 5 _ (e _ 3 5 _ (e _ 2 5 _ (e _ 1 5 _ (e _ 0 5 _ h5)))))
theorem put6_frozen (w:World) (g o:Nat) (t:Tp) (x:Addr):(put6 w g o t).frozen? x=w.frozen? x:=by simp [put6]
theorem put6_below {B:Nat} {w0 w:World} {g o:Nat} {t:Tp} (h:Below B w0 w) (hg:B≤g):Below B w0 (put6 w g o t):=by
 unfold put6
 exact (((((h.setCell (by exact hg) _).setCell (by exact hg) _).setCell (by exact hg) _).setCell (by exact hg) _).setCell (by exact hg) _).setCell (by exact hg) _
theorem put6_size (w:World) (g o:Nat) (t:Tp):(put6 w g o t).heap.size=w.heap.size:=by simp [put6]
end Go.Proofs.YtpnjoniolfmbnaaGreatDoor
namespace Go.Proofs.YtpnjoniolfmbnaaGreatDoor
open Go.ChangeShapes Go.WideShapes Go.ChangeAt Go.RowKit
open Pl
theorem infoTup:∃ i z,Tryz.prog.info? 29=some i∧i.zero=some z∧i.size=6∧i.bytes=96:=by
 have h:(Tryz.prog.info? 29).map (fun i=>(i.zero.isSome,i.size,i.bytes))=some (true,6,96):=by kernel_rfl
 cases hi:Tryz.prog.info? 29 with
 | none=>rw [hi] at h; cases h
 | some i =>
  rw [hi] at h
  simp at h
  obtain ⟨z,hz⟩:=Option.isSome_iff_exists.mp h.1
  exact ⟨i,z,rfl,hz,h.2.1,h.2.2⟩
structure Filling (w wr:World) (g:Nat) (ts:List Tp) (k:Nat):Prop where
 below:Below w.heap.size w wr
 ge:w.heap.size≤g
 lt:g < wr.heap.size
 done:∀ (i:Nat) (h:i < ts.length),i < k→At6 wr g (0 + i * 6) ts[i]
 there:∀ j,j < ts.length * 6→(wr.cell? ⟨g,j,none⟩).isSome=true
 free:∀ j,wr.frozen? ⟨g,j,none⟩=false
theorem Filling.later {w wr w1:World} {g:Nat} {ts:List Tp} {k:Nat} (h:Filling w wr g ts k) (hb:Below wr.heap.size wr w1):Filling w w1 g ts k where
 below:=h.below.trans (hb.mono h.below.size)
 ge:=h.ge
 lt:=Nat.lt_of_lt_of_le h.lt hb.size
 done i hi hk:=(h.done i hi hk).same fun o=>hb.cell (p:=⟨g,o,none⟩) h.lt
 there j hj:=by rw [hb.cell (p:=⟨g,j,none⟩) h.lt]; exact h.there j hj
 free j:=by rw [hb.frozen (p:=⟨g,j,none⟩) h.lt]; exact h.free j
theorem Filling.put {w wr:World} {g:Nat} {ts:List Tp} {k:Nat} (h:Filling w wr g ts k) (hk:k < ts.length):Filling w (put6 wr g (k * 6) ts[k]) g ts (k + 1) where
 below:=put6_below h.below h.ge
 ge:=h.ge
 lt:=by rw [put6_size]; exact h.lt
 done i hi hik:=by
  by_cases e:i=k
  ·subst e
   rw [Nat.zero_add]
   exact put6_at _ (fun j hj=>h.there _ (by omega))
  ·obtain ⟨a0,a1,a2,a3,a4,a5⟩:=h.done i hi (by omega)
   refine ⟨?_,?_,?_,?_,?_,?_⟩ <;> (rw [put6_far _ _ _ _ _ (by omega)]; assumption)
 there j hj:=by
  by_cases hin:j < k * 6 ∨ k * 6 + 6≤j
  ·rw [put6_far _ _ _ _ _ hin]; exact h.there j hj
  ·obtain ⟨a0,a1,a2,a3,a4,a5⟩:=put6_at (w:=wr) (g:=g) (o:=k * 6) ts[k] (fun j hj=>h.there _ (by omega))
   have hj6:j=k * 6 ∨ j=k * 6 + 1 ∨ j=k * 6 + 2 ∨ j=k * 6 + 3 ∨ j=k * 6 + 4 ∨ j=k * 6 + 5:=by omega
   rcases hj6 with e | e | e | e | e | e
   ·rw [e,a0]; rfl
   ·rw [e,a1]; rfl
   ·rw [e,a2]; rfl
   ·rw [e,a3]; rfl
   ·rw [e,a4]; rfl
   ·rw [e,a5]; rfl
 free j:=by rw [put6_frozen]; exact h.free j
theorem filling_made {w w0:World} {ts:List Tp} {base:Nat} {e:TypeId} {xs:List Value} (h:w0.ownsRow base e 6 (.slice (some ⟨w.heap.size,0,none⟩) ts.length ts.length) ts.length xs) (hg:w.grownBy w0 none):Filling w w0 w.heap.size ts 0 where
 below:=(Below.refl _ _).grown hg (Nat.le_refl _) (fun k hk=>by cases hk)
 ge:=Nat.le_refl _
 lt:=(h.lt w.heap.size rfl).2
 done i hi hk:=absurd hk (Nat.not_lt_zero _)
 there j hj:=by
  rw [h.cellAt j hj,List.getElem?_eq_getElem (by rw [h.1]; exact hj)]; rfl
 free j:=h.frozenAt j
set_option maxHeartbeats 1000000 in
theorem toTupleS_row (b off cap:Nat) (ts:List Tp) (w:World) (hlen:ts.length≤1048576) (hr:Row6 w b off ts) (hb:b < w.heap.size) :
  Calls Tryz.prog 16 #[.slice (some ⟨b,off,none⟩) ts.length cap] w fun e w'=>e=.returned (.slice (some ⟨w.heap.size,0,none⟩) ts.length ts.length)∧Filling w w' w.heap.size ts ts.length:=by
 obtain ⟨inf,z,hi,hz0,hz1,hz2⟩:=infoTup
 go_enter Tryz.func16,Tryz.ntmps16
 go_wp2_with (at_make; refine wpList_make_full _ rfl _ _ 25 rfl w.heap.size 29 inf z 6 Tryz.underlying25 hi hz0 hz1 .i64 .i64 _ _ ts.length rfl rfl rfl rfl (by rw [hz2]; omega) (by unfold maxLen; omega) (Nat.le_refl _) ?_; intro w0 hown0 hgrow0)
 have F0:Filling w w0 w.heap.size ts 0:=filling_made hown0 hgrow0
 clear hown0 hgrow0 hi hz0 hz1 hz2
 go_loopw [4] (fun i wr=>∃ k:Nat,k≤ts.length∧i=.int .i64 k∧Filling w wr w.heap.size ts k) (fun i _=>ts.length - (intOf i).toNat)
 case atStart=>exact ⟨0,Nat.zero_le _,rfl,F0⟩
 case round =>
  obtain ⟨k,hk,rfl,F⟩:=hrel
  by_cases hlt:k < ts.length
  ·obtain ⟨t0,t1,t2,t3,t4,t5⟩:=(hr.below F.below hb) k hlt
   go_wp2_with fail
   refine (toTuple_any _ _ _ _ _ _ _).mono ?_
   rintro e w1 ⟨rfl,hb1⟩
   have F1:=F.later hb1
   have fz:=F1.free
   obtain ⟨v0,u0⟩:=Option.isSome_iff_exists.mp (F1.there (k * 6) (by omega))
   obtain ⟨v1,u1⟩:=Option.isSome_iff_exists.mp (F1.there (k * 6 + 1) (by omega))
   obtain ⟨v2,u2⟩:=Option.isSome_iff_exists.mp (F1.there (k * 6 + 2) (by omega))
   obtain ⟨v3,u3⟩:=Option.isSome_iff_exists.mp (F1.there (k * 6 + 3) (by omega))
   obtain ⟨v4,u4⟩:=Option.isSome_iff_exists.mp (F1.there (k * 6 + 4) (by omega))
   obtain ⟨v5,u5⟩:=Option.isSome_iff_exists.mp (F1.there (k * 6 + 5) (by omega))
   have F2:=F1.put hlt
   clear F F0 t0 t1 t2 t3 t4 t5 hb1
   go_wp2
   go_roundw
   case rel=>exact ⟨k + 1,by omega,by go_num,F2⟩
   case measure=>simp [intOf]; omega
  ·obtain rfl:k=ts.length:=by omega
   go_wp2
   go_ret
   exact ⟨rfl,F⟩
theorem toTupleS_nil (ad:Option Addr) (cap:Nat) (w:World) :
  Calls Tryz.prog 16 #[.slice ad 0 cap] w fun e w'=>e=.returned (.slice (some ⟨w.heap.size,0,none⟩) 0 0)∧Filling w w' w.heap.size [] 0:=by
 obtain ⟨inf,z,hi,hz0,hz1,hz2⟩:=infoTup
 go_enter Tryz.func16,Tryz.ntmps16
 go_wp2_with (at_make; refine wpList_make_full _ rfl _ _ 25 rfl w.heap.size 29 inf z 6 Tryz.underlying25 hi hz0 hz1 .i64 .i64 _ _ 0 rfl rfl rfl rfl (by omega) (by unfold maxLen; omega) (Nat.le_refl _) ?_; intro w0 hown0 hgrow0)
 have F0:Filling w w0 w.heap.size [] 0:=filling_made (ts:=[]) hown0 hgrow0
 clear hown0 hgrow0 hi hz0 hz1 hz2
 go_loopw [4] (fun i wr=>∃ k:Nat,k=0∧i=.int .i64 k∧Filling w wr w.heap.size [] 0) (fun i _=>(intOf i).toNat)
 case atStart=>exact ⟨0,rfl,rfl,F0⟩
 case round =>
  obtain ⟨k,rfl,rfl,F⟩:=hrel
  go_wp2
  go_ret
  exact ⟨rfl,F⟩
theorem toTupleS_any (ad:Option Addr) (cap:Nat) (ts:List Tp) (w:World) (hlen:ts.length≤1048576) (hs:Sl w ad ts) :
  Calls Tryz.prog 16 #[.slice ad ts.length cap] w fun e w'=>e=.returned (.slice (some ⟨w.heap.size,0,none⟩) ts.length ts.length)∧Filling w w' w.heap.size ts ts.length:=by
 rcases hs with rfl | ⟨b,off,rfl,hb,hr⟩
 ·exact toTupleS_nil ad cap w
 ·exact toTupleS_row b off cap ts w hlen hr hb
theorem Filling.row {w w':World} {g:Nat} {ts:List Tp} (h:Filling w w' g ts ts.length):Row6 w' g 0 ts:=fun i hi=>h.done i hi hi
theorem Filling.sl {w w':World} {g:Nat} {ts:List Tp} (h:Filling w w' g ts ts.length):Sl w' (some ⟨g,0,none⟩) ts:=.inr ⟨g,0,rfl,h.lt,h.row⟩
end Go.Proofs.YtpnjoniolfmbnaaGreatDoor
namespace Go.Proofs.YtpnjoniolfmbnaaGreatDoor
open Go.ChangeShapes Go.WideShapes Go.ChangeAt Go.RowKit
open Pl
attribute [local go_sem ↓] Go.wp_at_zero Go.wp_at_succ
theorem keep6 {w W w':World} {n:Nat} {x0 x1 x2 x3 x4 x5:Value} (h:W.cell? ⟨n,0,none⟩=some x0∧W.cell? ⟨n,1,none⟩=some x1∧W.cell? ⟨n,2,none⟩=some x2∧W.cell? ⟨n,3,none⟩=some x3∧W.cell? ⟨n,4,none⟩=some x4∧W.cell? ⟨n,5,none⟩=some x5∧n < W.heap.size∧Below n w W) (hb:Below W.heap.size W w'):w'.cell? ⟨n,0,none⟩=some x0∧w'.cell? ⟨n,1,none⟩=some x1∧w'.cell? ⟨n,2,none⟩=some x2∧w'.cell? ⟨n,3,none⟩=some x3∧w'.cell? ⟨n,4,none⟩=some x4∧w'.cell? ⟨n,5,none⟩=some x5∧n < w'.heap.size∧Below n w w':=by
 obtain ⟨h0,h1,h2,h3,h4,h5,hn,hB⟩:=h
 have hc:∀ o,w'.cell? ⟨n,o,none⟩=W.cell? ⟨n,o,none⟩:=fun o=>hb.cell (p:=⟨n,o,none⟩) hn
 refine ⟨by rw [hc]; exact h0,by rw [hc]; exact h1,by rw [hc]; exact h2,by rw [hc]; exact h3,by rw [hc]; exact h4,by rw [hc]; exact h5,Nat.lt_of_lt_of_le hn hb.size,hB.trans (hb.mono (Nat.le_of_lt hn))⟩
theorem specTupText_any (a b r c d s:ByteArray) (w:World) (ha:a.size≤maxLen) (hb:b.size≤maxLen) (hr:r.size≤maxLen) (hc:c.size≤maxLen) (hd:d.size≤maxLen) (hs:s.size≤maxLen) :
  Calls Tryz.prog 136 #[.agg #[.string a,.string b,.string r,.string c,.string d,.string s]] w fun e w'=>e=.returned (.string (tupText a b r c d s))∧Below w.heap.size w w':=by
 by_cases hn:tupB a b r c d s=true
 ·obtain ⟨h1,h2,h3,h4⟩:=tupB_parts hn
  have hx:=objText_size a b
  have hy:=objText_size c d
  have hr12:=(nameB_le h2).2
  have hs12:=setB_le h4
  clear h1 h2 h3 h4
  go_enter Tryz.func136,Tryz.ntmps136
  go_wp2_with fail
  refine (specTup_any _ _ _ _ _ _ _ ha hb hr hc hd hs).mono ?_
  rintro e w1 ⟨rfl,hb1⟩
  obtain ⟨hc1,hf1⟩:=bcell hb1
  have hz1:w.heap.size < w1.heap.size:=by have:=hb1.size; simp at this; omega
  have k:∀ o v,(w.alloc (.cells #[.string a,.string b,.string r,.string c,.string d,.string s] 29)).cell? ⟨w.heap.size,o,none⟩=some v→w1.cell? ⟨w.heap.size,o,none⟩=some v:=fun o v h=>by rw [hc1 _ _ (by simp)]; exact h
  have k0:=k 0 (.string a) (by simp)
  have k1:=k 1 (.string b) (by simp)
  have k2:=k 2 (.string r) (by simp)
  have k3:=k 3 (.string c) (by simp)
  have k4:=k 4 (.string d) (by simp)
  have k5:=k 5 (.string s) (by simp)
  have HB1:Below w.heap.size w w1:=((Below.refl _ _).alloc (Nat.le_refl _) _).trans (hb1.mono (by simp))
  clear k hb1 hc1 hf1
  have q1:(9223372036854775807 < (objText a b).size + 1)=False:=by simp; omega
  have q2:(9223372036854775807 < (objText a b).size + 1 + r.size)=False:=by simp; omega
  have q3:(9223372036854775807 < (objText a b).size + 1 + r.size + 1)=False:=by simp; omega
  have q4:(9223372036854775807 < (objText a b).size + 1 + r.size + 1 + (objText c d).size)=False:=by simp; omega
  go_wp2_with fail
  go_region_held3 (fun w'=>w'.cell? ⟨w.heap.size,0,none⟩=some (.string a)∧w'.cell? ⟨w.heap.size,1,none⟩=some (.string b)∧w'.cell? ⟨w.heap.size,2,none⟩=some (.string r)∧w'.cell? ⟨w.heap.size,3,none⟩=some (.string c)∧w'.cell? ⟨w.heap.size,4,none⟩=some (.string d)∧w'.cell? ⟨w.heap.size,5,none⟩=some (.string s)∧w.heap.size < w'.heap.size∧Below w.heap.size w w')
   (first | exact keep6 (by assumption) hbx | exact ⟨k0,k1,k2,k3,k4,k5,hz1,HB1.drew⟩)
   (first | (go_at_call 158; refine (specObjText_any _ _ _ (by assumption) (by assumption)).mono ?_; rintro e w' ⟨rfl,hbx⟩))
  rename_i hH
  obtain ⟨g0,g1,g2,g3,g4,g5,gz,gB⟩:=hH
  clear k0 k1 k2 k3 k4 k5 hbx q1 q2 q3 q4 HB1
  by_cases he:s.toList.isEmpty=true
  ·have HT:Hid (tupText a b r c d s=_):=tupText_one hn he
   go_wp2
   go_ret
   exact ⟨ret_str HT.out.symm,gB⟩
  ·have he':s.toList.isEmpty=false:=by simpa using he
   have HT:Hid (tupText a b r c d s=_):=tupText_two hn he'
   clear he
   go_wp2
   go_ret
   exact ⟨ret_str HT.out.symm,gB⟩
 ·have hn':tupB a b r c d s=false:=by simpa using hn
  have HT:Hid (tupText a b r c d s=⟨#[]⟩):=tupText_no hn'
  clear hn
  go_enter Tryz.func136,Tryz.ntmps136
  go_wp2_with fail
  refine (specTup_any _ _ _ _ _ _ _ ha hb hr hc hd hs).mono ?_
  rintro e w1 ⟨rfl,hb1⟩
  go_wp2
  go_ret
  exact ⟨ret_str HT.out.symm,((Below.refl _ _).alloc (Nat.le_refl _) _).trans (hb1.mono (by simp))⟩
theorem implTupText_any (a b r c d s:ByteArray) (w:World) (ha:a.size≤maxLen) (hb:b.size≤maxLen) (hr:r.size≤maxLen) (hc:c.size≤maxLen) (hd:d.size≤maxLen) (hs:s.size≤maxLen) :
  Calls Tryz.prog 129 #[.agg #[.string a,.string b,.string r,.string c,.string d,.string s]] w fun e w'=>e=.returned (.string (tupText a b r c d s))∧Below w.heap.size w w':=by
 by_cases hn:tupB a b r c d s=true
 ·obtain ⟨h1,h2,h3,h4⟩:=tupB_parts hn
  have hx:=objText_size a b
  have hy:=objText_size c d
  have hr12:=(nameB_le h2).2
  have hs12:=setB_le h4
  clear h1 h2 h3 h4
  go_enter Tryz.func129,Tryz.ntmps129
  go_wp2_with fail
  refine (implTup_any _ _ _ _ _ _ _ ha hb hr hc hd hs).mono ?_
  rintro e w1 ⟨rfl,hb1⟩
  obtain ⟨hc1,hf1⟩:=bcell hb1
  have hz1:w.heap.size < w1.heap.size:=by have:=hb1.size; simp at this; omega
  have k:∀ o v,(w.alloc (.cells #[.string a,.string b,.string r,.string c,.string d,.string s] 29)).cell? ⟨w.heap.size,o,none⟩=some v→w1.cell? ⟨w.heap.size,o,none⟩=some v:=fun o v h=>by rw [hc1 _ _ (by simp)]; exact h
  have k0:=k 0 (.string a) (by simp)
  have k1:=k 1 (.string b) (by simp)
  have k2:=k 2 (.string r) (by simp)
  have k3:=k 3 (.string c) (by simp)
  have k4:=k 4 (.string d) (by simp)
  have k5:=k 5 (.string s) (by simp)
  have HB1:Below w.heap.size w w1:=((Below.refl _ _).alloc (Nat.le_refl _) _).trans (hb1.mono (by simp))
  clear k hb1 hc1 hf1
  have q1:(9223372036854775807 < (objText a b).size + 1)=False:=by simp; omega
  have q2:(9223372036854775807 < (objText a b).size + 1 + r.size)=False:=by simp; omega
  have q3:(9223372036854775807 < (objText a b).size + 1 + r.size + 1)=False:=by simp; omega
  have q4:(9223372036854775807 < (objText a b).size + 1 + r.size + 1 + (objText c d).size)=False:=by simp; omega
  go_wp2_with fail
  go_region_held3 (fun w'=>w'.cell? ⟨w.heap.size,0,none⟩=some (.string a)∧w'.cell? ⟨w.heap.size,1,none⟩=some (.string b)∧w'.cell? ⟨w.heap.size,2,none⟩=some (.string r)∧w'.cell? ⟨w.heap.size,3,none⟩=some (.string c)∧w'.cell? ⟨w.heap.size,4,none⟩=some (.string d)∧w'.cell? ⟨w.heap.size,5,none⟩=some (.string s)∧w.heap.size < w'.heap.size∧Below w.heap.size w w')
   (first | exact keep6 (by assumption) hbx | exact ⟨k0,k1,k2,k3,k4,k5,hz1,HB1.drew⟩)
   (first | (go_at_call 154; refine (implObjText_any _ _ _ (by assumption) (by assumption)).mono ?_; rintro e w' ⟨rfl,hbx⟩))
  rename_i hH
  obtain ⟨g0,g1,g2,g3,g4,g5,gz,gB⟩:=hH
  clear k0 k1 k2 k3 k4 k5 hbx q1 q2 q3 q4 HB1
  by_cases he:s.toList.isEmpty=true
  ·have HT:Hid (tupText a b r c d s=_):=tupText_one hn he
   go_wp2
   go_ret
   exact ⟨ret_str HT.out.symm,gB⟩
  ·have he':s.toList.isEmpty=false:=by simpa using he
   have HT:Hid (tupText a b r c d s=_):=tupText_two hn he'
   clear he
   go_wp2
   go_ret
   exact ⟨ret_str (HT.out.trans (by simp only [ByteArray.append_assoc])).symm,gB⟩
 ·have hn':tupB a b r c d s=false:=by simpa using hn
  have HT:Hid (tupText a b r c d s=⟨#[]⟩):=tupText_no hn'
  clear hn
  go_enter Tryz.func129,Tryz.ntmps129
  go_wp2_with fail
  refine (implTup_any _ _ _ _ _ _ _ ha hb hr hc hd hs).mono ?_
  rintro e w1 ⟨rfl,hb1⟩
  go_wp2
  go_ret
  exact ⟨ret_str HT.out.symm,((Below.refl _ _).alloc (Nat.le_refl _) _).trans (hb1.mono (by simp))⟩
end Go.Proofs.YtpnjoniolfmbnaaGreatDoor
