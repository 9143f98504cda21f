/- Contracts of the functions that hold two tuples' texts against one another. -/
import Derived.Maps.RangeWalk
import Derived.Test.YteoflgocljfgeaaGreatDoorJ20
import Derived.Test.YteoflgocljfgeaaGreatDoorShelf
open Go.Proofs.Tryz
set_option maxHeartbeats 80000000
namespace Go.Proofs.YteoflgocljfgeaaGreatDoor
open Go.ChangeShapes Go.WideShapes Go.ChangeAt Go.RowKit
open Pl
attribute [local go_sem ↓] Go.wp_at_zero Go.wp_at_succ
theorem D8 {w W w':World} {n m k:Nat} {x0 x1 x2 x3 x4 x5 y0 y1 y2 y3 y4 y5:Value} (hk:k≤n) (h:W.cell? ⟨n,0,none⟩=some x0∧W.cell? ⟨n,1,none⟩=some x1∧W.cell? ⟨n,2,none⟩=some x2∧W.cell? ⟨n,3,none⟩=some x3∧W.cell? ⟨n,4,none⟩=some x4∧W.cell? ⟨n,5,none⟩=some x5∧W.cell? ⟨m,0,none⟩=some y0∧W.cell? ⟨m,1,none⟩=some y1∧W.cell? ⟨m,2,none⟩=some y2∧W.cell? ⟨m,3,none⟩=some y3∧W.cell? ⟨m,4,none⟩=some y4∧W.cell? ⟨m,5,none⟩=some y5∧n < W.heap.size∧m < W.heap.size∧Below k w W) (hb:Below W.heap.size W w'):w'.cell? ⟨n,0,none⟩=some x0∧w'.cell? ⟨n,1,none⟩=some x1∧w'.cell? ⟨n,2,none⟩=some x2∧w'.cell? ⟨n,3,none⟩=some x3∧w'.cell? ⟨n,4,none⟩=some x4∧w'.cell? ⟨n,5,none⟩=some x5∧w'.cell? ⟨m,0,none⟩=some y0∧w'.cell? ⟨m,1,none⟩=some y1∧w'.cell? ⟨m,2,none⟩=some y2∧w'.cell? ⟨m,3,none⟩=some y3∧w'.cell? ⟨m,4,none⟩=some y4∧w'.cell? ⟨m,5,none⟩=some y5∧n < w'.heap.size∧m < w'.heap.size∧Below k w w':=by
 obtain ⟨h0,h1,h2,h3,h4,h5,h6,h7,h8,h9,h10,h11,hn,hm,hB⟩:=h;have hc:∀ o,w'.cell? ⟨n,o,none⟩=W.cell? ⟨n,o,none⟩:=fun o=>hb.cell (p:=⟨n,o,none⟩) hn;have hd:∀ o,w'.cell? ⟨m,o,none⟩=W.cell? ⟨m,o,none⟩:=fun o=>hb.cell (p:=⟨m,o,none⟩) hm;exact ⟨by rw [hc]; exact h0,by rw [hc]; exact h1,by rw [hc]; exact h2,by rw [hc]; exact h3,by rw [hc]; exact h4,by rw [hc]; exact h5,by rw [hd]; exact h6,by rw [hd]; exact h7,by rw [hd]; exact h8,by rw [hd]; exact h9,by rw [hd]; exact h10,by rw [hd]; exact h11,Nat.lt_of_lt_of_le hn hb.size,Nat.lt_of_lt_of_le hm hb.size,hB.trans (hb.mono (by omega))⟩
theorem AA (w:World) (o1 o2:Obj):Below w.heap.size w ((w.alloc o1).alloc o2) :=
 ((Below.refl _ _).alloc (Nat.le_refl _) _).alloc (by simp) _
def Jl (a b r c d s a' b' r' c' d' s':ByteArray):Int:=Lib.compareBytes (bn a b r c d s).data.toList (bn a' b' r' c' d' s').data.toList
theorem AB (x y:List UInt8):decide (Lib.compareBytes x y < 0)=Op.bytesLess x y:=by
 induction x generalizing y with
 | nil=>cases y <;> simp [Lib.compareBytes,Op.bytesLess]
 | cons a x ih =>
  cases y with
  | nil=>simp [Lib.compareBytes,Op.bytesLess]
  | cons b y =>
   unfold Lib.compareBytes Op.bytesLess;by_cases h:a < b
   ·simp [h]
   ·by_cases h2:b < a
    ·have hne:(a == b)=false:=by simp; intro e; subst e; exact h h2
     simp [h,h2,hne]
    ·have he:a=b:=by
      have h1:=UInt8.not_lt.mp h;have h3:=UInt8.not_lt.mp h2;exact UInt8.le_antisymm h3 h1
     subst he;simp [ih]
theorem LM (a b r c d s a' b' r' c' d' s':ByteArray) (w W:World) (hW:W=((w.alloc (.cells #[.string a,.string b,.string r,.string c,.string d,.string s] 41)).alloc (.cells #[.string a',.string b',.string r',.string c',.string d',.string s'] 41))):W.drew.cell? ⟨w.heap.size,0,none⟩=some (.string a)∧W.drew.cell? ⟨w.heap.size,1,none⟩=some (.string b)∧W.drew.cell? ⟨w.heap.size,2,none⟩=some (.string r)∧W.drew.cell? ⟨w.heap.size,3,none⟩=some (.string c)∧W.drew.cell? ⟨w.heap.size,4,none⟩=some (.string d)∧W.drew.cell? ⟨w.heap.size,5,none⟩=some (.string s)∧W.drew.cell? ⟨w.heap.size + 1,0,none⟩=some (.string a')∧W.drew.cell? ⟨w.heap.size + 1,1,none⟩=some (.string b')∧W.drew.cell? ⟨w.heap.size + 1,2,none⟩=some (.string r')∧W.drew.cell? ⟨w.heap.size + 1,3,none⟩=some (.string c')∧W.drew.cell? ⟨w.heap.size + 1,4,none⟩=some (.string d')∧W.drew.cell? ⟨w.heap.size + 1,5,none⟩=some (.string s')∧w.heap.size < W.drew.heap.size∧w.heap.size + 1 < W.drew.heap.size∧Below w.heap.size w (W.drew):=by
 subst hW;refine ⟨?_,?_,?_,?_,?_,?_,?_,?_,?_,?_,?_,?_,?_,?_,?_⟩
 all_goals first | exact (AA _ _ _).drew | (simp; done) | (simp; omega)
theorem kK (a b r c d s a' b' r' c' d' s':ByteArray) (w:World) (ha:a.size≤maxLen) (hb:b.size≤maxLen) (hr:r.size≤maxLen) (hc:c.size≤maxLen) (hd:d.size≤maxLen) (hs:s.size≤maxLen) (ga:a'.size≤maxLen) (gb:b'.size≤maxLen) (gr:r'.size≤maxLen) (gc:c'.size≤maxLen) (gd:d'.size≤maxLen) (gs:s'.size≤maxLen) :
  Calls prog 90 #[.agg #[.string a,.string b,.string r,.string c,.string d,.string s],.agg #[.string a',.string b',.string r',.string c',.string d',.string s']] w fun e w'=>e=.returned (.int .i64 (Jl a b r c d s a' b' r' c' d' s'))∧Below w.heap.size w w':=by
 have H0:=LM a b r c d s a' b' r' c' d' s' w _ rfl;go_enter func90,ntmps90;go_wp2_with fail
 go_region_held3 (fun w'=>w'.cell? ⟨w.heap.size,0,none⟩=some (.string a)∧w'.cell? ⟨w.heap.size,1,none⟩=some (.string b)∧w'.cell? ⟨w.heap.size,2,none⟩=some (.string r)∧w'.cell? ⟨w.heap.size,3,none⟩=some (.string c)∧w'.cell? ⟨w.heap.size,4,none⟩=some (.string d)∧w'.cell? ⟨w.heap.size,5,none⟩=some (.string s)∧w'.cell? ⟨w.heap.size + 1,0,none⟩=some (.string a')∧w'.cell? ⟨w.heap.size + 1,1,none⟩=some (.string b')∧w'.cell? ⟨w.heap.size + 1,2,none⟩=some (.string r')∧w'.cell? ⟨w.heap.size + 1,3,none⟩=some (.string c')∧w'.cell? ⟨w.heap.size + 1,4,none⟩=some (.string d')∧w'.cell? ⟨w.heap.size + 1,5,none⟩=some (.string s')∧w.heap.size < w'.heap.size∧w.heap.size + 1 < w'.heap.size∧Below w.heap.size w w')
  (first | assumption | exact D8 (Nat.le_refl _) (by assumption) hbx | exact H0)
  (first | (go_at_call 126; refine (uO _ _ _ _ _ _ _ (by assumption) (by assumption) (by assumption) (by assumption) (by assumption) (by assumption)).mono ?_; rintro e w' ⟨rfl,hbx⟩) | (go_at_call 125; refine (Tryz.strings_Compare _ _ _).mono ?_; rintro e w' ⟨rfl,rfl⟩))
 rename_i hH;obtain ⟨-,-,-,-,-,-,-,-,-,-,-,-,-,-,gB⟩:=hH;go_wp2;go_ret;exact ⟨rfl,gB⟩
def dX (a b r c d s a' b' r' c' d' s':ByteArray):Bool:=bB a b r c d s && bB a' b' r' c' d' s' && Op.bytesLess (bn a b r c d s).toList (bn a' b' r' c' d' s').toList
theorem xy {a b r c d s a' b' r' c' d' s':ByteArray} (h:bB a b r c d s=false):dX a b r c d s a' b' r' c' d' s'=false:=by simp [dX,h]
theorem xz {a b r c d s a' b' r' c' d' s':ByteArray} (h:bB a' b' r' c' d' s'=false):dX a b r c d s a' b' r' c' d' s'=false:=by simp [dX,h]
theorem qE {a b r c d s a' b' r' c' d' s':ByteArray} (h:bB a b r c d s=true) (h2:bB a' b' r' c' d' s'=true):dX a b r c d s a' b' r' c' d' s'=Op.bytesLess (bn a b r c d s).toList (bn a' b' r' c' d' s').toList:=by simp [dX,h,h2]
theorem xA {a b r c d s a' b' r' c' d' s':ByteArray} (h:bB a b r c d s=true) (h2:bB a' b' r' c' d' s'=true):dX a b r c d s a' b' r' c' d' s'=decide (Jl a b r c d s a' b' r' c' d' s' < 0):=by
 rw [qE h h2,Jl,AB,Go.ByteArray.toList_eq,Go.ByteArray.toList_eq]
theorem kU (a b r c d s a' b' r' c' d' s':ByteArray) (w:World) (ha:a.size≤maxLen) (hb:b.size≤maxLen) (hr:r.size≤maxLen) (hc:c.size≤maxLen) (hd:d.size≤maxLen) (hs:s.size≤maxLen) (ga:a'.size≤maxLen) (gb:b'.size≤maxLen) (gr:r'.size≤maxLen) (gc:c'.size≤maxLen) (gd:d'.size≤maxLen) (gs:s'.size≤maxLen) :
  Calls prog 82 #[.agg #[.string a,.string b,.string r,.string c,.string d,.string s],.agg #[.string a',.string b',.string r',.string c',.string d',.string s']] w fun e w'=>e=.returned (.bool (dX a b r c d s a' b' r' c' d' s'))∧Below w.heap.size w w':=by
 have H0:=LM a b r c d s a' b' r' c' d' s' w _ rfl;by_cases h1:bB a b r c d s=true
 ·by_cases h2:bB a' b' r' c' d' s'=true
  ·have HT:Hid (dX a b r c d s a' b' r' c' d' s'=_):=qE h1 h2;go_enter func82,ntmps82;go_wp2_with fail
   go_region_held3 (fun w'=>w'.cell? ⟨w.heap.size,0,none⟩=some (.string a)∧w'.cell? ⟨w.heap.size,1,none⟩=some (.string b)∧w'.cell? ⟨w.heap.size,2,none⟩=some (.string r)∧w'.cell? ⟨w.heap.size,3,none⟩=some (.string c)∧w'.cell? ⟨w.heap.size,4,none⟩=some (.string d)∧w'.cell? ⟨w.heap.size,5,none⟩=some (.string s)∧w'.cell? ⟨w.heap.size + 1,0,none⟩=some (.string a')∧w'.cell? ⟨w.heap.size + 1,1,none⟩=some (.string b')∧w'.cell? ⟨w.heap.size + 1,2,none⟩=some (.string r')∧w'.cell? ⟨w.heap.size + 1,3,none⟩=some (.string c')∧w'.cell? ⟨w.heap.size + 1,4,none⟩=some (.string d')∧w'.cell? ⟨w.heap.size + 1,5,none⟩=some (.string s')∧w.heap.size < w'.heap.size∧w.heap.size + 1 < w'.heap.size∧Below w.heap.size w w')
    (first | assumption | exact D8 (Nat.le_refl _) (by assumption) hbx | exact H0)
    (first | (go_at_call_of 49 (Value.agg #[.string a,.string b,.string r,.string c,.string d,.string s]); refine (bz a b r c d s _ ha hb hr hc hd hs).mono ?_; rintro e w' ⟨he,hbx⟩; rw [h1] at he; subst he) | (go_at_call_of 49 (Value.agg #[.string a',.string b',.string r',.string c',.string d',.string s']); refine (bz a' b' r' c' d' s' _ ga gb gr gc gd gs).mono ?_; rintro e w' ⟨he,hbx⟩; rw [h2] at he; subst he) | (go_at_call 120; refine (uN _ _ _ _ _ _ _ (by assumption) (by assumption) (by assumption) (by assumption) (by assumption) (by assumption)).mono ?_; rintro e w' ⟨rfl,hbx⟩))
   rename_i hH;obtain ⟨-,-,-,-,-,-,-,-,-,-,-,-,-,-,gB⟩:=hH;clear H0;go_wp2;go_ret;exact ⟨ag HT.out.symm,gB⟩
  ·have h2':bB a' b' r' c' d' s'=false:=by simpa using h2
   have HT:Hid (dX a b r c d s a' b' r' c' d' s'=false):=xz h2';clear h2;obtain ⟨u0,u1,u2,u3,u4,u5,u6,u7,u8,u9,u10,u11,un,um,uB⟩:=H0;go_enter func82,ntmps82;go_wp2_with fail
   go_region_with (first | (go_at_call_of 49 (Value.agg #[.string a,.string b,.string r,.string c,.string d,.string s]); refine (bz a b r c d s _ ha hb hr hc hd hs).mono ?_; rintro e w1 ⟨he,hbx⟩; rw [h1] at he; subst he; obtain ⟨k0,k1,k2,k3,k4,k5,k6,k7,k8,k9,k10,k11,kn,km,kB⟩:=D8 (Nat.le_refl _) ⟨u0,u1,u2,u3,u4,u5,u6,u7,u8,u9,u10,u11,un,um,uB⟩ hbx) | (go_at_call_of 49 (Value.agg #[.string a',.string b',.string r',.string c',.string d',.string s']); refine (bz a' b' r' c' d' s' _ ga gb gr gc gd gs).mono ?_; rintro e w2 ⟨he,hby⟩; rw [h2'] at he; subst he))
   all_goals clear u0 u1 u2 u3 u4 u5 u6 u7 u8 u9 u10 u11
   all_goals go_wp2
   all_goals go_ret
   all_goals exact ⟨ag HT.out.symm,kB.trans (hby.mono (by omega))⟩
 ·have h1':bB a b r c d s=false:=by simpa using h1
  have HT:Hid (dX a b r c d s a' b' r' c' d' s'=false):=xy h1';clear h1;obtain ⟨u0,u1,u2,u3,u4,u5,u6,u7,u8,u9,u10,u11,un,um,uB⟩:=H0;go_enter func82,ntmps82;go_wp2_with fail
  go_region_with (go_at_call_of 49 (Value.agg #[.string a,.string b,.string r,.string c,.string d,.string s]); refine (bz a b r c d s _ ha hb hr hc hd hs).mono ?_; rintro e w1 ⟨he,hbx⟩; rw [h1'] at he; subst he)
  all_goals clear u0 u1 u2 u3 u4 u5 u6 u7 u8 u9 u10 u11
  all_goals go_wp2
  all_goals go_ret
  all_goals exact ⟨ag HT.out.symm,uB.trans (hbx.mono (by omega))⟩
theorem qd (a b r c d s a' b' r' c' d' s':ByteArray) (w:World) (ha:a.size≤maxLen) (hb:b.size≤maxLen) (hr:r.size≤maxLen) (hc:c.size≤maxLen) (hd:d.size≤maxLen) (hs:s.size≤maxLen) (ga:a'.size≤maxLen) (gb:b'.size≤maxLen) (gr:r'.size≤maxLen) (gc:c'.size≤maxLen) (gd:d'.size≤maxLen) (gs:s'.size≤maxLen) :
  Calls prog 75 #[.agg #[.string a,.string b,.string r,.string c,.string d,.string s],.agg #[.string a',.string b',.string r',.string c',.string d',.string s']] w fun e w'=>e=.returned (.bool (dX a b r c d s a' b' r' c' d' s'))∧Below w.heap.size w w':=by
 by_cases h1:bB a b r c d s=true
 ·by_cases h2:bB a' b' r' c' d' s'=true
  ·have HT:Hid (dX a b r c d s a' b' r' c' d' s'=decide (Jl a b r c d s a' b' r' c' d' s' < 0)):=xA h1 h2;go_enter func75,ntmps75;go_wp2_with fail;refine (bO _ _ _ _ _ _ _ ha hb hr hc hd hs).mono ?_;rintro e w1 ⟨rfl,hb1⟩;obtain ⟨hc1,hf1⟩:=iK hb1;have hz1:w.heap.size + 1 < w1.heap.size:=by have:=hb1.size; simp at this; omega
   have hy1:w.heap.size < w1.heap.size:=by omega
   have HB1:Below w.heap.size w w1:=(AA _ _ _).trans (hb1.mono (by simp; omega));go_wp2_with fail;refine (bO _ _ _ _ _ _ _ ga gb gr gc gd gs).mono ?_;rintro e w2 ⟨rfl,hb2⟩;obtain ⟨hc2,hf2⟩:=iK hb2;have hz2:w.heap.size + 1 < w2.heap.size:=by have:=hb2.size; omega
   have hy2:w.heap.size < w2.heap.size:=by omega
   go_wp2_with fail;refine (kK _ _ _ _ _ _ _ _ _ _ _ _ _ ha hb hr hc hd hs ga gb gr gc gd gs).mono ?_;rintro e w3 ⟨rfl,hb3⟩;go_wp2;go_ret;exact ⟨ag HT.out.symm,HB1.trans ((hb2.mono (by omega)).trans (hb3.mono (by omega)))⟩
  ·have h2':bB a' b' r' c' d' s'=false:=by simpa using h2
   have HT:Hid (dX a b r c d s a' b' r' c' d' s'=false):=xz h2';clear h2;go_enter func75,ntmps75;go_wp2_with fail;refine (bO _ _ _ _ _ _ _ ha hb hr hc hd hs).mono ?_;rintro e w1 ⟨rfl,hb1⟩;obtain ⟨hc1,hf1⟩:=iK hb1;have hz1:w.heap.size + 1 < w1.heap.size:=by have:=hb1.size; simp at this; omega
   have hy1:w.heap.size < w1.heap.size:=by omega
   have HB1:Below w.heap.size w w1:=(AA _ _ _).trans (hb1.mono (by simp; omega));go_wp2_with fail;refine (bO _ _ _ _ _ _ _ ga gb gr gc gd gs).mono ?_;rintro e w2 ⟨rfl,hb2⟩;go_wp2;go_ret;exact ⟨ag HT.out.symm,HB1.trans (hb2.mono (by omega))⟩
 ·have h1':bB a b r c d s=false:=by simpa using h1
  have HT:Hid (dX a b r c d s a' b' r' c' d' s'=false):=xy h1';clear h1;go_enter func75,ntmps75;go_wp2_with fail;refine (bO _ _ _ _ _ _ _ ha hb hr hc hd hs).mono ?_;rintro e w1 ⟨rfl,hb1⟩;obtain ⟨hc1,hf1⟩:=iK hb1;have hz1:w.heap.size + 1 < w1.heap.size:=by have:=hb1.size; simp at this; omega
  have hy1:w.heap.size < w1.heap.size:=by omega
  have HB1:Below w.heap.size w w1:=(AA _ _ _).trans (hb1.mono (by simp; omega));go_wp2;go_ret;exact ⟨ag HT.out.symm,HB1⟩
end Go.Proofs.YteoflgocljfgeaaGreatDoor
namespace Go.Proofs.YteoflgocljfgeaaGreatDoor
open Go.ChangeShapes Go.WideShapes Go.ChangeAt Go.RowKit
open Pl
attribute [local go_sem ↓] Go.wp_at_zero Go.wp_at_succ
def Tp.ok (t:Tp):Bool:=bB t.a t.b t.r t.c t.d t.s
def Tp.ahead (t u:Tp):Bool:=dX t.a t.b t.r t.c t.d t.s u.a u.b u.r u.c u.d u.s
def uP (ts:List Tp) (i:Nat):Bool:=match ts[i]? with
 | none=>true
 | some t=>t.ok && (match i with
  | 0=>true
  | j + 1=>match ts[j]? with
   | none=>true
   | some u=>u.ahead t)
def rH (ts:List Tp) (k:Nat):Bool:=(List.range k).all (uP ts)
def dH (ts:List Tp):Bool:=decide (ts.length≤40) && rH ts ts.length
theorem oW (ts:List Tp) (k:Nat):rH ts (k + 1)=(rH ts k && uP ts k):=by simp [rH,List.range_succ]
theorem rJ {ts:List Tp} {k:Nat} (hk:k < ts.length) (h:uP ts k=false):dH ts=false:=by
 have:rH ts ts.length=false:=by
  unfold rH;rw [List.all_eq_false];exact ⟨k,by simpa using hk,by simp [h]⟩
 simp [dH,this]
theorem oZ {ts:List Tp} (h:0 < ts.length):uP ts 0=ts[0].ok:=by simp [uP,List.getElem?_eq_getElem h]
theorem lD {ts:List Tp} {j:Nat} (h:j + 1 < ts.length):uP ts (j + 1)=(ts[j + 1].ok && ts[j].ahead ts[j + 1]):=by
 have h':j < ts.length:=by omega
 simp [uP,List.getElem?_eq_getElem h,List.getElem?_eq_getElem h']
theorem Fb {ts:List Tp} {k:Nat} (h:k < ts.length) (hn:ts[k].ok=false):uP ts k=false:=by
 simp [uP,List.getElem?_eq_getElem h,hn]
theorem ko {P:Program} {ops:Array Oper} {Q:Exit→Act→World→Prop} {md:Region.Mode} {S:World→Prop} {i:Nat} {oi:Oper} {v:Value} {fuel:Nat} {listed:Array Bool} {a:Act} {w:World} (d:Nat) (hi:ops[i]?=some oi) (hd:oi.dst=some d)
  (hs:Region.noSelect ops=true) (hf:Region.free md ops listed i=true) (hr:(Region.ready md ops listed).contains i=true)
  (hQ:∀ c a w,Q (.panic c) (a.put oi.dst v) w→Q (.panic c) a w) (hy:YieldsIf P ops S oi v a) (hS:S w)
  (h:wpAnyH P md ops Q S fuel (listed.setIfInBounds i true) (a.put (some d) v) w):wpAnyH P md ops Q S (fuel + 1) listed a w :=
 wpAnyH_take hi hs hf hr hQ hy hS (by rw [hd]; exact h)
theorem tk {P:Program} {ops:Array Oper} {Q:Exit→Act→World→Prop} {md:Region.Mode} {S:World→Prop} {oi:Oper} {v:Value} {fuel:Nat} {listed:Array Bool} {a:Act} {w:World} (i d:Nat)
  (h:wpAnyH P md ops Q S fuel (listed.setIfInBounds i true) (a.put (some d) v) w) (hi:ops[i]?=some oi:=by rfl) (hd:oi.dst=some d:=by rfl) (hs:Region.noSelect ops=true:=by kernel_rfl) (hf:Region.free md ops listed i=true:=by kernel_rfl) (hr:(Region.ready md ops listed).contains i=true:=by kernel_rfl)
  (hQ:∀ c a w,Q (.panic c) (a.put oi.dst v) w→Q (.panic c) a w:=by exact fun _ _ _ h=>h) (hy:YieldsIf P ops S oi v a:=by refine Or.inl ⟨by rfl,?_⟩; intro w hSw; (try dsimp only at hSw); go_simp <;> with_reducible rfl) (hS:S w:=by assumption):wpAnyH P md ops Q S (fuel + 1) listed a w :=
 ko d hi hd hs hf hr hQ hy hS h
theorem kC {P:Program} {ops:Array Oper} {Q:Exit→Act→World→Prop} {md:Region.Mode} {S:World→Prop} {oi:Oper} {fuel:Nat} {listed:Array Bool} {a:Act} {w:World} (i d:Nat)
  (h:wpAnyH P md ops Q S fuel (listed.setIfInBounds i true) (a.put (some d) undef) w) (hi:ops[i]?=some oi:=by rfl) (hd:oi.dst=some d:=by rfl) (hs:Region.noSelect ops=true:=by kernel_rfl) (hf:Region.free md ops listed i=true:=by kernel_rfl) (hr:(Region.ready md ops listed).contains i=true:=by kernel_rfl)
  (hQ:∀ c a w,Q (.panic c) (a.put oi.dst undef) w→Q (.panic c) a w:=by exact fun _ _ _ h=>h) (hy:YieldsIf P ops S oi undef a:=by exact Or.inr ⟨by rfl,rfl⟩) (hS:S w:=by assumption):wpAnyH P md ops Q S (fuel + 1) listed a w :=
 ko d hi hd hs hf hr hQ hy hS h
theorem Fe {w W w':World} {b o0 o1 o2 o3 o4 o5 n:Nat} {x0 x1 x2 x3 x4 x5:Value} (hb:b < n)
  (h:W.cell? ⟨b,o0,none⟩=some x0∧W.cell? ⟨b,o1,none⟩=some x1∧W.cell? ⟨b,o2,none⟩=some x2∧W.cell? ⟨b,o3,none⟩=some x3∧W.cell? ⟨b,o4,none⟩=some x4∧W.cell? ⟨b,o5,none⟩=some x5∧n≤W.heap.size∧Below n w W)
  (hB:Below W.heap.size W w') :
  w'.cell? ⟨b,o0,none⟩=some x0∧w'.cell? ⟨b,o1,none⟩=some x1∧w'.cell? ⟨b,o2,none⟩=some x2∧w'.cell? ⟨b,o3,none⟩=some x3∧w'.cell? ⟨b,o4,none⟩=some x4∧w'.cell? ⟨b,o5,none⟩=some x5∧n≤w'.heap.size∧Below n w w':=by
 obtain ⟨h0,h1,h2,h3,h4,h5,hn,hW⟩:=h;have hc:∀ o,w'.cell? ⟨b,o,none⟩=W.cell? ⟨b,o,none⟩:=fun o=>hB.cell (p:=⟨b,o,none⟩) (Nat.lt_of_lt_of_le hb hn);exact ⟨by rw [hc]; exact h0,by rw [hc]; exact h1,by rw [hc]; exact h2,by rw [hc]; exact h3,by rw [hc]; exact h4,by rw [hc]; exact h5,Nat.le_trans hn hB.size,hW.trans (hB.mono hn)⟩
theorem AC {w W w':World} {b b' o0 o1 o2 o3 o4 o5 o6 o7 o8 o9 o10 o11 n:Nat} {x0 x1 x2 x3 x4 x5 x6 x7 x8 x9 x10 x11:Value} (hb:b < n)
  (h:W.cell? ⟨b,o0,none⟩=some x0∧W.cell? ⟨b,o1,none⟩=some x1∧W.cell? ⟨b,o2,none⟩=some x2∧W.cell? ⟨b,o3,none⟩=some x3∧W.cell? ⟨b,o4,none⟩=some x4∧W.cell? ⟨b,o5,none⟩=some x5∧W.cell? ⟨b',o6,none⟩=some x6∧W.cell? ⟨b',o7,none⟩=some x7∧W.cell? ⟨b',o8,none⟩=some x8∧W.cell? ⟨b',o9,none⟩=some x9∧W.cell? ⟨b',o10,none⟩=some x10∧W.cell? ⟨b',o11,none⟩=some x11∧b' < W.heap.size∧n≤W.heap.size∧Below n w W)
  (hB:Below W.heap.size W w'):w'.cell? ⟨b,o0,none⟩=some x0∧w'.cell? ⟨b,o1,none⟩=some x1∧w'.cell? ⟨b,o2,none⟩=some x2∧w'.cell? ⟨b,o3,none⟩=some x3∧w'.cell? ⟨b,o4,none⟩=some x4∧w'.cell? ⟨b,o5,none⟩=some x5∧w'.cell? ⟨b',o6,none⟩=some x6∧w'.cell? ⟨b',o7,none⟩=some x7∧w'.cell? ⟨b',o8,none⟩=some x8∧w'.cell? ⟨b',o9,none⟩=some x9∧w'.cell? ⟨b',o10,none⟩=some x10∧w'.cell? ⟨b',o11,none⟩=some x11∧b' < w'.heap.size∧n≤w'.heap.size∧Below n w w':=by
 obtain ⟨h0,h1,h2,h3,h4,h5,h6,h7,h8,h9,h10,h11,hb',hn,hW⟩:=h;have hc:∀ o,w'.cell? ⟨b,o,none⟩=W.cell? ⟨b,o,none⟩:=fun o=>hB.cell (p:=⟨b,o,none⟩) (Nat.lt_of_lt_of_le hb hn);have hd:∀ o,w'.cell? ⟨b',o,none⟩=W.cell? ⟨b',o,none⟩:=fun o=>hB.cell (p:=⟨b',o,none⟩) hb';exact ⟨by rw [hc]; exact h0,by rw [hc]; exact h1,by rw [hc]; exact h2,by rw [hc]; exact h3,by rw [hc]; exact h4,by rw [hc]; exact h5,by rw [hd]; exact h6,by rw [hd]; exact h7,by rw [hd]; exact h8,by rw [hd]; exact h9,by rw [hd]; exact h10,by rw [hd]; exact h11,Nat.lt_of_lt_of_le hb' hB.size,Nat.le_trans hn hB.size,hW.trans (hB.mono hn)⟩
theorem sO (b off cap:Nat) (ts:List Tp) (w:World) (hlen:ts.length≤maxLen) (hr:dL w b off ts) (hb:b < w.heap.size) (hf:∀ t ∈ ts,t.fits) :
    Calls prog 46 #[.slice (some ⟨b,off,none⟩) ts.length cap] w fun e w'=>e=.returned (.bool (dH ts))∧Below w.heap.size w w':=by
  unfold maxLen at hlen;by_cases hbig:40 < ts.length
  · have HT:Hid (dH ts=false):=by show _=_; simp [dH]; omega
    go_enter func46,ntmps46;go_wp2;go_ret;exact ⟨ag HT.out.symm,Below.refl _ _⟩
  · go_enter func46,ntmps46;go_wp2;go_loopw [3] (fun i wr=>∃ k:Nat,k≤ts.length∧i=.int .i64 k∧Hid (rH ts k=true)∧Below w.heap.size w wr) (fun i _=>ts.length - (intOf i).toNat);case atStart=>exact ⟨0,Nat.zero_le _,rfl,rfl,Below.refl _ _⟩
    case round =>
      obtain ⟨k,hk,rfl,hu,hB⟩:=hrel;by_cases hlt:k < ts.length
      · obtain ⟨t0,t1,t2,t3,t4,t5⟩:=(hr.below hB hb) k hlt;obtain ⟨f0,f1,f2,f3,f4,f5⟩:=hf ts[k] (List.getElem_mem hlt);by_cases hok:ts[k].ok=true
        · have hok':bB ts[k].a ts[k].b ts[k].r ts[k].c ts[k].d ts[k].s=true:=hok;by_cases hz:k=0
          · subst hz;have HU:Hid (rH ts (0 + 1)=true):=by show _=_; rw [oW,hu.out,oZ hlt,hok]; rfl
            have hk1:(0:Int)≤((0:Nat):Int):=by omega
            have hk2:((0:Nat):Int) < (ts.length:Int):=by omega
            clear hok hu;go_wp2_with fail;refine wp_region_held_drew (S:=fun w'=>w'.cell? ⟨b,off,none⟩=some (.string ts[0].a)∧w'.cell? ⟨b,off + 1,none⟩=some (.string ts[0].b)∧w'.cell? ⟨b,off + 2,none⟩=some (.string ts[0].r)∧w'.cell? ⟨b,off + 3,none⟩=some (.string ts[0].c)∧w'.cell? ⟨b,off + 4,none⟩=some (.string ts[0].d)∧w'.cell? ⟨b,off + 5,none⟩=some (.string ts[0].s)∧w.heap.size≤w'.heap.size∧Below w.heap.size w w') (by kernel_rfl) ⟨by simpa using t0,by simpa using t1,by simpa using t2,by simpa using t3,by simpa using t4,by simpa using t5,hB.size,hB.drew⟩ (fun hHeld=>?_);refine tk 0 13 ?_;go_frame;refine tk 1 14 ?_;go_frame;refine tk 2 15 ?_;go_frame;refine tk 3 16 ?_;go_frame;refine wpAnyH_ready (rs:=[4]) (by kernel_rfl) (by simp) ?_;refine AllReadyH.cons rfl (fun K hK=>?_) AllReadyH.nil;go_simp;refine (bz _ _ _ _ _ _ _ f0 f1 f2 f3 f4 f5).mono ?_;rintro e w1 ⟨he,hb1⟩;rw [hok'] at he;subst he;go_wp2_with fail;refine hK.out _ _ (Fe hb hHeld hb1) (fun hHeld=>?_);clear hK K;refine tk 5 18 ?_;go_frame;refine tk 6 19 ?_;go_frame;refine tk 7 20 ?_;go_frame;refine tk 8 21 ?_;go_frame;refine tk 9 22 ?_;go_frame;refine kC 10 23 ?_;go_frame;refine kC 11 24 ?_;go_frame;refine kC 12 25 ?_;go_frame;refine kC 13 26 ?_;go_frame;refine kC 14 27 ?_;go_frame;refine kC 15 28 ?_;go_frame;refine kC 16 29 ?_;go_frame;refine kC 17 30 ?_;go_frame;refine kC 18 31 ?_;go_frame;refine kC 19 32 ?_;go_frame;refine kC 20 33 ?_;go_frame;refine tk 21 34 ?_;go_frame;refine tk 22 35 ?_;go_frame;refine wpAnyH_done (by kernel_rfl) ?_ _;have HB:=hHeld.2.2.2.2.2.2.2;clear hHeld;go_wp2;go_roundw;case rel=>exact ⟨0 + 1,by omega,by go_num,HU,HB⟩
            case measure=>simp [intOf]; omega
          · obtain ⟨m,hm⟩:∃ m:Nat,k=m + 1:=⟨k - 1,by omega⟩;have hml:m < ts.length:=by omega
            obtain ⟨q0,q1,q2,q3,q4,q5⟩:=(hr.below hB hb) m hml;obtain ⟨g0,g1,g2,g3,g4,g5⟩:=hf ts[m] (List.getElem_mem hml);have hkm:(k:Int) - 1=(m:Int):=by omega
            have hm1:=bR m;have hm2:(m:Int) < (ts.length:Int):=by omega
            have hpos:(0:Int) < (k:Int):=by omega
            have hposN:0 < k:=by omega
            have hwm:IntKind.i64.wrap (m:Int)=(m:Int):=by rw [IntKind.wrap_i64]; omega
            have HA:Hid (uP ts k=ts[m].ahead ts[k]):=by show _=_; subst hm; rw [lD hlt,hok]; rfl
            clear hm hz hr hf;have hk1:=bR k;have hk2:(k:Int) < (ts.length:Int):=by omega
            by_cases ha:ts[m].ahead ts[k]=true
            · have ha':dX ts[m].a ts[m].b ts[m].r ts[m].c ts[m].d ts[m].s ts[k].a ts[k].b ts[k].r ts[k].c ts[k].d ts[k].s=true:=ha;have HU:Hid (rH ts (k + 1)=true):=by show _=_; rw [oW,hu.out,HA.out,ha]; rfl
              clear hok hu HA ha;go_wp2_with fail;refine wp_region_held_drew (S:=fun w'=>w'.cell? ⟨b,off + k * 6,none⟩=some (.string ts[k].a)∧w'.cell? ⟨b,off + k * 6 + 1,none⟩=some (.string ts[k].b)∧w'.cell? ⟨b,off + k * 6 + 2,none⟩=some (.string ts[k].r)∧w'.cell? ⟨b,off + k * 6 + 3,none⟩=some (.string ts[k].c)∧w'.cell? ⟨b,off + k * 6 + 4,none⟩=some (.string ts[k].d)∧w'.cell? ⟨b,off + k * 6 + 5,none⟩=some (.string ts[k].s)∧w'.cell? ⟨b,off + m * 6,none⟩=some (.string ts[m].a)∧w'.cell? ⟨b,off + m * 6 + 1,none⟩=some (.string ts[m].b)∧w'.cell? ⟨b,off + m * 6 + 2,none⟩=some (.string ts[m].r)∧w'.cell? ⟨b,off + m * 6 + 3,none⟩=some (.string ts[m].c)∧w'.cell? ⟨b,off + m * 6 + 4,none⟩=some (.string ts[m].d)∧w'.cell? ⟨b,off + m * 6 + 5,none⟩=some (.string ts[m].s)∧b < w'.heap.size∧w.heap.size≤w'.heap.size∧Below w.heap.size w w') (by kernel_rfl) ⟨t0,t1,t2,t3,t4,t5,q0,q1,q2,q3,q4,q5,Nat.lt_of_lt_of_le hb hB.size,hB.size,hB.drew⟩ (fun hHeld=>?_);refine tk 0 13 ?_;go_frame;refine tk 1 14 ?_;go_frame;refine tk 2 15 ?_;go_frame;refine tk 3 16 ?_;go_frame;refine wpAnyH_ready (rs:=[4]) (by kernel_rfl) (by simp) ?_;refine AllReadyH.cons rfl (fun K hK=>?_) AllReadyH.nil;go_simp;refine (bz _ _ _ _ _ _ _ f0 f1 f2 f3 f4 f5).mono ?_;rintro e w1 ⟨he,hb1⟩;rw [hok'] at he;subst he;go_wp2_with fail;refine hK.out _ _ (AC hb hHeld hb1) (fun hHeld=>?_);clear hK K;refine tk 5 18 ?_;go_frame;refine tk 6 19 ?_;go_frame;refine tk 7 20 ?_;go_frame;refine ko (i:=8) (v:=.bool true) 21 rfl rfl (by kernel_rfl) (by kernel_rfl) (by kernel_rfl) (fun _ _ _ h=>h) (Or.inl ⟨by rfl,?_⟩) (by assumption) ?_
              · intro w hSw; (try dsimp only at hSw); go_simp
              go_frame;refine tk 9 22 ?_;go_frame;refine tk 10 23 ?_;go_frame;refine tk 11 24 ?_;go_frame;refine ko (i:=12) (v:=.int .i64 (m:Int)) 25 rfl rfl (by kernel_rfl) (by kernel_rfl) (by kernel_rfl) (fun _ _ _ h=>h) (Or.inl ⟨by rfl,?_⟩) (by assumption) ?_
              · intro w hSw; (try dsimp only at hSw); go_simp
              go_frame;refine tk 13 26 ?_;go_frame;refine tk 14 27 ?_;go_frame;refine tk 15 28 ?_;go_frame;refine tk 16 29 ?_;go_frame;refine tk 17 30 ?_;go_frame;refine tk 18 31 ?_;go_frame;refine wpAnyH_ready (rs:=[19]) (by kernel_rfl) (by simp) ?_;refine AllReadyH.cons rfl (fun K hK=>?_) AllReadyH.nil;go_simp;refine (kU _ _ _ _ _ _ _ _ _ _ _ _ _ g0 g1 g2 g3 g4 g5 f0 f1 f2 f3 f4 f5).mono ?_;rintro e w2 ⟨he,hb2⟩;rw [ha'] at he;subst he;go_wp2_with fail;refine hK.out _ _ (AC hb hHeld hb2) (fun hHeld=>?_);clear hK K;refine tk 20 33 ?_;go_frame;refine tk 21 34 ?_;go_frame;refine tk 22 35 ?_;go_frame;refine wpAnyH_done (by kernel_rfl) ?_ _;have HB:=hHeld.2.2.2.2.2.2.2.2.2.2.2.2.2.2;clear hHeld;go_wp2;go_roundw;case rel=>exact ⟨k + 1,by omega,by go_num,HU,HB⟩
              case measure=>simp [intOf]; omega
            · have hna:ts[m].ahead ts[k]=false:=by simpa using ha
              have ha':dX ts[m].a ts[m].b ts[m].r ts[m].c ts[m].d ts[m].s ts[k].a ts[k].b ts[k].r ts[k].c ts[k].d ts[k].s=false:=hna;have HT:Hid (dH ts=false):=rJ hlt (by rw [HA.out,hna]);clear hok hu HA ha hna;go_wp2_with fail;refine wp_region_held_drew (S:=fun w'=>w'.cell? ⟨b,off + k * 6,none⟩=some (.string ts[k].a)∧w'.cell? ⟨b,off + k * 6 + 1,none⟩=some (.string ts[k].b)∧w'.cell? ⟨b,off + k * 6 + 2,none⟩=some (.string ts[k].r)∧w'.cell? ⟨b,off + k * 6 + 3,none⟩=some (.string ts[k].c)∧w'.cell? ⟨b,off + k * 6 + 4,none⟩=some (.string ts[k].d)∧w'.cell? ⟨b,off + k * 6 + 5,none⟩=some (.string ts[k].s)∧w'.cell? ⟨b,off + m * 6,none⟩=some (.string ts[m].a)∧w'.cell? ⟨b,off + m * 6 + 1,none⟩=some (.string ts[m].b)∧w'.cell? ⟨b,off + m * 6 + 2,none⟩=some (.string ts[m].r)∧w'.cell? ⟨b,off + m * 6 + 3,none⟩=some (.string ts[m].c)∧w'.cell? ⟨b,off + m * 6 + 4,none⟩=some (.string ts[m].d)∧w'.cell? ⟨b,off + m * 6 + 5,none⟩=some (.string ts[m].s)∧b < w'.heap.size∧w.heap.size≤w'.heap.size∧Below w.heap.size w w') (by kernel_rfl) ⟨t0,t1,t2,t3,t4,t5,q0,q1,q2,q3,q4,q5,Nat.lt_of_lt_of_le hb hB.size,hB.size,hB.drew⟩ (fun hHeld=>?_);refine tk 0 13 ?_;go_frame;refine tk 1 14 ?_;go_frame;refine tk 2 15 ?_;go_frame;refine tk 3 16 ?_;go_frame;refine wpAnyH_ready (rs:=[4]) (by kernel_rfl) (by simp) ?_;refine AllReadyH.cons rfl (fun K hK=>?_) AllReadyH.nil;go_simp;refine (bz _ _ _ _ _ _ _ f0 f1 f2 f3 f4 f5).mono ?_;rintro e w1 ⟨he,hb1⟩;rw [hok'] at he;subst he;go_wp2_with fail;refine hK.out _ _ (AC hb hHeld hb1) (fun hHeld=>?_);clear hK K;refine tk 5 18 ?_;go_frame;refine tk 6 19 ?_;go_frame;refine tk 7 20 ?_;go_frame;refine ko (i:=8) (v:=.bool true) 21 rfl rfl (by kernel_rfl) (by kernel_rfl) (by kernel_rfl) (fun _ _ _ h=>h) (Or.inl ⟨by rfl,?_⟩) (by assumption) ?_
              · intro w hSw; (try dsimp only at hSw); go_simp
              go_frame;refine tk 9 22 ?_;go_frame;refine tk 10 23 ?_;go_frame;refine tk 11 24 ?_;go_frame;refine ko (i:=12) (v:=.int .i64 (m:Int)) 25 rfl rfl (by kernel_rfl) (by kernel_rfl) (by kernel_rfl) (fun _ _ _ h=>h) (Or.inl ⟨by rfl,?_⟩) (by assumption) ?_
              · intro w hSw; (try dsimp only at hSw); go_simp
              go_frame;refine tk 13 26 ?_;go_frame;refine tk 14 27 ?_;go_frame;refine tk 15 28 ?_;go_frame;refine tk 16 29 ?_;go_frame;refine tk 17 30 ?_;go_frame;refine tk 18 31 ?_;go_frame;refine wpAnyH_ready (rs:=[19]) (by kernel_rfl) (by simp) ?_;refine AllReadyH.cons rfl (fun K hK=>?_) AllReadyH.nil;go_simp;refine (kU _ _ _ _ _ _ _ _ _ _ _ _ _ g0 g1 g2 g3 g4 g5 f0 f1 f2 f3 f4 f5).mono ?_;rintro e w2 ⟨he,hb2⟩;rw [ha'] at he;subst he;go_wp2_with fail;refine hK.out _ _ (AC hb hHeld hb2) (fun hHeld=>?_);clear hK K;refine tk 20 33 ?_;go_frame;refine tk 21 34 ?_;go_frame;refine tk 22 35 ?_;go_frame;refine wpAnyH_done (by kernel_rfl) ?_ _;have HB:=hHeld.2.2.2.2.2.2.2.2.2.2.2.2.2.2;clear hHeld;go_wp2;go_ret;exact ⟨ag HT.out.symm,HB⟩
        · have hno:ts[k].ok=false:=by simpa using hok
          have HT:Hid (dH ts=false):=rJ hlt (Fb hlt hno);have hno':bB ts[k].a ts[k].b ts[k].r ts[k].c ts[k].d ts[k].s=false:=hno;clear hok hno;have hk1:=bR k;have hk2:(k:Int) < (ts.length:Int):=by omega
          go_wp2_with fail;refine wp_region_held_drew (S:=fun w'=>w'.cell? ⟨b,off + k * 6,none⟩=some (.string ts[k].a)∧w'.cell? ⟨b,off + k * 6 + 1,none⟩=some (.string ts[k].b)∧w'.cell? ⟨b,off + k * 6 + 2,none⟩=some (.string ts[k].r)∧w'.cell? ⟨b,off + k * 6 + 3,none⟩=some (.string ts[k].c)∧w'.cell? ⟨b,off + k * 6 + 4,none⟩=some (.string ts[k].d)∧w'.cell? ⟨b,off + k * 6 + 5,none⟩=some (.string ts[k].s)∧w.heap.size≤w'.heap.size∧Below w.heap.size w w') (by kernel_rfl) ⟨t0,t1,t2,t3,t4,t5,hB.size,hB.drew⟩ (fun hHeld=>?_);refine tk 0 13 ?_;go_frame;refine tk 1 14 ?_;go_frame;refine tk 2 15 ?_;go_frame;refine tk 3 16 ?_;go_frame;refine wpAnyH_ready (rs:=[4]) (by kernel_rfl) (by simp) ?_;refine AllReadyH.cons rfl (fun K hK=>?_) AllReadyH.nil;go_simp;refine (bz _ _ _ _ _ _ _ f0 f1 f2 f3 f4 f5).mono ?_;rintro e w1 ⟨he,hb1⟩;rw [hno'] at he;subst he;go_wp2_with fail;refine hK.out _ _ (Fe hb hHeld hb1) (fun hHeld=>?_);clear hK K;refine tk 5 18 ?_;go_frame;refine tk 6 19 ?_;go_frame;refine kC 7 20 ?_;go_frame;refine kC 8 21 ?_;go_frame;refine kC 9 22 ?_;go_frame;refine kC 10 23 ?_;go_frame;refine kC 11 24 ?_;go_frame;refine kC 12 25 ?_;go_frame;refine kC 13 26 ?_;go_frame;refine kC 14 27 ?_;go_frame;refine kC 15 28 ?_;go_frame;refine kC 16 29 ?_;go_frame;refine kC 17 30 ?_;go_frame;refine kC 18 31 ?_;go_frame;refine kC 19 32 ?_;go_frame;refine kC 20 33 ?_;go_frame;refine kC 21 34 ?_;go_frame;refine tk 22 35 ?_;go_frame;refine wpAnyH_done (by kernel_rfl) ?_ _;have HB:=hHeld.2.2.2.2.2.2.2;clear hHeld;go_wp2;go_ret;exact ⟨ag HT.out.symm,HB⟩
      · go_wp2;go_ret;exact ⟨ag (by have e:k=ts.length:=(by omega);subst e;simp [dH,hu.out]; omega),hB⟩
end Go.Proofs.YteoflgocljfgeaaGreatDoor
