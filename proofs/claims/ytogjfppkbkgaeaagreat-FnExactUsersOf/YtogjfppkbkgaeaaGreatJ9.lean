/- Contracts of the functions that hold two tuples' texts against one another. -/
import Derived.Test.YtogjfppkbkgaeaaGreatJ8
import Derived.Test.YtogjfppkbkgaeaaGreatShelf
import Derived.Test.YtogjfppkbkgaeaaGreatJ1
import Derived.Test.YtogjfppkbkgaeaaGreatJ7
namespace Go.Proofs.YtogjfppkbkgaeaaGreat
open Go.ChangeShapes Go.WideShapes Go.ChangeAt Go.RowKit
open Pl
attribute [local go_sem ↓] Go.wp_at_zero Go.wp_at_succ
theorem DY {w W w':World} {n m k:Nat} {x0 x1 x2 x3 x4 x5 y0 y1 y2 y3 y4 y5:Value} (hk:k≤n) (h:W.cell? ⟨n,0,none⟩=some x0∧W.cell? ⟨n,1,none⟩=some x1∧W.cell? ⟨n,2,none⟩=some x2∧W.cell? ⟨n,3,none⟩=some x3∧W.cell? ⟨n,4,none⟩=some x4∧W.cell? ⟨n,5,none⟩=some x5∧W.cell? ⟨m,0,none⟩=some y0∧W.cell? ⟨m,1,none⟩=some y1∧W.cell? ⟨m,2,none⟩=some y2∧W.cell? ⟨m,3,none⟩=some y3∧W.cell? ⟨m,4,none⟩=some y4∧W.cell? ⟨m,5,none⟩=some y5∧n < W.heap.size∧m < W.heap.size∧Below k w W) (hb:Below W.heap.size W w'):w'.cell? ⟨n,0,none⟩=some x0∧w'.cell? ⟨n,1,none⟩=some x1∧w'.cell? ⟨n,2,none⟩=some x2∧w'.cell? ⟨n,3,none⟩=some x3∧w'.cell? ⟨n,4,none⟩=some x4∧w'.cell? ⟨n,5,none⟩=some x5∧w'.cell? ⟨m,0,none⟩=some y0∧w'.cell? ⟨m,1,none⟩=some y1∧w'.cell? ⟨m,2,none⟩=some y2∧w'.cell? ⟨m,3,none⟩=some y3∧w'.cell? ⟨m,4,none⟩=some y4∧w'.cell? ⟨m,5,none⟩=some y5∧n < w'.heap.size∧m < w'.heap.size∧Below k w w':=by
 obtain ⟨h0,h1,h2,h3,h4,h5,h6,h7,h8,h9,h10,h11,hn,hm,hB⟩:=h;have hc:∀ o,w'.cell? ⟨n,o,none⟩=W.cell? ⟨n,o,none⟩:=fun o=>hb.cell (p:=⟨n,o,none⟩) hn;have hd:∀ o,w'.cell? ⟨m,o,none⟩=W.cell? ⟨m,o,none⟩:=fun o=>hb.cell (p:=⟨m,o,none⟩) hm;exact ⟨by rw [hc]; exact h0,by rw [hc]; exact h1,by rw [hc]; exact h2,by rw [hc]; exact h3,by rw [hc]; exact h4,by rw [hc]; exact h5,by rw [hd]; exact h6,by rw [hd]; exact h7,by rw [hd]; exact h8,by rw [hd]; exact h9,by rw [hd]; exact h10,by rw [hd]; exact h11,Nat.lt_of_lt_of_le hn hb.size,Nat.lt_of_lt_of_le hm hb.size,hB.trans (hb.mono (by omega))⟩
theorem rf (w:World) (o1 o2:Obj):Below w.heap.size w ((w.alloc o1).alloc o2) :=
 ((Below.refl _ _).alloc (Nat.le_refl _) _).alloc (by simp) _
def DZ (a b r c d s a' b' r' c' d' s':ByteArray):Int:=Lib.compareBytes (aN a b r c d s).data.toList (aN a' b' r' c' d' s').data.toList
theorem qa (x y:List UInt8):decide (Lib.compareBytes x y < 0)=Op.bytesLess x y:=by
 induction x generalizing y with
 | nil=>cases y <;> simp [Lib.compareBytes,Op.bytesLess]
 | cons a x ih =>
  cases y with
  | nil=>simp [Lib.compareBytes,Op.bytesLess]
  | cons b y =>
   unfold Lib.compareBytes Op.bytesLess;by_cases h:a < b
   ·simp [h]
   ·by_cases h2:b < a
    ·have hne:(a == b)=false:=by simp; intro e; subst e; exact h h2
     simp [h,h2,hne]
    ·have he:a=b:=by
      have h1:=UInt8.not_lt.mp h;have h3:=UInt8.not_lt.mp h2;exact UInt8.le_antisymm h3 h1
     subst he;simp [ih]
theorem qc (a b r c d s a' b' r' c' d' s':ByteArray) (w:World) (ha:a.size≤maxLen) (hb:b.size≤maxLen) (hr:r.size≤maxLen) (hc:c.size≤maxLen) (hd:d.size≤maxLen) (hs:s.size≤maxLen) (ga:a'.size≤maxLen) (gb:b'.size≤maxLen) (gr:r'.size≤maxLen) (gc:c'.size≤maxLen) (gd:d'.size≤maxLen) (gs:s'.size≤maxLen) :
  Calls Tryz.prog 71 #[.agg #[.string a,.string b,.string r,.string c,.string d,.string s],.agg #[.string a',.string b',.string r',.string c',.string d',.string s']] w fun e w'=>e=.returned (.int .i64 (DZ a b r c d s a' b' r' c' d' s'))∧Below w.heap.size w w':=by
 have H0:((w.alloc (.cells #[.string a,.string b,.string r,.string c,.string d,.string s] 73)).alloc (.cells #[.string a',.string b',.string r',.string c',.string d',.string s'] 73)).drew.cell? ⟨w.heap.size,0,none⟩=some (.string a)∧((w.alloc (.cells #[.string a,.string b,.string r,.string c,.string d,.string s] 73)).alloc (.cells #[.string a',.string b',.string r',.string c',.string d',.string s'] 73)).drew.cell? ⟨w.heap.size,1,none⟩=some (.string b)∧((w.alloc (.cells #[.string a,.string b,.string r,.string c,.string d,.string s] 73)).alloc (.cells #[.string a',.string b',.string r',.string c',.string d',.string s'] 73)).drew.cell? ⟨w.heap.size,2,none⟩=some (.string r)∧((w.alloc (.cells #[.string a,.string b,.string r,.string c,.string d,.string s] 73)).alloc (.cells #[.string a',.string b',.string r',.string c',.string d',.string s'] 73)).drew.cell? ⟨w.heap.size,3,none⟩=some (.string c)∧((w.alloc (.cells #[.string a,.string b,.string r,.string c,.string d,.string s] 73)).alloc (.cells #[.string a',.string b',.string r',.string c',.string d',.string s'] 73)).drew.cell? ⟨w.heap.size,4,none⟩=some (.string d)∧((w.alloc (.cells #[.string a,.string b,.string r,.string c,.string d,.string s] 73)).alloc (.cells #[.string a',.string b',.string r',.string c',.string d',.string s'] 73)).drew.cell? ⟨w.heap.size,5,none⟩=some (.string s)∧((w.alloc (.cells #[.string a,.string b,.string r,.string c,.string d,.string s] 73)).alloc (.cells #[.string a',.string b',.string r',.string c',.string d',.string s'] 73)).drew.cell? ⟨w.heap.size + 1,0,none⟩=some (.string a')∧((w.alloc (.cells #[.string a,.string b,.string r,.string c,.string d,.string s] 73)).alloc (.cells #[.string a',.string b',.string r',.string c',.string d',.string s'] 73)).drew.cell? ⟨w.heap.size + 1,1,none⟩=some (.string b')∧((w.alloc (.cells #[.string a,.string b,.string r,.string c,.string d,.string s] 73)).alloc (.cells #[.string a',.string b',.string r',.string c',.string d',.string s'] 73)).drew.cell? ⟨w.heap.size + 1,2,none⟩=some (.string r')∧((w.alloc (.cells #[.string a,.string b,.string r,.string c,.string d,.string s] 73)).alloc (.cells #[.string a',.string b',.string r',.string c',.string d',.string s'] 73)).drew.cell? ⟨w.heap.size + 1,3,none⟩=some (.string c')∧((w.alloc (.cells #[.string a,.string b,.string r,.string c,.string d,.string s] 73)).alloc (.cells #[.string a',.string b',.string r',.string c',.string d',.string s'] 73)).drew.cell? ⟨w.heap.size + 1,4,none⟩=some (.string d')∧((w.alloc (.cells #[.string a,.string b,.string r,.string c,.string d,.string s] 73)).alloc (.cells #[.string a',.string b',.string r',.string c',.string d',.string s'] 73)).drew.cell? ⟨w.heap.size + 1,5,none⟩=some (.string s')∧w.heap.size < ((w.alloc (.cells #[.string a,.string b,.string r,.string c,.string d,.string s] 73)).alloc (.cells #[.string a',.string b',.string r',.string c',.string d',.string s'] 73)).drew.heap.size∧w.heap.size + 1 < ((w.alloc (.cells #[.string a,.string b,.string r,.string c,.string d,.string s] 73)).alloc (.cells #[.string a',.string b',.string r',.string c',.string d',.string s'] 73)).drew.heap.size∧Below w.heap.size w (((w.alloc (.cells #[.string a,.string b,.string r,.string c,.string d,.string s] 73)).alloc (.cells #[.string a',.string b',.string r',.string c',.string d',.string s'] 73)).drew):=by
  refine ⟨?_,?_,?_,?_,?_,?_,?_,?_,?_,?_,?_,?_,?_,?_,?_⟩
  all_goals first | exact (rf _ _ _).drew | (simp; done) | (simp; omega)
 go_enter Tryz.func71,Tryz.ntmps71;go_wp2_with fail
 go_region_held3 (fun w'=>w'.cell? ⟨w.heap.size,0,none⟩=some (.string a)∧w'.cell? ⟨w.heap.size,1,none⟩=some (.string b)∧w'.cell? ⟨w.heap.size,2,none⟩=some (.string r)∧w'.cell? ⟨w.heap.size,3,none⟩=some (.string c)∧w'.cell? ⟨w.heap.size,4,none⟩=some (.string d)∧w'.cell? ⟨w.heap.size,5,none⟩=some (.string s)∧w'.cell? ⟨w.heap.size + 1,0,none⟩=some (.string a')∧w'.cell? ⟨w.heap.size + 1,1,none⟩=some (.string b')∧w'.cell? ⟨w.heap.size + 1,2,none⟩=some (.string r')∧w'.cell? ⟨w.heap.size + 1,3,none⟩=some (.string c')∧w'.cell? ⟨w.heap.size + 1,4,none⟩=some (.string d')∧w'.cell? ⟨w.heap.size + 1,5,none⟩=some (.string s')∧w.heap.size < w'.heap.size∧w.heap.size + 1 < w'.heap.size∧Below w.heap.size w w')
  (first | assumption | exact DY (Nat.le_refl _) (by assumption) hbx | exact H0)
  (first | (go_at_call 112; refine (uh _ _ _ _ _ _ _ (by assumption) (by assumption) (by assumption) (by assumption) (by assumption) (by assumption)).mono ?_; rintro e w' ⟨rfl,hbx⟩) | (go_at_call 111; refine (Tryz.strings_Compare _ _ _).mono ?_; rintro e w' ⟨rfl,rfl⟩))
 rename_i hH;obtain ⟨-,-,-,-,-,-,-,-,-,-,-,-,-,-,gB⟩:=hH;go_wp2;go_ret;exact ⟨rfl,gB⟩
def dx (a b r c d s a' b' r' c' d' s':ByteArray):Bool:=aU a b r c d s && aU a' b' r' c' d' s' && Op.bytesLess (aN a b r c d s).toList (aN a' b' r' c' d' s').toList
theorem vO {a b r c d s a' b' r' c' d' s':ByteArray} (h:aU a b r c d s=false):dx a b r c d s a' b' r' c' d' s'=false:=by simp [dx,h]
theorem vP {a b r c d s a' b' r' c' d' s':ByteArray} (h:aU a' b' r' c' d' s'=false):dx a b r c d s a' b' r' c' d' s'=false:=by simp [dx,h]
theorem oU {a b r c d s a' b' r' c' d' s':ByteArray} (h:aU a b r c d s=true) (h2:aU a' b' r' c' d' s'=true):dx a b r c d s a' b' r' c' d' s'=Op.bytesLess (aN a b r c d s).toList (aN a' b' r' c' d' s').toList:=by simp [dx,h,h2]
theorem D5 {a b r c d s a' b' r' c' d' s':ByteArray} (h:aU a b r c d s=true) (h2:aU a' b' r' c' d' s'=true):dx a b r c d s a' b' r' c' d' s'=decide (DZ a b r c d s a' b' r' c' d' s' < 0):=by
 rw [oU h h2,DZ,qa,Go.ByteArray.toList_eq,Go.ByteArray.toList_eq]
set_option maxHeartbeats 1000000 in
theorem kg (a b r c d s a' b' r' c' d' s':ByteArray) (w:World) (ha:a.size≤maxLen) (hb:b.size≤maxLen) (hr:r.size≤maxLen) (hc:c.size≤maxLen) (hd:d.size≤maxLen) (hs:s.size≤maxLen) (ga:a'.size≤maxLen) (gb:b'.size≤maxLen) (gr:r'.size≤maxLen) (gc:c'.size≤maxLen) (gd:d'.size≤maxLen) (gs:s'.size≤maxLen) :
  Calls Tryz.prog 81 #[.agg #[.string a,.string b,.string r,.string c,.string d,.string s],.agg #[.string a',.string b',.string r',.string c',.string d',.string s']] w fun e w'=>e=.returned (.bool (dx a b r c d s a' b' r' c' d' s'))∧Below w.heap.size w w':=by
 have H0:((w.alloc (.cells #[.string a,.string b,.string r,.string c,.string d,.string s] 73)).alloc (.cells #[.string a',.string b',.string r',.string c',.string d',.string s'] 73)).drew.cell? ⟨w.heap.size,0,none⟩=some (.string a)∧((w.alloc (.cells #[.string a,.string b,.string r,.string c,.string d,.string s] 73)).alloc (.cells #[.string a',.string b',.string r',.string c',.string d',.string s'] 73)).drew.cell? ⟨w.heap.size,1,none⟩=some (.string b)∧((w.alloc (.cells #[.string a,.string b,.string r,.string c,.string d,.string s] 73)).alloc (.cells #[.string a',.string b',.string r',.string c',.string d',.string s'] 73)).drew.cell? ⟨w.heap.size,2,none⟩=some (.string r)∧((w.alloc (.cells #[.string a,.string b,.string r,.string c,.string d,.string s] 73)).alloc (.cells #[.string a',.string b',.string r',.string c',.string d',.string s'] 73)).drew.cell? ⟨w.heap.size,3,none⟩=some (.string c)∧((w.alloc (.cells #[.string a,.string b,.string r,.string c,.string d,.string s] 73)).alloc (.cells #[.string a',.string b',.string r',.string c',.string d',.string s'] 73)).drew.cell? ⟨w.heap.size,4,none⟩=some (.string d)∧((w.alloc (.cells #[.string a,.string b,.string r,.string c,.string d,.string s] 73)).alloc (.cells #[.string a',.string b',.string r',.string c',.string d',.string s'] 73)).drew.cell? ⟨w.heap.size,5,none⟩=some (.string s)∧((w.alloc (.cells #[.string a,.string b,.string r,.string c,.string d,.string s] 73)).alloc (.cells #[.string a',.string b',.string r',.string c',.string d',.string s'] 73)).drew.cell? ⟨w.heap.size + 1,0,none⟩=some (.string a')∧((w.alloc (.cells #[.string a,.string b,.string r,.string c,.string d,.string s] 73)).alloc (.cells #[.string a',.string b',.string r',.string c',.string d',.string s'] 73)).drew.cell? ⟨w.heap.size + 1,1,none⟩=some (.string b')∧((w.alloc (.cells #[.string a,.string b,.string r,.string c,.string d,.string s] 73)).alloc (.cells #[.string a',.string b',.string r',.string c',.string d',.string s'] 73)).drew.cell? ⟨w.heap.size + 1,2,none⟩=some (.string r')∧((w.alloc (.cells #[.string a,.string b,.string r,.string c,.string d,.string s] 73)).alloc (.cells #[.string a',.string b',.string r',.string c',.string d',.string s'] 73)).drew.cell? ⟨w.heap.size + 1,3,none⟩=some (.string c')∧((w.alloc (.cells #[.string a,.string b,.string r,.string c,.string d,.string s] 73)).alloc (.cells #[.string a',.string b',.string r',.string c',.string d',.string s'] 73)).drew.cell? ⟨w.heap.size + 1,4,none⟩=some (.string d')∧((w.alloc (.cells #[.string a,.string b,.string r,.string c,.string d,.string s] 73)).alloc (.cells #[.string a',.string b',.string r',.string c',.string d',.string s'] 73)).drew.cell? ⟨w.heap.size + 1,5,none⟩=some (.string s')∧w.heap.size < ((w.alloc (.cells #[.string a,.string b,.string r,.string c,.string d,.string s] 73)).alloc (.cells #[.string a',.string b',.string r',.string c',.string d',.string s'] 73)).drew.heap.size∧w.heap.size + 1 < ((w.alloc (.cells #[.string a,.string b,.string r,.string c,.string d,.string s] 73)).alloc (.cells #[.string a',.string b',.string r',.string c',.string d',.string s'] 73)).drew.heap.size∧Below w.heap.size w (((w.alloc (.cells #[.string a,.string b,.string r,.string c,.string d,.string s] 73)).alloc (.cells #[.string a',.string b',.string r',.string c',.string d',.string s'] 73)).drew):=by
  refine ⟨?_,?_,?_,?_,?_,?_,?_,?_,?_,?_,?_,?_,?_,?_,?_⟩
  all_goals first | exact (rf _ _ _).drew | (simp; done) | (simp; omega)
 by_cases h1:aU a b r c d s=true
 ·by_cases h2:aU a' b' r' c' d' s'=true
  ·have HT:Hid (dx a b r c d s a' b' r' c' d' s'=_):=oU h1 h2;go_enter Tryz.func81,Tryz.ntmps81;go_wp2_with fail
   go_region_held3 (fun w'=>w'.cell? ⟨w.heap.size,0,none⟩=some (.string a)∧w'.cell? ⟨w.heap.size,1,none⟩=some (.string b)∧w'.cell? ⟨w.heap.size,2,none⟩=some (.string r)∧w'.cell? ⟨w.heap.size,3,none⟩=some (.string c)∧w'.cell? ⟨w.heap.size,4,none⟩=some (.string d)∧w'.cell? ⟨w.heap.size,5,none⟩=some (.string s)∧w'.cell? ⟨w.heap.size + 1,0,none⟩=some (.string a')∧w'.cell? ⟨w.heap.size + 1,1,none⟩=some (.string b')∧w'.cell? ⟨w.heap.size + 1,2,none⟩=some (.string r')∧w'.cell? ⟨w.heap.size + 1,3,none⟩=some (.string c')∧w'.cell? ⟨w.heap.size + 1,4,none⟩=some (.string d')∧w'.cell? ⟨w.heap.size + 1,5,none⟩=some (.string s')∧w.heap.size < w'.heap.size∧w.heap.size + 1 < w'.heap.size∧Below w.heap.size w w')
    (first | assumption | exact DY (Nat.le_refl _) (by assumption) hbx | exact H0)
    (first | (go_at_call_of 80 (Value.agg #[Value.string a,Value.string b,Value.string r,Value.string c,Value.string d,Value.string s]); refine (bv a b r c d s _ ha hb hr hc hd hs).mono ?_; rintro e w' ⟨he,hbx⟩; rw [h1] at he; subst he) | (go_at_call_of 80 (Value.agg #[Value.string a',Value.string b',Value.string r',Value.string c',Value.string d',Value.string s']); refine (bv a' b' r' c' d' s' _ ga gb gr gc gd gs).mono ?_; rintro e w' ⟨he,hbx⟩; rw [h2] at he; subst he) | (go_at_call 124; refine (ug _ _ _ _ _ _ _ (by assumption) (by assumption) (by assumption) (by assumption) (by assumption) (by assumption)).mono ?_; rintro e w' ⟨rfl,hbx⟩))
   rename_i hH;obtain ⟨-,-,-,-,-,-,-,-,-,-,-,-,-,-,gB⟩:=hH;clear H0;go_wp2;go_ret;exact ⟨ae HT.out.symm,gB⟩
  ·have h2':aU a' b' r' c' d' s'=false:=by simpa using h2
   have HT:Hid (dx a b r c d s a' b' r' c' d' s'=false):=vP h2';clear h2;obtain ⟨u0,u1,u2,u3,u4,u5,u6,u7,u8,u9,u10,u11,un,um,uB⟩:=H0;go_enter Tryz.func81,Tryz.ntmps81;go_wp2_with fail
   go_region_with (first | (go_at_call_of 80 (Value.agg #[Value.string a,Value.string b,Value.string r,Value.string c,Value.string d,Value.string s]); refine (bv a b r c d s _ ha hb hr hc hd hs).mono ?_; rintro e w1 ⟨he,hbx⟩; rw [h1] at he; subst he; obtain ⟨k0,k1,k2,k3,k4,k5,k6,k7,k8,k9,k10,k11,kn,km,kB⟩:=DY (Nat.le_refl _) ⟨u0,u1,u2,u3,u4,u5,u6,u7,u8,u9,u10,u11,un,um,uB⟩ hbx) | (go_at_call_of 80 (Value.agg #[Value.string a',Value.string b',Value.string r',Value.string c',Value.string d',Value.string s']); refine (bv a' b' r' c' d' s' _ ga gb gr gc gd gs).mono ?_; rintro e w2 ⟨he,hby⟩; rw [h2'] at he; subst he))
   all_goals clear u0 u1 u2 u3 u4 u5 u6 u7 u8 u9 u10 u11
   all_goals go_wp2
   all_goals go_ret
   all_goals exact ⟨ae HT.out.symm,kB.trans (hby.mono (by omega))⟩
 ·have h1':aU a b r c d s=false:=by simpa using h1
  have HT:Hid (dx a b r c d s a' b' r' c' d' s'=false):=vO h1';clear h1;obtain ⟨u0,u1,u2,u3,u4,u5,u6,u7,u8,u9,u10,u11,un,um,uB⟩:=H0;go_enter Tryz.func81,Tryz.ntmps81;go_wp2_with fail
  go_region_with (go_at_call_of 80 (Value.agg #[Value.string a,Value.string b,Value.string r,Value.string c,Value.string d,Value.string s]); refine (bv a b r c d s _ ha hb hr hc hd hs).mono ?_; rintro e w1 ⟨he,hbx⟩; rw [h1'] at he; subst he)
  all_goals clear u0 u1 u2 u3 u4 u5 u6 u7 u8 u9 u10 u11
  all_goals go_wp2
  all_goals go_ret
  all_goals exact ⟨ae HT.out.symm,uB.trans (hbx.mono (by omega))⟩
set_option maxHeartbeats 1000000 in
theorem om (a b r c d s a' b' r' c' d' s':ByteArray) (w:World) (ha:a.size≤maxLen) (hb:b.size≤maxLen) (hr:r.size≤maxLen) (hc:c.size≤maxLen) (hd:d.size≤maxLen) (hs:s.size≤maxLen) (ga:a'.size≤maxLen) (gb:b'.size≤maxLen) (gr:r'.size≤maxLen) (gc:c'.size≤maxLen) (gd:d'.size≤maxLen) (gs:s'.size≤maxLen) :
  Calls Tryz.prog 92 #[.agg #[.string a,.string b,.string r,.string c,.string d,.string s],.agg #[.string a',.string b',.string r',.string c',.string d',.string s']] w fun e w'=>e=.returned (.bool (dx a b r c d s a' b' r' c' d' s'))∧Below w.heap.size w w':=by
 by_cases h1:aU a b r c d s=true
 ·by_cases h2:aU a' b' r' c' d' s'=true
  ·have HT:Hid (dx a b r c d s a' b' r' c' d' s'=decide (DZ a b r c d s a' b' r' c' d' s' < 0)):=D5 h1 h2;go_enter Tryz.func92,Tryz.ntmps92;go_wp2_with fail;refine (bZ _ _ _ _ _ _ _ ha hb hr hc hd hs).mono ?_;rintro e w1 ⟨rfl,hb1⟩;obtain ⟨hc1,hf1⟩:=fD hb1;have hz1:w.heap.size + 1 < w1.heap.size:=by have:=hb1.size; simp at this; omega
   have hy1:w.heap.size < w1.heap.size:=by omega
   have HB1:Below w.heap.size w w1:=(rf _ _ _).trans (hb1.mono (by simp; omega));go_wp2_with fail;refine (bZ _ _ _ _ _ _ _ ga gb gr gc gd gs).mono ?_;rintro e w2 ⟨rfl,hb2⟩;obtain ⟨hc2,hf2⟩:=fD hb2;have hz2:w.heap.size + 1 < w2.heap.size:=by have:=hb2.size; omega
   have hy2:w.heap.size < w2.heap.size:=by omega
   go_wp2_with fail;refine (qc _ _ _ _ _ _ _ _ _ _ _ _ _ ha hb hr hc hd hs ga gb gr gc gd gs).mono ?_;rintro e w3 ⟨rfl,hb3⟩;go_wp2;go_ret;exact ⟨ae HT.out.symm,HB1.trans ((hb2.mono (by omega)).trans (hb3.mono (by omega)))⟩
  ·have h2':aU a' b' r' c' d' s'=false:=by simpa using h2
   have HT:Hid (dx a b r c d s a' b' r' c' d' s'=false):=vP h2';clear h2;go_enter Tryz.func92,Tryz.ntmps92;go_wp2_with fail;refine (bZ _ _ _ _ _ _ _ ha hb hr hc hd hs).mono ?_;rintro e w1 ⟨rfl,hb1⟩;obtain ⟨hc1,hf1⟩:=fD hb1;have hz1:w.heap.size + 1 < w1.heap.size:=by have:=hb1.size; simp at this; omega
   have hy1:w.heap.size < w1.heap.size:=by omega
   have HB1:Below w.heap.size w w1:=(rf _ _ _).trans (hb1.mono (by simp; omega));go_wp2_with fail;refine (bZ _ _ _ _ _ _ _ ga gb gr gc gd gs).mono ?_;rintro e w2 ⟨rfl,hb2⟩;go_wp2;go_ret;exact ⟨ae HT.out.symm,HB1.trans (hb2.mono (by omega))⟩
 ·have h1':aU a b r c d s=false:=by simpa using h1
  have HT:Hid (dx a b r c d s a' b' r' c' d' s'=false):=vO h1';clear h1;go_enter Tryz.func92,Tryz.ntmps92;go_wp2_with fail;refine (bZ _ _ _ _ _ _ _ ha hb hr hc hd hs).mono ?_;rintro e w1 ⟨rfl,hb1⟩;obtain ⟨hc1,hf1⟩:=fD hb1;have hz1:w.heap.size + 1 < w1.heap.size:=by have:=hb1.size; simp at this; omega
  have hy1:w.heap.size < w1.heap.size:=by omega
  have HB1:Below w.heap.size w w1:=(rf _ _ _).trans (hb1.mono (by simp; omega));go_wp2;go_ret;exact ⟨ae HT.out.symm,HB1⟩
end Go.Proofs.YtogjfppkbkgaeaaGreat
namespace Go.Proofs.YtogjfppkbkgaeaaGreat
open Go.ChangeShapes Go.WideShapes Go.ChangeAt Go.RowKit
open Pl
attribute [local go_sem ↓] Go.wp_at_zero Go.wp_at_succ
set_option maxHeartbeats 400000 in
theorem GN (a b r c d:ByteArray) (w:World) :
  Calls Tryz.prog 83 #[.agg #[.string a,.string b,.string r,.string c,.string d]] w fun e w'=>e=.returned (.agg #[.string a,.string b,.string r,.string c,.string d,.string ⟨#[]⟩])∧Below w.heap.size w w':=by
 go_enter Tryz.func83,Tryz.ntmps83;go_wp2;exact bodyPost_ret (v:=.agg #[.string a,.string b,.string r,.string c,.string d,.string ⟨#[]⟩]) (by simp [results,Tryz.results83,go_sem, *]) rfl ⟨rfl,by
  repeat (first | exact Below.refl _ _ | refine Below.setCell ?_ (by first | (simp; done) | (simp; omega)) _ | refine Below.alloc ?_ (by first | (simp; done) | (simp; omega)) _)⟩
theorem KN {w W w':World} {n m k:Nat} {x0 x1 x2 x3 x4 y0 y1 y2 y3 y4:Value} (hk:k≤n) (h:W.cell? ⟨n,0,none⟩=some x0∧W.cell? ⟨n,1,none⟩=some x1∧W.cell? ⟨n,2,none⟩=some x2∧W.cell? ⟨n,3,none⟩=some x3∧W.cell? ⟨n,4,none⟩=some x4∧W.cell? ⟨m,0,none⟩=some y0∧W.cell? ⟨m,1,none⟩=some y1∧W.cell? ⟨m,2,none⟩=some y2∧W.cell? ⟨m,3,none⟩=some y3∧W.cell? ⟨m,4,none⟩=some y4∧n < W.heap.size∧m < W.heap.size∧Below k w W) (hb:Below W.heap.size W w'):w'.cell? ⟨n,0,none⟩=some x0∧w'.cell? ⟨n,1,none⟩=some x1∧w'.cell? ⟨n,2,none⟩=some x2∧w'.cell? ⟨n,3,none⟩=some x3∧w'.cell? ⟨n,4,none⟩=some x4∧w'.cell? ⟨m,0,none⟩=some y0∧w'.cell? ⟨m,1,none⟩=some y1∧w'.cell? ⟨m,2,none⟩=some y2∧w'.cell? ⟨m,3,none⟩=some y3∧w'.cell? ⟨m,4,none⟩=some y4∧n < w'.heap.size∧m < w'.heap.size∧Below k w w':=by
 obtain ⟨h0,h1,h2,h3,h4,h5,h6,h7,h8,h9,hn,hm,hB⟩:=h;have hc:∀ o,w'.cell? ⟨n,o,none⟩=W.cell? ⟨n,o,none⟩:=fun o=>hb.cell (p:=⟨n,o,none⟩) hn;have hd:∀ o,w'.cell? ⟨m,o,none⟩=W.cell? ⟨m,o,none⟩:=fun o=>hb.cell (p:=⟨m,o,none⟩) hm;exact ⟨by rw [hc]; exact h0,by rw [hc]; exact h1,by rw [hc]; exact h2,by rw [hc]; exact h3,by rw [hc]; exact h4,by rw [hd]; exact h5,by rw [hd]; exact h6,by rw [hd]; exact h7,by rw [hd]; exact h8,by rw [hd]; exact h9,Nat.lt_of_lt_of_le hn hb.size,Nat.lt_of_lt_of_le hm hb.size,hB.trans (hb.mono (by omega))⟩
set_option maxHeartbeats 1000000 in
theorem qd (a b r c d a' b' r' c' d':ByteArray) (w:World) (ha:a.size≤maxLen) (hb:b.size≤maxLen) (hr:r.size≤maxLen) (hc:c.size≤maxLen) (hd:d.size≤maxLen) (ga:a'.size≤maxLen) (gb:b'.size≤maxLen) (gr:r'.size≤maxLen) (gc:c'.size≤maxLen) (gd:d'.size≤maxLen) :
  Calls Tryz.prog 56 #[.agg #[.string a,.string b,.string r,.string c,.string d],.agg #[.string a',.string b',.string r',.string c',.string d']] w fun e w'=>e=.returned (.bool (dx a b r c d ⟨#[]⟩ a' b' r' c' d' ⟨#[]⟩))∧Below w.heap.size w w':=by
 have he0:(⟨#[]⟩:ByteArray).size≤maxLen:=by decide
 have H0:((w.alloc (.cells #[.string a,.string b,.string r,.string c,.string d] 47)).alloc (.cells #[.string a',.string b',.string r',.string c',.string d'] 47)).cell? ⟨w.heap.size,0,none⟩=some (.string a)∧((w.alloc (.cells #[.string a,.string b,.string r,.string c,.string d] 47)).alloc (.cells #[.string a',.string b',.string r',.string c',.string d'] 47)).cell? ⟨w.heap.size,1,none⟩=some (.string b)∧((w.alloc (.cells #[.string a,.string b,.string r,.string c,.string d] 47)).alloc (.cells #[.string a',.string b',.string r',.string c',.string d'] 47)).cell? ⟨w.heap.size,2,none⟩=some (.string r)∧((w.alloc (.cells #[.string a,.string b,.string r,.string c,.string d] 47)).alloc (.cells #[.string a',.string b',.string r',.string c',.string d'] 47)).cell? ⟨w.heap.size,3,none⟩=some (.string c)∧((w.alloc (.cells #[.string a,.string b,.string r,.string c,.string d] 47)).alloc (.cells #[.string a',.string b',.string r',.string c',.string d'] 47)).cell? ⟨w.heap.size,4,none⟩=some (.string d)∧((w.alloc (.cells #[.string a,.string b,.string r,.string c,.string d] 47)).alloc (.cells #[.string a',.string b',.string r',.string c',.string d'] 47)).cell? ⟨w.heap.size + 1,0,none⟩=some (.string a')∧((w.alloc (.cells #[.string a,.string b,.string r,.string c,.string d] 47)).alloc (.cells #[.string a',.string b',.string r',.string c',.string d'] 47)).cell? ⟨w.heap.size + 1,1,none⟩=some (.string b')∧((w.alloc (.cells #[.string a,.string b,.string r,.string c,.string d] 47)).alloc (.cells #[.string a',.string b',.string r',.string c',.string d'] 47)).cell? ⟨w.heap.size + 1,2,none⟩=some (.string r')∧((w.alloc (.cells #[.string a,.string b,.string r,.string c,.string d] 47)).alloc (.cells #[.string a',.string b',.string r',.string c',.string d'] 47)).cell? ⟨w.heap.size + 1,3,none⟩=some (.string c')∧((w.alloc (.cells #[.string a,.string b,.string r,.string c,.string d] 47)).alloc (.cells #[.string a',.string b',.string r',.string c',.string d'] 47)).cell? ⟨w.heap.size + 1,4,none⟩=some (.string d')∧w.heap.size < ((w.alloc (.cells #[.string a,.string b,.string r,.string c,.string d] 47)).alloc (.cells #[.string a',.string b',.string r',.string c',.string d'] 47)).heap.size∧w.heap.size + 1 < ((w.alloc (.cells #[.string a,.string b,.string r,.string c,.string d] 47)).alloc (.cells #[.string a',.string b',.string r',.string c',.string d'] 47)).heap.size∧Below w.heap.size w ((w.alloc (.cells #[.string a,.string b,.string r,.string c,.string d] 47)).alloc (.cells #[.string a',.string b',.string r',.string c',.string d'] 47)):=by
  refine ⟨?_,?_,?_,?_,?_,?_,?_,?_,?_,?_,?_,?_,?_⟩
  all_goals first | exact rf _ _ _ | (simp; done) | (simp; omega)
 go_enter Tryz.func56,Tryz.ntmps56;go_wp2_with fail
 go_region_held3 (fun w'=>w'.cell? ⟨w.heap.size,0,none⟩=some (.string a)∧w'.cell? ⟨w.heap.size,1,none⟩=some (.string b)∧w'.cell? ⟨w.heap.size,2,none⟩=some (.string r)∧w'.cell? ⟨w.heap.size,3,none⟩=some (.string c)∧w'.cell? ⟨w.heap.size,4,none⟩=some (.string d)∧w'.cell? ⟨w.heap.size + 1,0,none⟩=some (.string a')∧w'.cell? ⟨w.heap.size + 1,1,none⟩=some (.string b')∧w'.cell? ⟨w.heap.size + 1,2,none⟩=some (.string r')∧w'.cell? ⟨w.heap.size + 1,3,none⟩=some (.string c')∧w'.cell? ⟨w.heap.size + 1,4,none⟩=some (.string d')∧w.heap.size < w'.heap.size∧w.heap.size + 1 < w'.heap.size∧Below w.heap.size w w')
  (first | assumption | exact KN (Nat.le_refl _) (by assumption) hbx | exact ⟨H0.1,H0.2.1,H0.2.2.1,H0.2.2.2.1,H0.2.2.2.2.1,H0.2.2.2.2.2.1,H0.2.2.2.2.2.2.1,H0.2.2.2.2.2.2.2.1,H0.2.2.2.2.2.2.2.2.1,H0.2.2.2.2.2.2.2.2.2.1,H0.2.2.2.2.2.2.2.2.2.2.1,H0.2.2.2.2.2.2.2.2.2.2.2.1,H0.2.2.2.2.2.2.2.2.2.2.2.2.drew⟩)
  (first | (go_at_call 83; refine (GN _ _ _ _ _ _).mono ?_; rintro e w' ⟨rfl,hbx⟩) | (go_at_call 81; refine (kg _ _ _ _ _ _ _ _ _ _ _ _ _ (by assumption) (by assumption) (by assumption) (by assumption) (by assumption) (by assumption) (by assumption) (by assumption) (by assumption) (by assumption) (by assumption) (by assumption)).mono ?_; rintro e w' ⟨rfl,hbx⟩))
 rename_i hJ;obtain ⟨-,-,-,-,-,-,-,-,-,-,-,-,gB⟩:=hJ;go_wp2;go_ret;exact ⟨rfl,gB⟩
end Go.Proofs.YtogjfppkbkgaeaaGreat
namespace Go.Proofs.YtogjfppkbkgaeaaGreat
set_option linter.unusedVariables false
section
variable {α:Type} {lt:α→α→Bool}
def mP (lt:α→α→Bool) (r:α):List α→List α
 | []=>[r]
 | x::xs=>if lt x r then x::mP lt r xs else r::x::xs
def iW (lt:α→α→Bool) (rs:List α):List α:=rs.foldl (fun out r=>mP lt r out) []
theorem Af {r:α}:∀ {xs:List α} {p:Nat},p≤xs.length→(∀ (i:Nat) (h:i < xs.length),i < p→lt xs[i] r=true)→(∀ h:p < xs.length,lt xs[p] r=false)→mP lt r xs=xs.take p ++ r::xs.drop p
 | [],p,hp,_,_=>by
  obtain rfl:p=0:=by simpa using hp
  rfl
 | x::xs,0,_,_,h2=>by
  have:=h2 (by simp);simp only [List.getElem_cons_zero] at this;simp [mP,this]
 | x::xs,p + 1,hp,h1,h2=>by
  have h0:=h1 0 (by simp) (by omega);simp only [List.getElem_cons_zero] at h0;have ih:=Af (r:=r) (xs:=xs) (p:=p) (by simpa using hp) (fun i h hi=>h1 (i + 1) (by simpa using h) (by omega)) (fun h=>h2 (by simpa using h));simp [mP,h0,ih]
theorem nH (r:α):∀ xs:List α,(mP lt r xs).Perm (r::xs)
 | []=>List.Perm.refl _
 | x::xs=>by
  unfold mP;split
  ·exact ((nH r xs).cons x).trans (List.Perm.swap _ _ _)
  ·exact List.Perm.refl _
theorem vQ:∀ (rs acc:List α),(rs.foldl (fun out r=>mP lt r out) acc).Perm (rs ++ acc)
 | [],acc=>List.Perm.refl _
 | r::rs,acc=>(vQ rs (mP lt r acc)).trans (((nH r acc).append_left rs).trans List.perm_middle)
theorem iG (rs:List α):(iW lt rs).Perm rs:=by simpa [iW] using vQ rs []
theorem D6 (rs:List α) (r:α):iW lt (rs ++ [r])=mP lt r (iW lt rs):=by unfold iW; rw [List.foldl_append]; rfl
structure OrdO (lt:α→α→Bool) (rs:List α):Prop where
 trans:∀ x ∈ rs,∀ y ∈ rs,∀ z ∈ rs,lt x y=true→lt y z=true→lt x z=true
 asymm:∀ x ∈ rs,∀ y ∈ rs,lt x y=true→lt y x=false
 total:∀ x ∈ rs,∀ y ∈ rs,x ≠ y→lt x y=true ∨ lt y x=true
theorem OrdO.mono {rs qs:List α} (h:OrdO lt rs) (hs:∀ x ∈ qs,x ∈ rs):OrdO lt qs :=
 ⟨fun x hx y hy z hz=>h.trans x (hs x hx) y (hs y hy) z (hs z hz),fun x hx y hy=>h.asymm x (hs x hx) y (hs y hy),fun x hx y hy=>h.total x (hs x hx) y (hs y hy)⟩
def LW (lt:α→α→Bool) (xs:List α):Prop:=xs.Pairwise fun x y=>lt x y=true
theorem FD {r:α}:∀ {xs:List α},OrdO lt (r::xs)→r ∉ xs→LW lt xs→LW lt (mP lt r xs)
 | [],_,_,_=>List.pairwise_singleton _ _
 | x::xs,ho,hn,h=>by
  obtain ⟨h1,h2⟩:=List.pairwise_cons.1 h;have hx:x ∈ r::x::xs:=by simp
  have hr:r ∈ r::x::xs:=by simp
  unfold mP;split
  ·rename_i hl;refine List.pairwise_cons.2 ⟨fun y hy=>?_,FD (ho.mono fun z hz=>?_) (fun hm=>hn (List.mem_cons_of_mem _ hm)) h2⟩
   ·rcases List.mem_cons.1 ((nH r xs).mem_iff.1 hy) with rfl | hy
    ·exact hl
    ·exact h1 y hy
   ·rcases List.mem_cons.1 hz with rfl | hz
    ·simp
    ·simp [hz]
  ·rename_i hl;have hne:r ≠ x:=fun e=>hn (by rw [e]; simp);have hrx:lt r x=true:=by
    rcases ho.total r hr x hx hne with h3 | h3
    ·exact h3
    ·exact absurd h3 hl
   refine List.pairwise_cons.2 ⟨fun y hy=>?_,h⟩;rcases List.mem_cons.1 hy with rfl | hy
   ·exact hrx
   ·exact ho.trans r hr x hx y (by simp [hy]) hrx (h1 y hy)
theorem BU:∀ (rs acc:List α),OrdO lt (rs ++ acc)→rs.Nodup→(∀ r ∈ rs,r ∉ acc)→LW lt acc→LW lt (rs.foldl (fun out r=>mP lt r out) acc)
 | [],acc,_,_,_,h=>h
 | r::rs,acc,ho,hd,hn,h=>by
  obtain ⟨hr,hd2⟩:=List.nodup_cons.1 hd;have hp:=nH (lt:=lt) r acc;refine BU rs (mP lt r acc) (ho.mono fun x hx=>?_) hd2 (fun x hx hm=>?_) (FD (ho.mono fun x hx=>?_) (hn r (by simp)) h)
  ·rcases List.mem_append.1 hx with hx | hx
   ·simp [hx]
   ·rcases List.mem_cons.1 (hp.mem_iff.1 hx) with rfl | hx
    ·simp
    ·simp [hx]
  ·rcases List.mem_cons.1 (hp.mem_iff.1 hm) with rfl | hm
   ·exact hr hx
   ·exact hn x (by simp [hx]) hm
  ·rcases List.mem_cons.1 hx with rfl | hx
   ·simp
   ·simp [hx]
theorem Ji {rs:List α} (ho:OrdO lt rs) (hd:rs.Nodup):LW lt (iW lt rs):=BU rs [] (by simpa using ho) hd (fun _ _=>List.not_mem_nil) List.Pairwise.nil
theorem vS:∀ {xs ys:List α},OrdO lt xs→LW lt xs→LW lt ys→xs.Perm ys→xs=ys
 | [],ys,_,_,_,hp=>(List.Perm.nil_eq hp)
 | x::xs,[],_,_,_,hp=>absurd hp.length_eq (by simp)
 | x::xs,y::ys,ho,hx,hy,hp=>by
  obtain ⟨h1,h2⟩:=List.pairwise_cons.1 hx;obtain ⟨h3,h4⟩:=List.pairwise_cons.1 hy;have hyx:y ∈ x::xs:=hp.mem_iff.2 (by simp);have hxy:x ∈ y::ys:=hp.mem_iff.1 (by simp);have e:x=y:=by
   rcases List.mem_cons.1 hyx with e | hm
   ·exact e.symm
   ·rcases List.mem_cons.1 hxy with e | hm2
    ·exact e
    ·have a1:=h1 y hm;have a2:=h3 x hm2;rw [ho.asymm x (by simp) y hyx a1] at a2;cases a2
  subst e;rw [vS (ho.mono fun z hz=>List.mem_cons_of_mem _ hz) h2 h4 hp.cons_inv]
theorem Jj {rs qs:List α} (ho:OrdO lt rs) (hd:rs.Nodup) (h:LW lt qs) (hp:qs.Perm rs):iW lt rs=qs :=
 vS (ho.mono fun x hx=>(iG rs).mem_iff.1 hx) (Ji ho hd) h ((iG rs).trans hp.symm)
end
open Go.ChangeAt Go.ChangeShapes Go.Maps Go.RowKit Go.WideShapes Pl
set_option maxRecDepth 8000 in
set_option maxHeartbeats 2000000 in
theorem nI (ad:Option Addr) (cap:Nat) (ts:List Fc) (t:Fc) (w:World) (hlen:ts.length≤1048576) (hs:qZ w ad ts) :
  Calls Tryz.prog 49 #[.slice ad ts.length cap,.agg #[.string t.a,.string t.b,.string t.r,.string t.c,.string t.d]] w fun e w'=>e=.returned (.bool (dO ts t))∧Below w.heap.size w w':=by
 have HS:Hid (qZ w ad ts):=hs;clear hs;obtain ⟨W0,hW0⟩:∃ W0,W0=w.alloc (.cells #[.string t.a,.string t.b,.string t.r,.string t.c,.string t.d] 47):=⟨_,rfl⟩;have HB0:Hid (Below w.heap.size w W0):=by show Below _ _ _; rw [hW0]; exact (Below.refl _ _).alloc (Nat.le_refl _) _
 have HX0:Hid (W0.cell? ⟨w.heap.size,0,none⟩=some (.string t.a)∧W0.cell? ⟨w.heap.size,1,none⟩=some (.string t.b)∧W0.cell? ⟨w.heap.size,2,none⟩=some (.string t.r)∧W0.cell? ⟨w.heap.size,3,none⟩=some (.string t.c)∧W0.cell? ⟨w.heap.size,4,none⟩=some (.string t.d)∧w.heap.size < W0.heap.size):=by show _∧_; rw [hW0]; refine ⟨?_,?_,?_,?_,?_,?_⟩ <;> simp
 go_enter Tryz.func49,Tryz.ntmps49;go_wp2;rw [← hW0];clear hW0;go_loopw [5] (fun i wr=>∃ k:Nat,k≤ts.length∧i=.int .i64 k∧Hid (dO (ts.drop k) t=dO ts t)∧Hid (Below W0.heap.size W0 wr)) (fun i _=>ts.length - (intOf i).toNat);case atStart=>exact ⟨0,Nat.zero_le _,rfl,rfl,Below.refl _ _⟩
 case round =>
  obtain ⟨k,hk,rfl,HP,HB⟩:=hrel;have HBW:Hid (Below w.heap.size w wr):=HB0.out.trans (HB.out.mono HB0.out.size);by_cases hlt:k < ts.length
  ·rcases HS.out.below HBW.out with hnil | ⟨b,off,rfl,hb,hr⟩
   ·rw [hnil] at hlt; simp at hlt
   obtain ⟨t0,t1,t2,t3,t4⟩:=hr k hlt;have x0:=mK HB.out HX0.out.2.2.2.2.2 HX0.out.1;have x1:=mK HB.out HX0.out.2.2.2.2.2 HX0.out.2.1;have x2:=mK HB.out HX0.out.2.2.2.2.2 HX0.out.2.2.1;have x3:=mK HB.out HX0.out.2.2.2.2.2 HX0.out.2.2.2.1;have x4:=mK HB.out HX0.out.2.2.2.2.2 HX0.out.2.2.2.2.1;have hk1:(0:Int)≤(k:Int):=by omega
   have hk2:(k:Int) < (ts.length:Int):=by omega
   have HD:Hid (dO ts t=(Aa ts[k] t || dO (ts.drop (k + 1)) t)):=by show _=_; rw [← HP.out]; exact GI hlt
   clear hr;cases hq:Aa ts[k] t with
   | true =>
    have heq:=Ja ts[k] t hq;have HN:Hid (dO ts t=true):=by show _=_; rw [HD.out,hq]; rfl
    clear hq;go_wp2_with fail;go_region_held3 (fun w'=>w'.cell? ⟨b,off + k * 5,none⟩=some (.string ts[k].a)∧w'.cell? ⟨b,off + k * 5 + 1,none⟩=some (.string ts[k].b)∧w'.cell? ⟨b,off + k * 5 + 2,none⟩=some (.string ts[k].r)∧w'.cell? ⟨b,off + k * 5 + 3,none⟩=some (.string ts[k].c)∧w'.cell? ⟨b,off + k * 5 + 4,none⟩=some (.string ts[k].d)∧w'.cell? ⟨w.heap.size,0,none⟩=some (.string t.a)∧w'.cell? ⟨w.heap.size,1,none⟩=some (.string t.b)∧w'.cell? ⟨w.heap.size,2,none⟩=some (.string t.r)∧w'.cell? ⟨w.heap.size,3,none⟩=some (.string t.c)∧w'.cell? ⟨w.heap.size,4,none⟩=some (.string t.d)∧Below wr.heap.size wr w') (first | assumption | exact ⟨t0,t1,t2,t3,t4,x0,x1,x2,x3,x4,(Below.refl _ _).drew⟩) (fail);rename_i hH;have HG:Hid (Below wr.heap.size wr _):=hH.2.2.2.2.2.2.2.2.2.2;clear hH t0 t1 t2 t3 t4 x0 x1 x2 x3 x4 heq;go_wp2;go_ret;exact ⟨by rw [HN.out]; rfl,HBW.out.trans (HG.out.mono HBW.out.size)⟩
   | false =>
    have heq:=Ja ts[k] t hq;have HP2:Hid (dO (ts.drop (k + 1)) t=dO ts t):=by show _=_; rw [HD.out,hq]; rfl
    clear hq;go_wp2_with fail;go_region_held3 (fun w'=>w'.cell? ⟨b,off + k * 5,none⟩=some (.string ts[k].a)∧w'.cell? ⟨b,off + k * 5 + 1,none⟩=some (.string ts[k].b)∧w'.cell? ⟨b,off + k * 5 + 2,none⟩=some (.string ts[k].r)∧w'.cell? ⟨b,off + k * 5 + 3,none⟩=some (.string ts[k].c)∧w'.cell? ⟨b,off + k * 5 + 4,none⟩=some (.string ts[k].d)∧w'.cell? ⟨w.heap.size,0,none⟩=some (.string t.a)∧w'.cell? ⟨w.heap.size,1,none⟩=some (.string t.b)∧w'.cell? ⟨w.heap.size,2,none⟩=some (.string t.r)∧w'.cell? ⟨w.heap.size,3,none⟩=some (.string t.c)∧w'.cell? ⟨w.heap.size,4,none⟩=some (.string t.d)∧Below wr.heap.size wr w') (first | assumption | exact ⟨t0,t1,t2,t3,t4,x0,x1,x2,x3,x4,(Below.refl _ _).drew⟩) (fail);rename_i hH;have HG:Hid (Below W0.heap.size W0 _):=HB.out.trans (hH.2.2.2.2.2.2.2.2.2.2.mono HB.out.size);clear hH t0 t1 t2 t3 t4 x0 x1 x2 x3 x4 heq;go_wp2;go_roundw;case rel=>exact ⟨k + 1,by omega,by go_num,HP2,HG⟩
    case measure=>simp [intOf] <;> omega
  ·have HN:Hid (dO ts t=false):=by show _=_; rw [← HP.out,List.drop_of_length_le (by omega)]; rfl
   go_wp2;go_ret;exact ⟨by rw [HN.out]; rfl,HBW.out⟩
theorem az {p:Prop} (h:p):Hid p:=h
structure HW (w:World) (adT:Option Addr) (ts:List Tp) (adE:Option Addr) (rows:List ER) (adK:Option Addr) (known:List Fc) (adR:Option Addr) (truth:List Fc):Prop where
 tup:Sl w adT ts
 ex:dZ w adE rows
 kn:qZ w adK known
 tr:qZ w adR truth
theorem HW.below {w w':World} {adT:Option Addr} {ts:List Tp} {adE:Option Addr} {rows:List ER} {adK:Option Addr} {known:List Fc} {adR:Option Addr} {truth:List Fc} (h:HW w adT ts adE rows adK known adR truth) (hB:Below w.heap.size w w'):HW w' adT ts adE rows adK known adR truth :=
 ⟨h.tup.below hB,h.ex.below hB,h.kn.below hB,h.tr.below hB⟩
def qN (a b c d:ByteArray):Bool:=a.toList == c.toList && b.toList == d.toList
theorem bn (a b c d:ByteArray) {v:Bool} (h:qN a b c d=v) (w:World) :
  (binOp .eql 45 (.agg #[.string a,.string b]) (.agg #[.string c,.string d])).run Tryz.prog w=.ok (.bool v) w:=by
 subst h;go_simp;unfold qN
 (repeat' split) <;> simp_all
theorem BV (a b c d:ByteArray) {v:Bool} (h:qN a b c d=v) (w:World) :
  (binOp .neq 45 (.agg #[.string a,.string b]) (.agg #[.string c,.string d])).run Tryz.prog w=.ok (.bool (!v)) w:=by
 subst h;go_simp;unfold qN
 (repeat' split) <;> simp_all
theorem dZ.at0 {w:World} {ad:Option Addr} {rs:List ER} (h:dZ w ad rs) {k:Nat} (hk:k < rs.length):∃ b off,ad=some ⟨b,off,none⟩∧qU w b (off + k * 5) rs[k]∧b < w.heap.size∧rs[k].ok w:=by
 rcases h with h | ⟨b',off',e,hb,hr,hok⟩
 ·rw [h] at hk; simp at hk
 ·exact ⟨b',off',e,hr k hk,hb,hok _ (List.getElem_mem hk)⟩
theorem Sl.at0 {w:World} {ad:Option Addr} {ts:List Tp} (h:Sl w ad ts) {k:Nat} (hk:k < ts.length):∃ b off,ad=some ⟨b,off,none⟩∧I5 w b (off + k * 6) ts[k]∧b < w.heap.size:=by
 rcases h with h | ⟨b',off',e,hb,hr⟩
 ·rw [h] at hk; simp at hk
 ·exact ⟨b',off',e,hr k hk,hb⟩
theorem kV.at0 {w:World} {ad:Option Addr} {zs:List Int} (h:kV w ad zs) {k:Nat} (hk:k < zs.length):∃ b off,ad=some ⟨b,off,none⟩∧w.cell? ⟨b,off + k,none⟩=some (.int .i64 zs[k])∧b < w.heap.size:=by
 rcases h with h | ⟨b',off',e,hb,hr⟩
 ·rw [h] at hk; simp at hk
 ·exact ⟨b',off',e,hr k hk,hb⟩
def BX (w:World) (f:Fc) (x:ER):World:=(w.alloc (.cells #[.string f.a,.string f.b,.string f.r,.string f.c,.string f.d] 47)).alloc (.cells #[.int .i64 x.e.kind,.slice x.adA x.e.allow.length x.capA,.string x.e.over,.string x.e.name,.slice x.adK x.e.kids.length x.capK] 154)
theorem iH (w:World) (f:Fc) (x:ER):Below w.heap.size w (BX w f x):=by
 unfold BX;exact ((Below.refl _ _).alloc (Nat.le_refl _) _).alloc (by simp) _
structure EnB (w:World) (B:Nat) (f:Fc) (x:ER):Prop where
 lt:B + 1 < w.heap.size
 f0:w.cell? ⟨B,0,none⟩=some (.string f.a)
 f1:w.cell? ⟨B,1,none⟩=some (.string f.b)
 f2:w.cell? ⟨B,2,none⟩=some (.string f.r)
 f3:w.cell? ⟨B,3,none⟩=some (.string f.c)
 f4:w.cell? ⟨B,4,none⟩=some (.string f.d)
 x0:w.cell? ⟨B + 1,0,none⟩=some (.int .i64 x.e.kind)
 x1:w.cell? ⟨B + 1,1,none⟩=some (.slice x.adA x.e.allow.length x.capA)
 x2:w.cell? ⟨B + 1,2,none⟩=some (.string x.e.over)
 x3:w.cell? ⟨B + 1,3,none⟩=some (.string x.e.name)
 x4:w.cell? ⟨B + 1,4,none⟩=some (.slice x.adK x.e.kids.length x.capK)
theorem EnB.below {w w':World} {B:Nat} {f:Fc} {x:ER} (h:EnB w B f x) (hB:Below w.heap.size w w'):EnB w' B f x:=by
 have h0:B < w.heap.size:=by have:=h.lt; omega
 have c0:∀ o,w'.cell? ⟨B,o,none⟩=w.cell? ⟨B,o,none⟩:=fun o=>hB.cell (p:=⟨B,o,none⟩) h0;have c1:∀ o,w'.cell? ⟨B + 1,o,none⟩=w.cell? ⟨B + 1,o,none⟩:=fun o=>hB.cell (p:=⟨B + 1,o,none⟩) h.lt;exact ⟨Nat.lt_of_lt_of_le h.lt hB.size,(c0 _).trans h.f0,(c0 _).trans h.f1,(c0 _).trans h.f2,(c0 _).trans h.f3,(c0 _).trans h.f4,(c1 _).trans h.x0,(c1 _).trans h.x1,(c1 _).trans h.x2,(c1 _).trans h.x3,(c1 _).trans h.x4⟩
theorem kG (w:World) (f:Fc) (x:ER):EnB (BX w f x) w.heap.size f x:=by
 unfold BX;constructor <;> simp
def vV (known:List Fc) (f:Fc) (t:Tp):Bool:=(t.a.toList == f.a.toList && t.b.toList == f.b.toList && t.r.toList == f.r.toList) && (if t.s.toList.isEmpty then t.c.toList == f.c.toList && t.d.toList == f.d.toList else dO known ⟨t.c,t.d,t.s,f.c,f.d⟩)
theorem D7 {ts:List Tp} {k:Nat} (h:k < ts.length) (known:List Fc) (f:Fc):dP (ts.drop k) known f=(vV known f ts[k] || dP (ts.drop (k + 1)) known f):=by
 unfold dP; rw [List.drop_eq_getElem_cons h]; rfl
def yS (known:List Fc) (over name:ByteArray) (f:Fc) (t:Tp):Bool:=(t.a.toList == f.a.toList && t.b.toList == f.b.toList && t.r.toList == over.toList) && dO known ⟨t.c,t.d,name,f.c,f.d⟩
theorem D8 {ts:List Tp} {k:Nat} (h:k < ts.length) (known:List Fc) (over name:ByteArray) (f:Fc):eX (ts.drop k) known over name f=(yS known over name f ts[k] || eX (ts.drop (k + 1)) known over name f):=by
 unfold eX; rw [List.drop_eq_getElem_cons h]; rfl
theorem nJ {s:ByteArray}:(s.toList == [])=s.toList.isEmpty:=by cases s.toList <;> rfl
end Go.Proofs.YtogjfppkbkgaeaaGreat
