/- Contracts of the functions that hold two tuples' texts against one another. -/
import Derived.Test.YtogjfppkbkgaeaaGreatJ12
import Derived.Test.YtogjfppkbkgaeaaGreatShelf
namespace Go.Proofs.YtogjfppkbkgaeaaGreat
open Go.ChangeShapes Go.WideShapes Go.ChangeAt Go.RowKit
open Pl
attribute [local go_sem ↓] Go.wp_at_zero Go.wp_at_succ
theorem keep12 {w W w':World} {n m k:Nat} {x0 x1 x2 x3 x4 x5 y0 y1 y2 y3 y4 y5:Value} (hk:k≤n) (h:W.cell? ⟨n,0,none⟩=some x0∧W.cell? ⟨n,1,none⟩=some x1∧W.cell? ⟨n,2,none⟩=some x2∧W.cell? ⟨n,3,none⟩=some x3∧W.cell? ⟨n,4,none⟩=some x4∧W.cell? ⟨n,5,none⟩=some x5∧W.cell? ⟨m,0,none⟩=some y0∧W.cell? ⟨m,1,none⟩=some y1∧W.cell? ⟨m,2,none⟩=some y2∧W.cell? ⟨m,3,none⟩=some y3∧W.cell? ⟨m,4,none⟩=some y4∧W.cell? ⟨m,5,none⟩=some y5∧n < W.heap.size∧m < W.heap.size∧Below k w W) (hb:Below W.heap.size W w'):w'.cell? ⟨n,0,none⟩=some x0∧w'.cell? ⟨n,1,none⟩=some x1∧w'.cell? ⟨n,2,none⟩=some x2∧w'.cell? ⟨n,3,none⟩=some x3∧w'.cell? ⟨n,4,none⟩=some x4∧w'.cell? ⟨n,5,none⟩=some x5∧w'.cell? ⟨m,0,none⟩=some y0∧w'.cell? ⟨m,1,none⟩=some y1∧w'.cell? ⟨m,2,none⟩=some y2∧w'.cell? ⟨m,3,none⟩=some y3∧w'.cell? ⟨m,4,none⟩=some y4∧w'.cell? ⟨m,5,none⟩=some y5∧n < w'.heap.size∧m < w'.heap.size∧Below k w w':=by
 obtain ⟨h0,h1,h2,h3,h4,h5,h6,h7,h8,h9,h10,h11,hn,hm,hB⟩:=h
 have hc:∀ o,w'.cell? ⟨n,o,none⟩=W.cell? ⟨n,o,none⟩:=fun o=>hb.cell (p:=⟨n,o,none⟩) hn
 have hd:∀ o,w'.cell? ⟨m,o,none⟩=W.cell? ⟨m,o,none⟩:=fun o=>hb.cell (p:=⟨m,o,none⟩) hm
 exact ⟨by rw [hc]; exact h0,by rw [hc]; exact h1,by rw [hc]; exact h2,by rw [hc]; exact h3,by rw [hc]; exact h4,by rw [hc]; exact h5,by rw [hd]; exact h6,by rw [hd]; exact h7,by rw [hd]; exact h8,by rw [hd]; exact h9,by rw [hd]; exact h10,by rw [hd]; exact h11,Nat.lt_of_lt_of_le hn hb.size,Nat.lt_of_lt_of_le hm hb.size,hB.trans (hb.mono (by omega))⟩
theorem below2 (w:World) (o1 o2:Obj):Below w.heap.size w ((w.alloc o1).alloc o2) :=
 ((Below.refl _ _).alloc (Nat.le_refl _) _).alloc (by simp) _
def cmpT (a b r c d s a' b' r' c' d' s':ByteArray):Int:=Lib.compareBytes (tupText a b r c d s).data.toList (tupText a' b' r' c' d' s').data.toList
theorem compare_less (x y:List UInt8):decide (Lib.compareBytes x y < 0)=Op.bytesLess x y:=by
 induction x generalizing y with
 | nil=>cases y <;> simp [Lib.compareBytes,Op.bytesLess]
 | cons a x ih =>
  cases y with
  | nil=>simp [Lib.compareBytes,Op.bytesLess]
  | cons b y =>
   unfold Lib.compareBytes Op.bytesLess
   by_cases h:a < b
   ·simp [h]
   ·by_cases h2:b < a
    ·have hne:(a == b)=false:=by simp; intro e; subst e; exact h h2
     simp [h,h2,hne]
    ·have he:a=b:=by
      have h1:=UInt8.not_lt.mp h
      have h3:=UInt8.not_lt.mp h2
      exact UInt8.le_antisymm h3 h1
     subst he
     simp [ih]
theorem compareTuples_any (a b r c d s a' b' r' c' d' s':ByteArray) (w:World) (ha:a.size≤maxLen) (hb:b.size≤maxLen) (hr:r.size≤maxLen) (hc:c.size≤maxLen) (hd:d.size≤maxLen) (hs:s.size≤maxLen) (ga:a'.size≤maxLen) (gb:b'.size≤maxLen) (gr:r'.size≤maxLen) (gc:c'.size≤maxLen) (gd:d'.size≤maxLen) (gs:s'.size≤maxLen) :
  Calls Tryz.prog 71 #[.agg #[.string a,.string b,.string r,.string c,.string d,.string s],.agg #[.string a',.string b',.string r',.string c',.string d',.string s']] w fun e w'=>e=.returned (.int .i64 (cmpT a b r c d s a' b' r' c' d' s'))∧Below w.heap.size w w':=by
 have H0:((w.alloc (.cells #[.string a,.string b,.string r,.string c,.string d,.string s] 73)).alloc (.cells #[.string a',.string b',.string r',.string c',.string d',.string s'] 73)).drew.cell? ⟨w.heap.size,0,none⟩=some (.string a)∧((w.alloc (.cells #[.string a,.string b,.string r,.string c,.string d,.string s] 73)).alloc (.cells #[.string a',.string b',.string r',.string c',.string d',.string s'] 73)).drew.cell? ⟨w.heap.size,1,none⟩=some (.string b)∧((w.alloc (.cells #[.string a,.string b,.string r,.string c,.string d,.string s] 73)).alloc (.cells #[.string a',.string b',.string r',.string c',.string d',.string s'] 73)).drew.cell? ⟨w.heap.size,2,none⟩=some (.string r)∧((w.alloc (.cells #[.string a,.string b,.string r,.string c,.string d,.string s] 73)).alloc (.cells #[.string a',.string b',.string r',.string c',.string d',.string s'] 73)).drew.cell? ⟨w.heap.size,3,none⟩=some (.string c)∧((w.alloc (.cells #[.string a,.string b,.string r,.string c,.string d,.string s] 73)).alloc (.cells #[.string a',.string b',.string r',.string c',.string d',.string s'] 73)).drew.cell? ⟨w.heap.size,4,none⟩=some (.string d)∧((w.alloc (.cells #[.string a,.string b,.string r,.string c,.string d,.string s] 73)).alloc (.cells #[.string a',.string b',.string r',.string c',.string d',.string s'] 73)).drew.cell? ⟨w.heap.size,5,none⟩=some (.string s)∧((w.alloc (.cells #[.string a,.string b,.string r,.string c,.string d,.string s] 73)).alloc (.cells #[.string a',.string b',.string r',.string c',.string d',.string s'] 73)).drew.cell? ⟨w.heap.size + 1,0,none⟩=some (.string a')∧((w.alloc (.cells #[.string a,.string b,.string r,.string c,.string d,.string s] 73)).alloc (.cells #[.string a',.string b',.string r',.string c',.string d',.string s'] 73)).drew.cell? ⟨w.heap.size + 1,1,none⟩=some (.string b')∧((w.alloc (.cells #[.string a,.string b,.string r,.string c,.string d,.string s] 73)).alloc (.cells #[.string a',.string b',.string r',.string c',.string d',.string s'] 73)).drew.cell? ⟨w.heap.size + 1,2,none⟩=some (.string r')∧((w.alloc (.cells #[.string a,.string b,.string r,.string c,.string d,.string s] 73)).alloc (.cells #[.string a',.string b',.string r',.string c',.string d',.string s'] 73)).drew.cell? ⟨w.heap.size + 1,3,none⟩=some (.string c')∧((w.alloc (.cells #[.string a,.string b,.string r,.string c,.string d,.string s] 73)).alloc (.cells #[.string a',.string b',.string r',.string c',.string d',.string s'] 73)).drew.cell? ⟨w.heap.size + 1,4,none⟩=some (.string d')∧((w.alloc (.cells #[.string a,.string b,.string r,.string c,.string d,.string s] 73)).alloc (.cells #[.string a',.string b',.string r',.string c',.string d',.string s'] 73)).drew.cell? ⟨w.heap.size + 1,5,none⟩=some (.string s')∧w.heap.size < ((w.alloc (.cells #[.string a,.string b,.string r,.string c,.string d,.string s] 73)).alloc (.cells #[.string a',.string b',.string r',.string c',.string d',.string s'] 73)).drew.heap.size∧w.heap.size + 1 < ((w.alloc (.cells #[.string a,.string b,.string r,.string c,.string d,.string s] 73)).alloc (.cells #[.string a',.string b',.string r',.string c',.string d',.string s'] 73)).drew.heap.size∧Below w.heap.size w (((w.alloc (.cells #[.string a,.string b,.string r,.string c,.string d,.string s] 73)).alloc (.cells #[.string a',.string b',.string r',.string c',.string d',.string s'] 73)).drew):=by
  refine ⟨?_,?_,?_,?_,?_,?_,?_,?_,?_,?_,?_,?_,?_,?_,?_⟩
  all_goals first | exact (below2 _ _ _).drew | (simp; done) | (simp; omega)
 go_enter Tryz.func71,Tryz.ntmps71
 go_wp2_with fail
 go_region_held3 (fun w'=>w'.cell? ⟨w.heap.size,0,none⟩=some (.string a)∧w'.cell? ⟨w.heap.size,1,none⟩=some (.string b)∧w'.cell? ⟨w.heap.size,2,none⟩=some (.string r)∧w'.cell? ⟨w.heap.size,3,none⟩=some (.string c)∧w'.cell? ⟨w.heap.size,4,none⟩=some (.string d)∧w'.cell? ⟨w.heap.size,5,none⟩=some (.string s)∧w'.cell? ⟨w.heap.size + 1,0,none⟩=some (.string a')∧w'.cell? ⟨w.heap.size + 1,1,none⟩=some (.string b')∧w'.cell? ⟨w.heap.size + 1,2,none⟩=some (.string r')∧w'.cell? ⟨w.heap.size + 1,3,none⟩=some (.string c')∧w'.cell? ⟨w.heap.size + 1,4,none⟩=some (.string d')∧w'.cell? ⟨w.heap.size + 1,5,none⟩=some (.string s')∧w.heap.size < w'.heap.size∧w.heap.size + 1 < w'.heap.size∧Below w.heap.size w w')
  (first | assumption | exact keep12 (Nat.le_refl _) (by assumption) hbx | exact H0)
  (first | (go_at_call 112; refine (implTupText_any _ _ _ _ _ _ _ (by assumption) (by assumption) (by assumption) (by assumption) (by assumption) (by assumption)).mono ?_; rintro e w' ⟨rfl,hbx⟩) | (go_at_call 111; refine (Tryz.strings_Compare _ _ _).mono ?_; rintro e w' ⟨rfl,rfl⟩))
 rename_i hH
 obtain ⟨-,-,-,-,-,-,-,-,-,-,-,-,-,-,gB⟩:=hH
 go_wp2
 go_ret
 exact ⟨rfl,gB⟩
def aheadB (a b r c d s a' b' r' c' d' s':ByteArray):Bool:=tupB a b r c d s && tupB a' b' r' c' d' s' && Op.bytesLess (tupText a b r c d s).toList (tupText a' b' r' c' d' s').toList
theorem aheadB_no1 {a b r c d s a' b' r' c' d' s':ByteArray} (h:tupB a b r c d s=false):aheadB a b r c d s a' b' r' c' d' s'=false:=by simp [aheadB,h]
theorem aheadB_no2 {a b r c d s a' b' r' c' d' s':ByteArray} (h:tupB a' b' r' c' d' s'=false):aheadB a b r c d s a' b' r' c' d' s'=false:=by simp [aheadB,h]
theorem aheadB_yes {a b r c d s a' b' r' c' d' s':ByteArray} (h:tupB a b r c d s=true) (h2:tupB a' b' r' c' d' s'=true):aheadB a b r c d s a' b' r' c' d' s'=Op.bytesLess (tupText a b r c d s).toList (tupText a' b' r' c' d' s').toList:=by simp [aheadB,h,h2]
theorem aheadB_cmp {a b r c d s a' b' r' c' d' s':ByteArray} (h:tupB a b r c d s=true) (h2:tupB a' b' r' c' d' s'=true):aheadB a b r c d s a' b' r' c' d' s'=decide (cmpT a b r c d s a' b' r' c' d' s' < 0):=by
 rw [aheadB_yes h h2,cmpT,compare_less,Go.ByteArray.toList_eq,Go.ByteArray.toList_eq]
set_option maxHeartbeats 1000000 in
theorem specAhead_any (a b r c d s a' b' r' c' d' s':ByteArray) (w:World) (ha:a.size≤maxLen) (hb:b.size≤maxLen) (hr:r.size≤maxLen) (hc:c.size≤maxLen) (hd:d.size≤maxLen) (hs:s.size≤maxLen) (ga:a'.size≤maxLen) (gb:b'.size≤maxLen) (gr:r'.size≤maxLen) (gc:c'.size≤maxLen) (gd:d'.size≤maxLen) (gs:s'.size≤maxLen) :
  Calls Tryz.prog 81 #[.agg #[.string a,.string b,.string r,.string c,.string d,.string s],.agg #[.string a',.string b',.string r',.string c',.string d',.string s']] w fun e w'=>e=.returned (.bool (aheadB a b r c d s a' b' r' c' d' s'))∧Below w.heap.size w w':=by
 have H0:((w.alloc (.cells #[.string a,.string b,.string r,.string c,.string d,.string s] 73)).alloc (.cells #[.string a',.string b',.string r',.string c',.string d',.string s'] 73)).drew.cell? ⟨w.heap.size,0,none⟩=some (.string a)∧((w.alloc (.cells #[.string a,.string b,.string r,.string c,.string d,.string s] 73)).alloc (.cells #[.string a',.string b',.string r',.string c',.string d',.string s'] 73)).drew.cell? ⟨w.heap.size,1,none⟩=some (.string b)∧((w.alloc (.cells #[.string a,.string b,.string r,.string c,.string d,.string s] 73)).alloc (.cells #[.string a',.string b',.string r',.string c',.string d',.string s'] 73)).drew.cell? ⟨w.heap.size,2,none⟩=some (.string r)∧((w.alloc (.cells #[.string a,.string b,.string r,.string c,.string d,.string s] 73)).alloc (.cells #[.string a',.string b',.string r',.string c',.string d',.string s'] 73)).drew.cell? ⟨w.heap.size,3,none⟩=some (.string c)∧((w.alloc (.cells #[.string a,.string b,.string r,.string c,.string d,.string s] 73)).alloc (.cells #[.string a',.string b',.string r',.string c',.string d',.string s'] 73)).drew.cell? ⟨w.heap.size,4,none⟩=some (.string d)∧((w.alloc (.cells #[.string a,.string b,.string r,.string c,.string d,.string s] 73)).alloc (.cells #[.string a',.string b',.string r',.string c',.string d',.string s'] 73)).drew.cell? ⟨w.heap.size,5,none⟩=some (.string s)∧((w.alloc (.cells #[.string a,.string b,.string r,.string c,.string d,.string s] 73)).alloc (.cells #[.string a',.string b',.string r',.string c',.string d',.string s'] 73)).drew.cell? ⟨w.heap.size + 1,0,none⟩=some (.string a')∧((w.alloc (.cells #[.string a,.string b,.string r,.string c,.string d,.string s] 73)).alloc (.cells #[.string a',.string b',.string r',.string c',.string d',.string s'] 73)).drew.cell? ⟨w.heap.size + 1,1,none⟩=some (.string b')∧((w.alloc (.cells #[.string a,.string b,.string r,.string c,.string d,.string s] 73)).alloc (.cells #[.string a',.string b',.string r',.string c',.string d',.string s'] 73)).drew.cell? ⟨w.heap.size + 1,2,none⟩=some (.string r')∧((w.alloc (.cells #[.string a,.string b,.string r,.string c,.string d,.string s] 73)).alloc (.cells #[.string a',.string b',.string r',.string c',.string d',.string s'] 73)).drew.cell? ⟨w.heap.size + 1,3,none⟩=some (.string c')∧((w.alloc (.cells #[.string a,.string b,.string r,.string c,.string d,.string s] 73)).alloc (.cells #[.string a',.string b',.string r',.string c',.string d',.string s'] 73)).drew.cell? ⟨w.heap.size + 1,4,none⟩=some (.string d')∧((w.alloc (.cells #[.string a,.string b,.string r,.string c,.string d,.string s] 73)).alloc (.cells #[.string a',.string b',.string r',.string c',.string d',.string s'] 73)).drew.cell? ⟨w.heap.size + 1,5,none⟩=some (.string s')∧w.heap.size < ((w.alloc (.cells #[.string a,.string b,.string r,.string c,.string d,.string s] 73)).alloc (.cells #[.string a',.string b',.string r',.string c',.string d',.string s'] 73)).drew.heap.size∧w.heap.size + 1 < ((w.alloc (.cells #[.string a,.string b,.string r,.string c,.string d,.string s] 73)).alloc (.cells #[.string a',.string b',.string r',.string c',.string d',.string s'] 73)).drew.heap.size∧Below w.heap.size w (((w.alloc (.cells #[.string a,.string b,.string r,.string c,.string d,.string s] 73)).alloc (.cells #[.string a',.string b',.string r',.string c',.string d',.string s'] 73)).drew):=by
  refine ⟨?_,?_,?_,?_,?_,?_,?_,?_,?_,?_,?_,?_,?_,?_,?_⟩
  all_goals first | exact (below2 _ _ _).drew | (simp; done) | (simp; omega)
 by_cases h1:tupB a b r c d s=true
 ·by_cases h2:tupB a' b' r' c' d' s'=true
  ·have HT:Hid (aheadB a b r c d s a' b' r' c' d' s'=_):=aheadB_yes h1 h2
   go_enter Tryz.func81,Tryz.ntmps81
   go_wp2_with fail
   go_region_held3 (fun w'=>w'.cell? ⟨w.heap.size,0,none⟩=some (.string a)∧w'.cell? ⟨w.heap.size,1,none⟩=some (.string b)∧w'.cell? ⟨w.heap.size,2,none⟩=some (.string r)∧w'.cell? ⟨w.heap.size,3,none⟩=some (.string c)∧w'.cell? ⟨w.heap.size,4,none⟩=some (.string d)∧w'.cell? ⟨w.heap.size,5,none⟩=some (.string s)∧w'.cell? ⟨w.heap.size + 1,0,none⟩=some (.string a')∧w'.cell? ⟨w.heap.size + 1,1,none⟩=some (.string b')∧w'.cell? ⟨w.heap.size + 1,2,none⟩=some (.string r')∧w'.cell? ⟨w.heap.size + 1,3,none⟩=some (.string c')∧w'.cell? ⟨w.heap.size + 1,4,none⟩=some (.string d')∧w'.cell? ⟨w.heap.size + 1,5,none⟩=some (.string s')∧w.heap.size < w'.heap.size∧w.heap.size + 1 < w'.heap.size∧Below w.heap.size w w')
    (first | assumption | exact keep12 (Nat.le_refl _) (by assumption) hbx | exact H0)
    (first | (go_at_call_of 80 (Value.agg #[Value.string a,Value.string b,Value.string r,Value.string c,Value.string d,Value.string s]); refine (specTup_any a b r c d s _ ha hb hr hc hd hs).mono ?_; rintro e w' ⟨he,hbx⟩; rw [h1] at he; subst he) | (go_at_call_of 80 (Value.agg #[Value.string a',Value.string b',Value.string r',Value.string c',Value.string d',Value.string s']); refine (specTup_any a' b' r' c' d' s' _ ga gb gr gc gd gs).mono ?_; rintro e w' ⟨he,hbx⟩; rw [h2] at he; subst he) | (go_at_call 124; refine (specTupText_any _ _ _ _ _ _ _ (by assumption) (by assumption) (by assumption) (by assumption) (by assumption) (by assumption)).mono ?_; rintro e w' ⟨rfl,hbx⟩))
   rename_i hH
   obtain ⟨-,-,-,-,-,-,-,-,-,-,-,-,-,-,gB⟩:=hH
   clear H0
   go_wp2
   go_ret
   exact ⟨ret_bool HT.out.symm,gB⟩
  ·have h2':tupB a' b' r' c' d' s'=false:=by simpa using h2
   have HT:Hid (aheadB a b r c d s a' b' r' c' d' s'=false):=aheadB_no2 h2'
   clear h2
   obtain ⟨u0,u1,u2,u3,u4,u5,u6,u7,u8,u9,u10,u11,un,um,uB⟩:=H0
   go_enter Tryz.func81,Tryz.ntmps81
   go_wp2_with fail
   go_region_with (first | (go_at_call_of 80 (Value.agg #[Value.string a,Value.string b,Value.string r,Value.string c,Value.string d,Value.string s]); refine (specTup_any a b r c d s _ ha hb hr hc hd hs).mono ?_; rintro e w1 ⟨he,hbx⟩; rw [h1] at he; subst he; obtain ⟨k0,k1,k2,k3,k4,k5,k6,k7,k8,k9,k10,k11,kn,km,kB⟩:=keep12 (Nat.le_refl _) ⟨u0,u1,u2,u3,u4,u5,u6,u7,u8,u9,u10,u11,un,um,uB⟩ hbx) | (go_at_call_of 80 (Value.agg #[Value.string a',Value.string b',Value.string r',Value.string c',Value.string d',Value.string s']); refine (specTup_any a' b' r' c' d' s' _ ga gb gr gc gd gs).mono ?_; rintro e w2 ⟨he,hby⟩; rw [h2'] at he; subst he))
   all_goals clear u0 u1 u2 u3 u4 u5 u6 u7 u8 u9 u10 u11
   all_goals go_wp2
   all_goals go_ret
   all_goals exact ⟨ret_bool HT.out.symm,kB.trans (hby.mono (by omega))⟩
 ·have h1':tupB a b r c d s=false:=by simpa using h1
  have HT:Hid (aheadB a b r c d s a' b' r' c' d' s'=false):=aheadB_no1 h1'
  clear h1
  obtain ⟨u0,u1,u2,u3,u4,u5,u6,u7,u8,u9,u10,u11,un,um,uB⟩:=H0
  go_enter Tryz.func81,Tryz.ntmps81
  go_wp2_with fail
  go_region_with (go_at_call_of 80 (Value.agg #[Value.string a,Value.string b,Value.string r,Value.string c,Value.string d,Value.string s]); refine (specTup_any a b r c d s _ ha hb hr hc hd hs).mono ?_; rintro e w1 ⟨he,hbx⟩; rw [h1'] at he; subst he)
  all_goals clear u0 u1 u2 u3 u4 u5 u6 u7 u8 u9 u10 u11
  all_goals go_wp2
  all_goals go_ret
  all_goals exact ⟨ret_bool HT.out.symm,uB.trans (hbx.mono (by omega))⟩
set_option maxHeartbeats 1000000 in
theorem implAhead_any (a b r c d s a' b' r' c' d' s':ByteArray) (w:World) (ha:a.size≤maxLen) (hb:b.size≤maxLen) (hr:r.size≤maxLen) (hc:c.size≤maxLen) (hd:d.size≤maxLen) (hs:s.size≤maxLen) (ga:a'.size≤maxLen) (gb:b'.size≤maxLen) (gr:r'.size≤maxLen) (gc:c'.size≤maxLen) (gd:d'.size≤maxLen) (gs:s'.size≤maxLen) :
  Calls Tryz.prog 92 #[.agg #[.string a,.string b,.string r,.string c,.string d,.string s],.agg #[.string a',.string b',.string r',.string c',.string d',.string s']] w fun e w'=>e=.returned (.bool (aheadB a b r c d s a' b' r' c' d' s'))∧Below w.heap.size w w':=by
 by_cases h1:tupB a b r c d s=true
 ·by_cases h2:tupB a' b' r' c' d' s'=true
  ·have HT:Hid (aheadB a b r c d s a' b' r' c' d' s'=decide (cmpT a b r c d s a' b' r' c' d' s' < 0)):=aheadB_cmp h1 h2
   go_enter Tryz.func92,Tryz.ntmps92
   go_wp2_with fail
   refine (implTup_any _ _ _ _ _ _ _ ha hb hr hc hd hs).mono ?_
   rintro e w1 ⟨rfl,hb1⟩
   obtain ⟨hc1,hf1⟩:=bcell hb1
   have hz1:w.heap.size + 1 < w1.heap.size:=by have:=hb1.size; simp at this; omega
   have hy1:w.heap.size < w1.heap.size:=by omega
   have HB1:Below w.heap.size w w1:=(below2 _ _ _).trans (hb1.mono (by simp; omega))
   go_wp2_with fail
   refine (implTup_any _ _ _ _ _ _ _ ga gb gr gc gd gs).mono ?_
   rintro e w2 ⟨rfl,hb2⟩
   obtain ⟨hc2,hf2⟩:=bcell hb2
   have hz2:w.heap.size + 1 < w2.heap.size:=by have:=hb2.size; omega
   have hy2:w.heap.size < w2.heap.size:=by omega
   go_wp2_with fail
   refine (compareTuples_any _ _ _ _ _ _ _ _ _ _ _ _ _ ha hb hr hc hd hs ga gb gr gc gd gs).mono ?_
   rintro e w3 ⟨rfl,hb3⟩
   go_wp2
   go_ret
   exact ⟨ret_bool HT.out.symm,HB1.trans ((hb2.mono (by omega)).trans (hb3.mono (by omega)))⟩
  ·have h2':tupB a' b' r' c' d' s'=false:=by simpa using h2
   have HT:Hid (aheadB a b r c d s a' b' r' c' d' s'=false):=aheadB_no2 h2'
   clear h2
   go_enter Tryz.func92,Tryz.ntmps92
   go_wp2_with fail
   refine (implTup_any _ _ _ _ _ _ _ ha hb hr hc hd hs).mono ?_
   rintro e w1 ⟨rfl,hb1⟩
   obtain ⟨hc1,hf1⟩:=bcell hb1
   have hz1:w.heap.size + 1 < w1.heap.size:=by have:=hb1.size; simp at this; omega
   have hy1:w.heap.size < w1.heap.size:=by omega
   have HB1:Below w.heap.size w w1:=(below2 _ _ _).trans (hb1.mono (by simp; omega))
   go_wp2_with fail
   refine (implTup_any _ _ _ _ _ _ _ ga gb gr gc gd gs).mono ?_
   rintro e w2 ⟨rfl,hb2⟩
   go_wp2
   go_ret
   exact ⟨ret_bool HT.out.symm,HB1.trans (hb2.mono (by omega))⟩
 ·have h1':tupB a b r c d s=false:=by simpa using h1
  have HT:Hid (aheadB a b r c d s a' b' r' c' d' s'=false):=aheadB_no1 h1'
  clear h1
  go_enter Tryz.func92,Tryz.ntmps92
  go_wp2_with fail
  refine (implTup_any _ _ _ _ _ _ _ ha hb hr hc hd hs).mono ?_
  rintro e w1 ⟨rfl,hb1⟩
  obtain ⟨hc1,hf1⟩:=bcell hb1
  have hz1:w.heap.size + 1 < w1.heap.size:=by have:=hb1.size; simp at this; omega
  have hy1:w.heap.size < w1.heap.size:=by omega
  have HB1:Below w.heap.size w w1:=(below2 _ _ _).trans (hb1.mono (by simp; omega))
  go_wp2
  go_ret
  exact ⟨ret_bool HT.out.symm,HB1⟩
end Go.Proofs.YtogjfppkbkgaeaaGreat
