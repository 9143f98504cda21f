/- Contracts of the functions that hold two tuples' texts against one another. -/
import Derived.Test.YtdaoiceeidoehaaGreatJ12
import Derived.Test.YtdaoiceeidoehaaGreatShelf
import Derived.Lib.IndexMore
import Derived.Lib.IndexBytes
import Derived.Lib.Strings
open Go.Proofs.Tryz
set_option maxHeartbeats 80000000
namespace Go.Proofs.YtdaoiceeidoehaaGreat
open Go.ChangeShapes Go.WideShapes Go.ChangeAt Go.RowKit
open Pl
attribute [local go_sem ↓] Go.wp_at_zero Go.wp_at_succ
theorem GG {w W w':World} {n m k:Nat} {x0 x1 x2 x3 x4 x5 y0 y1 y2 y3 y4 y5:Value} (hk:k≤n) (h:W.cell? ⟨n,0,none⟩=some x0∧W.cell? ⟨n,1,none⟩=some x1∧W.cell? ⟨n,2,none⟩=some x2∧W.cell? ⟨n,3,none⟩=some x3∧W.cell? ⟨n,4,none⟩=some x4∧W.cell? ⟨n,5,none⟩=some x5∧W.cell? ⟨m,0,none⟩=some y0∧W.cell? ⟨m,1,none⟩=some y1∧W.cell? ⟨m,2,none⟩=some y2∧W.cell? ⟨m,3,none⟩=some y3∧W.cell? ⟨m,4,none⟩=some y4∧W.cell? ⟨m,5,none⟩=some y5∧n < W.heap.size∧m < W.heap.size∧Below k w W) (hb:Below W.heap.size W w'):w'.cell? ⟨n,0,none⟩=some x0∧w'.cell? ⟨n,1,none⟩=some x1∧w'.cell? ⟨n,2,none⟩=some x2∧w'.cell? ⟨n,3,none⟩=some x3∧w'.cell? ⟨n,4,none⟩=some x4∧w'.cell? ⟨n,5,none⟩=some x5∧w'.cell? ⟨m,0,none⟩=some y0∧w'.cell? ⟨m,1,none⟩=some y1∧w'.cell? ⟨m,2,none⟩=some y2∧w'.cell? ⟨m,3,none⟩=some y3∧w'.cell? ⟨m,4,none⟩=some y4∧w'.cell? ⟨m,5,none⟩=some y5∧n < w'.heap.size∧m < w'.heap.size∧Below k w w':=by
 obtain ⟨h0,h1,h2,h3,h4,h5,h6,h7,h8,h9,h10,h11,hn,hm,hB⟩:=h;have hc:∀ o,w'.cell? ⟨n,o,none⟩=W.cell? ⟨n,o,none⟩:=fun o=>hb.cell (p:=⟨n,o,none⟩) hn;have hd:∀ o,w'.cell? ⟨m,o,none⟩=W.cell? ⟨m,o,none⟩:=fun o=>hb.cell (p:=⟨m,o,none⟩) hm;exact ⟨by rw [hc]; exact h0,by rw [hc]; exact h1,by rw [hc]; exact h2,by rw [hc]; exact h3,by rw [hc]; exact h4,by rw [hc]; exact h5,by rw [hd]; exact h6,by rw [hd]; exact h7,by rw [hd]; exact h8,by rw [hd]; exact h9,by rw [hd]; exact h10,by rw [hd]; exact h11,RZ hn hb.size,RZ hm hb.size,hB.trans (hb.mono (by omega))⟩
theorem Ct (w:World) (o1 o2:Obj):Below w.heap.size w ((w.alloc o1).alloc o2) :=
 ((R3 _ _).alloc (R4 _) _).alloc (by simp) _
def OQ (a b r c d s a' b' r' c' d' s':ByteArray):Int:=Lib.compareBytes (bu a b r c d s).data.toList (bu a' b' r' c' d' s').data.toList
theorem Cu (x y:List UInt8):decide (Lib.compareBytes x y < 0)=Op.bytesLess x y:=by
 induction x generalizing y with
 | nil=>cases y <;> simp [Lib.compareBytes,Op.bytesLess]
 | cons a x ih =>
  cases y with
  | nil=>simp [Lib.compareBytes,Op.bytesLess]
  | cons b y =>
   unfold Lib.compareBytes Op.bytesLess;by_cases h:a < b
   ·simp [h]
   ·by_cases h2:b < a
    ·have hne:(a == b)=false:=by simp; intro e; subst e; exact h h2
     simp [h,h2,hne]
    ·have he:a=b:=by
      have h1:=UInt8.not_lt.mp h;have h3:=UInt8.not_lt.mp h2;exact UInt8.le_antisymm h3 h1
     subst he;simp [ih]
theorem P9 (a b r c d s a' b' r' c' d' s':ByteArray) (w W:World) (hW:W=((w.alloc (.cells #[.string a,.string b,.string r,.string c,.string d,.string s] 73)).alloc (.cells #[.string a',.string b',.string r',.string c',.string d',.string s'] 73))):W.drew.cell? ⟨w.heap.size,0,none⟩=some (.string a)∧W.drew.cell? ⟨w.heap.size,1,none⟩=some (.string b)∧W.drew.cell? ⟨w.heap.size,2,none⟩=some (.string r)∧W.drew.cell? ⟨w.heap.size,3,none⟩=some (.string c)∧W.drew.cell? ⟨w.heap.size,4,none⟩=some (.string d)∧W.drew.cell? ⟨w.heap.size,5,none⟩=some (.string s)∧W.drew.cell? ⟨w.heap.size + 1,0,none⟩=some (.string a')∧W.drew.cell? ⟨w.heap.size + 1,1,none⟩=some (.string b')∧W.drew.cell? ⟨w.heap.size + 1,2,none⟩=some (.string r')∧W.drew.cell? ⟨w.heap.size + 1,3,none⟩=some (.string c')∧W.drew.cell? ⟨w.heap.size + 1,4,none⟩=some (.string d')∧W.drew.cell? ⟨w.heap.size + 1,5,none⟩=some (.string s')∧w.heap.size < W.drew.heap.size∧w.heap.size + 1 < W.drew.heap.size∧Below w.heap.size w (W.drew):=by
 subst hW;refine ⟨?_,?_,?_,?_,?_,?_,?_,?_,?_,?_,?_,?_,?_,?_,?_⟩
 all_goals first | exact (Ct _ _ _).drew | (simp; done) | (simp; omega)
theorem rE (a b r c d s a' b' r' c' d' s':ByteArray) (w:World) (ha:a.size≤maxLen) (hb:b.size≤maxLen) (hr:r.size≤maxLen) (hc:c.size≤maxLen) (hd:d.size≤maxLen) (hs:s.size≤maxLen) (ga:a'.size≤maxLen) (gb:b'.size≤maxLen) (gr:r'.size≤maxLen) (gc:c'.size≤maxLen) (gd:d'.size≤maxLen) (gs:s'.size≤maxLen) :
  Calls prog 148 #[.agg #[.string a,.string b,.string r,.string c,.string d,.string s],.agg #[.string a',.string b',.string r',.string c',.string d',.string s']] w fun e w'=>e=.returned (.int .i64 (OQ a b r c d s a' b' r' c' d' s'))∧Below w.heap.size w w':=by
 have H0:=P9 a b r c d s a' b' r' c' d' s' w _ rfl;go_enter func148,ntmps148;go_wp2_with fail
 go_region_held3 (fun w'=>w'.cell? ⟨w.heap.size,0,none⟩=some (.string a)∧w'.cell? ⟨w.heap.size,1,none⟩=some (.string b)∧w'.cell? ⟨w.heap.size,2,none⟩=some (.string r)∧w'.cell? ⟨w.heap.size,3,none⟩=some (.string c)∧w'.cell? ⟨w.heap.size,4,none⟩=some (.string d)∧w'.cell? ⟨w.heap.size,5,none⟩=some (.string s)∧w'.cell? ⟨w.heap.size + 1,0,none⟩=some (.string a')∧w'.cell? ⟨w.heap.size + 1,1,none⟩=some (.string b')∧w'.cell? ⟨w.heap.size + 1,2,none⟩=some (.string r')∧w'.cell? ⟨w.heap.size + 1,3,none⟩=some (.string c')∧w'.cell? ⟨w.heap.size + 1,4,none⟩=some (.string d')∧w'.cell? ⟨w.heap.size + 1,5,none⟩=some (.string s')∧w.heap.size < w'.heap.size∧w.heap.size + 1 < w'.heap.size∧Below w.heap.size w w')
  (first | assumption | exact GG (R4 _) (by assumption) hbx | exact H0)
  (first | (go_at_call 165; refine (vZ _ _ _ _ _ _ _ (by assumption) (by assumption) (by assumption) (by assumption) (by assumption) (by assumption)).mono ?_; rintro e w' ⟨rfl,hbx⟩) | (go_at_call 164; refine (Tryz.strings_Compare _ _ _).mono ?_; rintro e w' ⟨rfl,rfl⟩))
 rename_i hH;obtain ⟨-,-,-,-,-,-,-,-,-,-,-,-,-,-,gB⟩:=hH;go_wp2;go_ret;exact ⟨rfl,gB⟩
def fZ (a b r c d s a' b' r' c' d' s':ByteArray):Bool:=df a b r c d s && df a' b' r' c' d' s' && Op.bytesLess (bu a b r c d s).toList (bu a' b' r' c' d' s').toList
theorem yh {a b r c d s a' b' r' c' d' s':ByteArray} (h:df a b r c d s=false):fZ a b r c d s a' b' r' c' d' s'=false:=by simp [fZ,h]
theorem yj {a b r c d s a' b' r' c' d' s':ByteArray} (h:df a' b' r' c' d' s'=false):fZ a b r c d s a' b' r' c' d' s'=false:=by simp [fZ,h]
theorem qH {a b r c d s a' b' r' c' d' s':ByteArray} (h:df a b r c d s=true) (h2:df a' b' r' c' d' s'=true):fZ a b r c d s a' b' r' c' d' s'=Op.bytesLess (bu a b r c d s).toList (bu a' b' r' c' d' s').toList:=by simp [fZ,h,h2]
theorem GH {a b r c d s a' b' r' c' d' s':ByteArray} (h:df a b r c d s=true) (h2:df a' b' r' c' d' s'=true):fZ a b r c d s a' b' r' c' d' s'=decide (OQ a b r c d s a' b' r' c' d' s' < 0):=by
 rw [qH h h2,OQ,Cu,Go.ByteArray.toList_eq,Go.ByteArray.toList_eq]
theorem zJ (a b r c d s a' b' r' c' d' s':ByteArray) (w:World) (ha:a.size≤maxLen) (hb:b.size≤maxLen) (hr:r.size≤maxLen) (hc:c.size≤maxLen) (hd:d.size≤maxLen) (hs:s.size≤maxLen) (ga:a'.size≤maxLen) (gb:b'.size≤maxLen) (gr:r'.size≤maxLen) (gc:c'.size≤maxLen) (gd:d'.size≤maxLen) (gs:s'.size≤maxLen) :
  Calls prog 81 #[.agg #[.string a,.string b,.string r,.string c,.string d,.string s],.agg #[.string a',.string b',.string r',.string c',.string d',.string s']] w fun e w'=>e=.returned (.bool (fZ a b r c d s a' b' r' c' d' s'))∧Below w.heap.size w w':=by
 have H0:=P9 a b r c d s a' b' r' c' d' s' w _ rfl;by_cases h1:df a b r c d s=true
 ·by_cases h2:df a' b' r' c' d' s'=true
  ·have HT:Hid (fZ a b r c d s a' b' r' c' d' s'=_):=qH h1 h2;go_enter func81,ntmps81;go_wp2_with fail
   go_region_held3 (fun w'=>w'.cell? ⟨w.heap.size,0,none⟩=some (.string a)∧w'.cell? ⟨w.heap.size,1,none⟩=some (.string b)∧w'.cell? ⟨w.heap.size,2,none⟩=some (.string r)∧w'.cell? ⟨w.heap.size,3,none⟩=some (.string c)∧w'.cell? ⟨w.heap.size,4,none⟩=some (.string d)∧w'.cell? ⟨w.heap.size,5,none⟩=some (.string s)∧w'.cell? ⟨w.heap.size + 1,0,none⟩=some (.string a')∧w'.cell? ⟨w.heap.size + 1,1,none⟩=some (.string b')∧w'.cell? ⟨w.heap.size + 1,2,none⟩=some (.string r')∧w'.cell? ⟨w.heap.size + 1,3,none⟩=some (.string c')∧w'.cell? ⟨w.heap.size + 1,4,none⟩=some (.string d')∧w'.cell? ⟨w.heap.size + 1,5,none⟩=some (.string s')∧w.heap.size < w'.heap.size∧w.heap.size + 1 < w'.heap.size∧Below w.heap.size w w')
    (first | assumption | exact GG (R4 _) (by assumption) hbx | exact H0)
    (first | (go_at_call_of 80 (Value.agg #[.string a,.string b,.string r,.string c,.string d,.string s]); refine (eF a b r c d s _ ha hb hr hc hd hs).mono ?_; rintro e w' ⟨he,hbx⟩; rw [h1] at he; subst he) | (go_at_call_of 80 (Value.agg #[.string a',.string b',.string r',.string c',.string d',.string s']); refine (eF a' b' r' c' d' s' _ ga gb gr gc gd gs).mono ?_; rintro e w' ⟨he,hbx⟩; rw [h2] at he; subst he) | (go_at_call 114; refine (vY _ _ _ _ _ _ _ (by assumption) (by assumption) (by assumption) (by assumption) (by assumption) (by assumption)).mono ?_; rintro e w' ⟨rfl,hbx⟩))
   rename_i hH;obtain ⟨-,-,-,-,-,-,-,-,-,-,-,-,-,-,gB⟩:=hH;clear H0;go_wp2;go_ret;exact ⟨af HT.out.symm,gB⟩
  ·have h2':df a' b' r' c' d' s'=false:=by simpa using h2
   have HT:Hid (fZ a b r c d s a' b' r' c' d' s'=false):=yj h2';clear h2;obtain ⟨u0,u1,u2,u3,u4,u5,u6,u7,u8,u9,u10,u11,un,um,uB⟩:=H0;go_enter func81,ntmps81;go_wp2_with fail
   go_region_with (first | (go_at_call_of 80 (Value.agg #[.string a,.string b,.string r,.string c,.string d,.string s]); refine (eF a b r c d s _ ha hb hr hc hd hs).mono ?_; rintro e w1 ⟨he,hbx⟩; rw [h1] at he; subst he; obtain ⟨k0,k1,k2,k3,k4,k5,k6,k7,k8,k9,k10,k11,kn,km,kB⟩:=GG (R4 _) ⟨u0,u1,u2,u3,u4,u5,u6,u7,u8,u9,u10,u11,un,um,uB⟩ hbx) | (go_at_call_of 80 (Value.agg #[.string a',.string b',.string r',.string c',.string d',.string s']); refine (eF a' b' r' c' d' s' _ ga gb gr gc gd gs).mono ?_; rintro e w2 ⟨he,hby⟩; rw [h2'] at he; subst he))
   all_goals clear u0 u1 u2 u3 u4 u5 u6 u7 u8 u9 u10 u11
   all_goals go_wp2
   all_goals go_ret
   all_goals exact ⟨af HT.out.symm,kB.trans (hby.mono (by omega))⟩
 ·have h1':df a b r c d s=false:=by simpa using h1
  have HT:Hid (fZ a b r c d s a' b' r' c' d' s'=false):=yh h1';clear h1;obtain ⟨u0,u1,u2,u3,u4,u5,u6,u7,u8,u9,u10,u11,un,um,uB⟩:=H0;go_enter func81,ntmps81;go_wp2_with fail
  go_region_with (go_at_call_of 80 (Value.agg #[.string a,.string b,.string r,.string c,.string d,.string s]); refine (eF a b r c d s _ ha hb hr hc hd hs).mono ?_; rintro e w1 ⟨he,hbx⟩; rw [h1'] at he; subst he)
  all_goals clear u0 u1 u2 u3 u4 u5 u6 u7 u8 u9 u10 u11
  all_goals go_wp2
  all_goals go_ret
  all_goals exact ⟨af HT.out.symm,uB.trans (hbx.mono (by omega))⟩
theorem zK (a b r c d s a' b' r' c' d' s':ByteArray) (w:World) (ha:a.size≤maxLen) (hb:b.size≤maxLen) (hr:r.size≤maxLen) (hc:c.size≤maxLen) (hd:d.size≤maxLen) (hs:s.size≤maxLen) (ga:a'.size≤maxLen) (gb:b'.size≤maxLen) (gr:r'.size≤maxLen) (gc:c'.size≤maxLen) (gd:d'.size≤maxLen) (gs:s'.size≤maxLen) :
  Calls prog 121 #[.agg #[.string a,.string b,.string r,.string c,.string d,.string s],.agg #[.string a',.string b',.string r',.string c',.string d',.string s']] w fun e w'=>e=.returned (.bool (fZ a b r c d s a' b' r' c' d' s'))∧Below w.heap.size w w':=by
 by_cases h1:df a b r c d s=true
 ·by_cases h2:df a' b' r' c' d' s'=true
  ·have HT:Hid (fZ a b r c d s a' b' r' c' d' s'=decide (OQ a b r c d s a' b' r' c' d' s' < 0)):=GH h1 h2;go_enter func121,ntmps121;go_wp2_with fail;refine (fe _ _ _ _ _ _ _ ha hb hr hc hd hs).mono ?_;rintro e w1 ⟨rfl,hb1⟩;obtain ⟨hc1,hf1⟩:=ed hb1;have hz1:w.heap.size + 1 < w1.heap.size:=by have:=hb1.size; simp at this; omega
   have hy1:w.heap.size < w1.heap.size:=by omega
   have HB1:Below w.heap.size w w1:=(Ct _ _ _).trans (hb1.mono (by simp; omega));go_wp2_with fail;refine (fe _ _ _ _ _ _ _ ga gb gr gc gd gs).mono ?_;rintro e w2 ⟨rfl,hb2⟩;obtain ⟨hc2,hf2⟩:=ed hb2;have hz2:w.heap.size + 1 < w2.heap.size:=by have:=hb2.size; omega
   have hy2:w.heap.size < w2.heap.size:=by omega
   go_wp2_with fail;refine (rE _ _ _ _ _ _ _ _ _ _ _ _ _ ha hb hr hc hd hs ga gb gr gc gd gs).mono ?_;rintro e w3 ⟨rfl,hb3⟩;go_wp2;go_ret;exact ⟨af HT.out.symm,HB1.trans ((hb2.mono (by omega)).trans (hb3.mono (by omega)))⟩
  ·have h2':df a' b' r' c' d' s'=false:=by simpa using h2
   have HT:Hid (fZ a b r c d s a' b' r' c' d' s'=false):=yj h2';clear h2;go_enter func121,ntmps121;go_wp2_with fail;refine (fe _ _ _ _ _ _ _ ha hb hr hc hd hs).mono ?_;rintro e w1 ⟨rfl,hb1⟩;obtain ⟨hc1,hf1⟩:=ed hb1;have hz1:w.heap.size + 1 < w1.heap.size:=by have:=hb1.size; simp at this; omega
   have hy1:w.heap.size < w1.heap.size:=by omega
   have HB1:Below w.heap.size w w1:=(Ct _ _ _).trans (hb1.mono (by simp; omega));go_wp2_with fail;refine (fe _ _ _ _ _ _ _ ga gb gr gc gd gs).mono ?_;rintro e w2 ⟨rfl,hb2⟩;go_wp2;go_ret;exact ⟨af HT.out.symm,HB1.trans (hb2.mono (by omega))⟩
 ·have h1':df a b r c d s=false:=by simpa using h1
  have HT:Hid (fZ a b r c d s a' b' r' c' d' s'=false):=yh h1';clear h1;go_enter func121,ntmps121;go_wp2_with fail;refine (fe _ _ _ _ _ _ _ ha hb hr hc hd hs).mono ?_;rintro e w1 ⟨rfl,hb1⟩;obtain ⟨hc1,hf1⟩:=ed hb1;have hz1:w.heap.size + 1 < w1.heap.size:=by have:=hb1.size; simp at this; omega
  have hy1:w.heap.size < w1.heap.size:=by omega
  have HB1:Below w.heap.size w w1:=(Ct _ _ _).trans (hb1.mono (by simp; omega));go_wp2;go_ret;exact ⟨af HT.out.symm,HB1⟩
end Go.Proofs.YtdaoiceeidoehaaGreat
namespace Go.Proofs.YtdaoiceeidoehaaGreat
open Go.Sort
open Go.ChangeShapes Go.WideShapes Go.ChangeAt Go.RowKit
open Pl
attribute [local go_sem ↓] Go.wp_at_zero Go.wp_at_succ
def Tp.ok (t:Tp):Bool:=df t.a t.b t.r t.c t.d t.s
def Tp.ahead (t u:Tp):Bool:=fZ t.a t.b t.r t.c t.d t.s u.a u.b u.r u.c u.d u.s
def wh (ts:List Tp) (i:Nat):Bool:=match ts[i]? with
 | none=>true
 | some t=>t.ok && (match i with
  | 0=>true
  | j + 1=>match ts[j]? with
   | none=>true
   | some u=>u.ahead t)
def tF (ts:List Tp) (k:Nat):Bool:=(List.range k).all (wh ts)
def eQ (ts:List Tp):Bool:=decide (ts.length≤40) && tF ts ts.length
theorem pF (ts:List Tp) (k:Nat):tF ts (k + 1)=(tF ts k && wh ts k):=by simp [tF,List.range_succ]
theorem rF {ts:List Tp} {k:Nat} (hk:k < ts.length) (h:wh ts k=false):eQ ts=false:=by
 have:tF ts ts.length=false:=by
  unfold tF;rw [List.all_eq_false];exact ⟨k,by simpa using hk,by simp [h]⟩
 simp [eQ,this]
theorem tH {ts:List Tp} (h:0 < ts.length):wh ts 0=ts[0].ok:=by simp [wh,R8 h]
theorem pG {ts:List Tp} {j:Nat} (h:j + 1 < ts.length):wh ts (j + 1)=(ts[j + 1].ok && ts[j].ahead ts[j + 1]):=by
 have h':j < ts.length:=by omega
 simp [wh,R8 h,R8 h']
theorem Jd {ts:List Tp} {k:Nat} (h:k < ts.length) (hn:ts[k].ok=false):wh ts k=false:=by
 simp [wh,R8 h,hn]
theorem tJ (b off cap:Nat) (ts:List Tp) (w:World) (hlen:ts.length≤maxLen) (hr:xQ w b off ts) (hb:b < w.heap.size) (hf:∀ t ∈ ts,t.fits) :
    Calls prog 53 #[.slice (some ⟨b,off,none⟩) ts.length cap] w fun e w'=>e=.returned (.bool (eQ ts))∧Below w.heap.size w w':=by
  unfold maxLen at hlen;by_cases hbig:40 < ts.length
  · have HT:Hid (eQ ts=false):=by show _=_; simp [eQ]; omega
    go_enter func53,ntmps53;go_wp2;go_ret;exact ⟨af HT.out.symm,R3 _ _⟩
  · go_enter func53,ntmps53;go_wp2;go_loopw [3] (fun i wr=>∃ k:Nat,k≤ts.length∧i=.int .i64 k∧Hid (tF ts k=true)∧Below w.heap.size w wr) (fun i _=>ts.length - (intOf i).toNat);case atStart=>exact ⟨0,R6 _,rfl,rfl,R3 _ _⟩
    case round =>
      obtain ⟨k,hk,rfl,hu,hB⟩:=hrel;by_cases hlt:k < ts.length
      · have HRB:=nZ (hr.below hB hb);have Tj:=nZ hf;obtain ⟨t0,t1,t2,t3,t4,t5⟩:=HRB.out k hlt;have hk1:=bn k;have hk2:(k:Int) < (ts.length:Int):=by omega
        clear hr hf;have c0:=cell_regrown t0;have c1:=cell_regrown t1;have c2:=cell_regrown t2;have c3:=cell_regrown t3;have c4:=cell_regrown t4;have c5:=cell_regrown t5;have TH:Hid (∀ d os,Below w.heap.size w (grow (redrawn wr d) os)):=fun d os=>hB.trans ((below_regrown wr d os).mono hB.size);clear t0 t1 t2 t3 t4 t5;go_wp2_with fail;have VD:Hid (∀ d os,Calls prog 80 #[.agg #[.string ts[k].a,.string ts[k].b,.string ts[k].r,.string ts[k].c,.string ts[k].d,.string ts[k].s]] (grow (redrawn wr d) os) fun e w''=>e=.returned (.bool ts[k].ok)∧∃ p:Regrown,w''=grow (redrawn wr p.d) p.os):=by
          obtain ⟨f0,f1,f2,f3,f4,f5⟩:=Tj.out ts[k] (RY hlt);exact cz fun W' _=>eF _ _ _ _ _ _ _ f0 f1 f2 f3 f4 f5
        cases hok:ts[k].ok with
        | false =>
          have HT:Hid (eQ ts=false):=rF hlt (Jd hlt hok);rw [hok] at VD;clear hok;refine wp_region_quiet_below (by kernel_rfl) (by kernel_rfl) ?_
          repeat (go_big_quiet_step (exact VD.out _ _))
          refine wpQuiet_nil ?_;rintro _ ⟨⟨dq,osq⟩,rfl⟩;go_wp2;go_ret;exact ⟨af HT.out.symm,TH.out dq osq⟩
        | true =>
          rw [hok] at VD;by_cases hz:k=0
          · have HU:Hid (tF ts (k + 1)=true):=by show _=_; rw [pF,hu.out]; subst hz; rw [tH hlt,hok]; rfl
            have hk8:decide ((0:Int) < (k:Int))=false:=by simp; omega
            have hk9:decide (0 < k)=false:=by simp; omega
            clear hok hz;refine wp_region_quiet_below (by kernel_rfl) (by kernel_rfl) ?_
            repeat (go_big_quiet_step (exact VD.out _ _))
            refine wpQuiet_nil ?_;rintro _ ⟨⟨dq,osq⟩,rfl⟩;go_wp2;go_roundw;case rel=>exact ⟨k + 1,by omega,by go_num,HU,TH.out dq osq⟩
            case measure=>simp [intOf]; omega
          · obtain ⟨m,hm⟩:∃ m:Nat,k=m + 1:=⟨k - 1,by omega⟩;have Tv:m < ts.length:=by omega
            obtain ⟨q0,q1,q2,q3,q4,q5⟩:=HRB.out m Tv;replace q0:=cell_regrown q0;replace q1:=cell_regrown q1;replace q2:=cell_regrown q2;replace q3:=cell_regrown q3;replace q4:=cell_regrown q4;replace q5:=cell_regrown q5;have hkm:(k:Int) - 1=(m:Int):=by omega
            have hm1:=bn m;have hm2:(m:Int) < (ts.length:Int):=by omega
            have hpos:(0:Int) < (k:Int):=by omega
            have hposN:0 < k:=by omega
            have hwm:IntKind.i64.wrap (m:Int)=(m:Int):=by rw [IntKind.wrap_i64]; omega
            have HA:Hid (wh ts k=ts[m].ahead ts[k]):=by show _=_; subst hm; rw [pG hlt,hok]; rfl
            have Yu:Hid (∀ d os,Calls prog 81 #[.agg #[.string ts[m].a,.string ts[m].b,.string ts[m].r,.string ts[m].c,.string ts[m].d,.string ts[m].s],.agg #[.string ts[k].a,.string ts[k].b,.string ts[k].r,.string ts[k].c,.string ts[k].d,.string ts[k].s]] (grow (redrawn wr d) os) fun e w''=>e=.returned (.bool (ts[m].ahead ts[k]))∧∃ p:Regrown,w''=grow (redrawn wr p.d) p.os):=by
              obtain ⟨f0,f1,f2,f3,f4,f5⟩:=Tj.out ts[k] (RY hlt);obtain ⟨g0,g1,g2,g3,g4,g5⟩:=Tj.out ts[m] (RY Tv);exact cz fun W' _=>zJ _ _ _ _ _ _ _ _ _ _ _ _ _ g0 g1 g2 g3 g4 g5 f0 f1 f2 f3 f4 f5
            clear hm hz hok;cases ha:ts[m].ahead ts[k] with
            | false =>
              have HT:Hid (eQ ts=false):=rF hlt (by rw [HA.out,ha]);rw [ha] at Yu;clear ha HA;refine wp_region_quiet_below (by kernel_rfl) (by kernel_rfl) ?_
              repeat (go_big_quiet_step (first | exact VD.out _ _ | exact Yu.out _ _))
              refine wpQuiet_nil ?_;rintro _ ⟨⟨dq,osq⟩,rfl⟩;go_wp2;go_ret;exact ⟨af HT.out.symm,TH.out dq osq⟩
            | true =>
              have HU:Hid (tF ts (k + 1)=true):=by show _=_; rw [pF,hu.out,HA.out,ha]; rfl
              rw [ha] at Yu;clear ha HA;refine wp_region_quiet_below (by kernel_rfl) (by kernel_rfl) ?_
              repeat (go_big_quiet_step (first | exact VD.out _ _ | exact Yu.out _ _))
              refine wpQuiet_nil ?_;rintro _ ⟨⟨dq,osq⟩,rfl⟩;go_wp2;go_roundw;case rel=>exact ⟨k + 1,by omega,by go_num,HU,TH.out dq osq⟩
              case measure=>simp [intOf]; omega
      · go_wp2;go_ret;exact ⟨af (by have e:k=ts.length:=(by omega);subst e;simp [eQ,hu.out]; omega),hB⟩
end Go.Proofs.YtdaoiceeidoehaaGreat
namespace Go.Proofs.YtdaoiceeidoehaaGreat.Pl
def tK (c:UInt8):List UInt8→List UInt8 × List UInt8 × Bool
 | []=>([],[],false)
 | b::l=>if b=c then ([],l,true) else (b::(tK c l).1,(tK c l).2.1,(tK c l).2.2)
theorem tL {c:UInt8} {l:List UInt8} (hn:∀ x ∈ l,x ≠ c):tK c l=(l,[],false):=by
 induction l with
 | nil=>rfl
 | cons b l ih =>
  have hb:b ≠ c:=hn b (by simp);have:=ih (fun x hx=>hn x (by simp [hx]));simp [tK,hb,this]
def wm (c:UInt8) (s:ByteArray):ByteArray:=⟨(tK c s.data.toList).1.toArray⟩
def tN (c:UInt8) (s:ByteArray):ByteArray:=⟨(tK c s.data.toList).2.1.toArray⟩
def MB (c:UInt8) (s:ByteArray):Bool:=(tK c s.data.toList).2.2
theorem il {a b:ByteArray} (h:a.data.toList=b.data.toList):a=b:=by
 cases a; cases b; simp at h; simp [h]
def Q5 (s:ByteArray):Bool:=eH (wm 58 s) (tN 58 s)
def RS (s:ByteArray):ByteArray:=if Q5 s then wm 58 s else ⟨#[]⟩
def RU (s:ByteArray):ByteArray:=if Q5 s then tN 58 s else ⟨#[]⟩
theorem MC {s:ByteArray} (h:Q5 s=true):RS s=wm 58 s∧RU s=tN 58 s:=by simp [RS,RU,h]
theorem ME {c:UInt8} {l m:List UInt8} (h:∀ x ∈ l,x ≠ c):tK c (l ++ c::m)=(l,m,true):=by
 induction l with
 | nil=>simp [tK]
 | cons b l ih =>
  have hb:b ≠ c:=h b (by simp);have:=ih (fun x hx=>h x (by simp [hx]));simp [tK,hb,this]
theorem AU (c:UInt8) (s:ByteArray):(wm c s).data.toList=(tK c s.data.toList).1:=by simp [wm]
theorem AV (c:UInt8) (s:ByteArray):(tN c s).data.toList=(tK c s.data.toList).2.1:=by simp [tN]
theorem Eu (a b:ByteArray):(a ++ b).data.toList=a.data.toList ++ b.data.toList:=by simp [ByteArray.data_append]
theorem wS {c:UInt8} {s:ByteArray} {l m:List UInt8} (hs:s.data.toList=l ++ c::m) (h:∀ x ∈ l,x ≠ c):(wm c s).data.toList=l∧(tN c s).data.toList=m∧MB c s=true:=by
 rw [AU,AV,MB,hs,ME h]; exact ⟨rfl,rfl,rfl⟩
theorem OT {c:UInt8} {s:ByteArray} (h:∀ x ∈ s.data.toList,x ≠ c):wm c s=s∧tN c s=⟨#[]⟩∧MB c s=false:=by
 refine ⟨il ?_,il ?_,?_⟩
 ·rw [AU,tL h]
 ·rw [AV,tL h]
 ·rw [MB,tL h]
def MF (l:List UInt8):Prop:=∀ x ∈ l,x ≠ 35∧x ≠ 58∧x ≠ 64
theorem AX {x:UInt8} (h:wM x=true):x ≠ 35∧x ≠ 58∧x ≠ 64:=by
 refine ⟨?_,?_,?_⟩ <;> (rintro rfl; revert h; decide)
theorem GI {x:UInt8} (h:iM x=true):x ≠ 35∧x ≠ 58∧x ≠ 64:=AX (by simp [wM,h])
theorem oM {s:ByteArray} (h:aR s=true):MF s.data.toList:=by
 simp only [aR,dO,qy,R7,Sg] at h;exact fun x hx=>GI (h.1.2 x hx)
theorem Ev {s:ByteArray} (h:nD s=true):MF s.data.toList:=by
 simp only [nD,dO,qy,R7,Sg] at h;exact fun x hx=>AX (h.2 x hx)
theorem qI {a b:ByteArray} (h:eH a b=true):aR a=true∧nD b=true:=by simpa [eH] using h
theorem rG {a b:ByteArray} (h:eH a b=true):(aF a b).data.toList=a.data.toList ++ 58::b.data.toList:=by
 rw [ou h,Eu,Eu]; simp
theorem qd {a b:ByteArray} (h:eH a b=true):∀ x ∈ (aF a b).data.toList,x ≠ 35∧x ≠ 64:=by
 intro x hx;rw [rG h] at hx;have h1:=oM (qI h).1;have h2:=Ev (qI h).2;simp only [Sd,List.mem_cons] at hx;rcases hx with hx | hx | hx
 ·exact ⟨(h1 x hx).1,(h1 x hx).2.2⟩
 ·subst hx; decide
 ·exact ⟨(h2 x hx).1,(h2 x hx).2.2⟩
theorem mH {a b:ByteArray} (h:eH a b=true):Q5 (aF a b)=true∧RS (aF a b)=a∧RU (aF a b)=b:=by
 obtain ⟨h1,h2,-⟩:=wS (c:=58) (rG h) (fun x hx=>(oM (qI h).1 x hx).2.1);have e1:wm 58 (aF a b)=a:=il h1;have e2:tN 58 (aF a b)=b:=il h2;have hb:Q5 (aF a b)=true:=by rw [Q5,e1,e2]; exact h
 exact ⟨hb,by rw [(MC hb).1,e1],by rw [(MC hb).2,e2]⟩
def AY (s:ByteArray):List UInt8:=if s.toList.isEmpty then [] else 35::s.data.toList
theorem Cv {a b r c d s:ByteArray} (h:df a b r c d s=true) :
  (bu a b r c d s).data.toList=(aF a b).data.toList ++ 35::(r.data.toList ++ 64::((aF c d).data.toList ++ AY s)):=by
 by_cases hs:s.toList.isEmpty=true
 ·rw [ow h hs,AY,if_pos hs]; simp
 ·have hs':s.toList.isEmpty=false:=by simpa using hs
  rw [oz h hs',AY,if_neg hs]; simp
theorem MG {s:ByteArray} (h:s.toList.isEmpty=true):s=⟨#[]⟩:=by
 refine il ?_;rw [Go.ByteArray.toList_eq] at h;simpa using h
theorem MH {o s x:ByteArray} (ho:∀ y ∈ o.data.toList,y ≠ 35) (hx:x.data.toList=o.data.toList ++ AY s) :
  wm 35 x=o∧tN 35 x=s∧MB 35 x=!s.toList.isEmpty:=by
 by_cases hs:s.toList.isEmpty=true
 ·have e:x=o:=il (by rw [hx,AY,if_pos hs]; simp);subst e;obtain ⟨h1,h2,h3⟩:=OT (c:=35) (s:=x) ho;exact ⟨h1,by rw [h2,MG hs],by rw [h3,hs]; rfl⟩
 ·rw [AY,if_neg hs] at hx;obtain ⟨h1,h2,h3⟩:=wS hx ho;have hs':s.toList.isEmpty=false:=by simpa using hs
  exact ⟨il h1,il h2,by rw [h3,hs']; rfl⟩
def sR (s:ByteArray):=tN 64 s
def i1 (s:ByteArray):=tN 35 s
def i2 (s:ByteArray):=tN 64 (i1 s)
theorem ym {a b r c d t s:ByteArray} (h:df a b r c d t=true) (hs:bu a b r c d t=s) :
  wm 35 s=aF a b∧wm 64 (i1 s)=r∧wm 35 (i2 s)=aF c d∧tN 35 (i2 s)=t:=by
 obtain ⟨h1,h2,h3,h4⟩:=kF h;have hl:=Cv h;rw [hs] at hl;obtain ⟨c1,c2,-⟩:=wS hl (fun x hx=>(qd h1 x hx).1);obtain ⟨d1,d2,-⟩:=wS (s:=i1 s) c2 (fun x hx=>(oM h2 x hx).2.2);obtain ⟨e1,e2,-⟩:=MH (o:=aF c d) (s:=t) (x:=i2 s) (fun x hx=>(qd h3 x hx).1) d2;exact ⟨il c1,il d1,e1,e2⟩
def GJ (s a b r c d t:ByteArray) (f:Bool):Prop :=
 (f=true∧df a b r c d t=true∧bu a b r c d t=s) ∨
 (f=false∧(a=⟨#[]⟩∧b=⟨#[]⟩∧r=⟨#[]⟩∧c=⟨#[]⟩∧d=⟨#[]⟩∧t=⟨#[]⟩)∧∀ a b r c d t,df a b r c d t=true→bu a b r c d t ≠ s)
theorem Ew {a b r c d t a' b' r' c' d' t':ByteArray} (h:df a b r c d t=true) (h':df a' b' r' c' d' t'=true) (e:bu a b r c d t=bu a' b' r' c' d' t') :
  a=a'∧b=b'∧r=r'∧c=c'∧d=d'∧t=t':=by
 obtain ⟨x1,x2,x3,x4⟩:=ym h e;obtain ⟨y1,y2,y3,y4⟩:=ym h' rfl;obtain ⟨p1,p2,p3,p4⟩:=kF h;obtain ⟨q1,q2,q3,q4⟩:=kF h';have o1:aF a b=aF a' b':=x1.symm.trans y1;have o2:aF c d=aF c' d':=x3.symm.trans y3;obtain ⟨-,u1,u2⟩:=mH p1;obtain ⟨-,v1,v2⟩:=mH q1;obtain ⟨-,u3,u4⟩:=mH p3;obtain ⟨-,v3,v4⟩:=mH q3;rw [o1] at u1 u2;rw [o2] at u3 u4;exact ⟨u1.symm.trans v1,u2.symm.trans v2,x2.symm.trans y2,u3.symm.trans v3,u4.symm.trans v4,x4.symm.trans y4⟩
theorem GJ.one {s a b r c d t a' b' r' c' d' t':ByteArray} {f f':Bool} (h:GJ s a b r c d t f) (h':GJ s a' b' r' c' d' t' f') :
  (a=a'∧b=b'∧r=r'∧c=c'∧d=d'∧t=t')∧f=f':=by
 rcases h with ⟨rfl,h1,h2⟩ | ⟨rfl,h1,h2⟩
 ·rcases h' with ⟨rfl,k1,k2⟩ | ⟨rfl,k1,k2⟩
  ·exact ⟨Ew h1 k1 (h2.trans k2.symm),rfl⟩
  ·exact absurd h2 (k2 _ _ _ _ _ _ h1)
 ·rcases h' with ⟨rfl,k1,k2⟩ | ⟨rfl,k1,k2⟩
  ·exact absurd k2 (h2 _ _ _ _ _ _ k1)
  ·obtain ⟨rfl,rfl,rfl,rfl,rfl,rfl⟩:=h1;obtain ⟨rfl,rfl,rfl,rfl,rfl,rfl⟩:=k1;exact ⟨⟨rfl,rfl,rfl,rfl,rfl,rfl⟩,rfl⟩
end Go.Proofs.YtdaoiceeidoehaaGreat.Pl
