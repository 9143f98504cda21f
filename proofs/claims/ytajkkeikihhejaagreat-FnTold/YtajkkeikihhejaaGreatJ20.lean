/- Contracts of the functions that hold two tuples' texts against one another. -/
import Derived.Test.YtajkkeikihhejaaGreatSq
import Derived.Test.YtajkkeikihhejaaGreatJ19
import Derived.Test.YtajkkeikihhejaaGreatShelf
open Go.Proofs.Tryz
set_option maxHeartbeats 80000000
namespace Go.Proofs.YtajkkeikihhejaaGreat
open Go.ChangeShapes Go.WideShapes Go.ChangeAt Go.RowKit
open Pl
attribute [local go_sem ↓] Go.wp_at_zero Go.wp_at_succ
theorem I1 {w W w':af} {n m k:Nat} {x0 x1 x2 x3 x4 x5 y0 y1 y2 y3 y4 y5:Value} (hk:k≤n) (h:W.cell? ⟨n,0,none⟩=some x0∧W.cell? ⟨n,1,none⟩=some x1∧W.cell? ⟨n,2,none⟩=some x2∧W.cell? ⟨n,3,none⟩=some x3∧W.cell? ⟨n,4,none⟩=some x4∧W.cell? ⟨n,5,none⟩=some x5∧W.cell? ⟨m,0,none⟩=some y0∧W.cell? ⟨m,1,none⟩=some y1∧W.cell? ⟨m,2,none⟩=some y2∧W.cell? ⟨m,3,none⟩=some y3∧W.cell? ⟨m,4,none⟩=some y4∧W.cell? ⟨m,5,none⟩=some y5∧n < W.heap.size∧m < W.heap.size∧Below k w W) (hb:ag W w'):w'.cell? ⟨n,0,none⟩=some x0∧w'.cell? ⟨n,1,none⟩=some x1∧w'.cell? ⟨n,2,none⟩=some x2∧w'.cell? ⟨n,3,none⟩=some x3∧w'.cell? ⟨n,4,none⟩=some x4∧w'.cell? ⟨n,5,none⟩=some x5∧w'.cell? ⟨m,0,none⟩=some y0∧w'.cell? ⟨m,1,none⟩=some y1∧w'.cell? ⟨m,2,none⟩=some y2∧w'.cell? ⟨m,3,none⟩=some y3∧w'.cell? ⟨m,4,none⟩=some y4∧w'.cell? ⟨m,5,none⟩=some y5∧n < w'.heap.size∧m < w'.heap.size∧Below k w w':=by
 obtain ⟨h0,h1,h2,h3,h4,h5,h6,h7,h8,h9,h10,h11,hn,hm,hB⟩:=h;have hc:∀ o,w'.cell? ⟨n,o,none⟩=W.cell? ⟨n,o,none⟩:=fun o=>hb.cell (p:=⟨n,o,none⟩) hn;have hd:∀ o,w'.cell? ⟨m,o,none⟩=W.cell? ⟨m,o,none⟩:=fun o=>hb.cell (p:=⟨m,o,none⟩) hm;exact ⟨by rw [hc]; exact h0,by rw [hc]; exact h1,by rw [hc]; exact h2,by rw [hc]; exact h3,by rw [hc]; exact h4,by rw [hc]; exact h5,by rw [hd]; exact h6,by rw [hd]; exact h7,by rw [hd]; exact h8,by rw [hd]; exact h9,by rw [hd]; exact h10,by rw [hd]; exact h11,TP hn hb.size,TP hm hb.size,hB.trans (hb.mono (by omega))⟩
theorem Ai (w:af) (o1 o2:Obj):ag w ((w.alloc o1).alloc o2) :=
 ((TT _ _).alloc (TS _) _).alloc (by simp) _
def I4 (a b r c d s a' b' r' c' d' s':ByteArray):Int:=Lib.compareBytes (aX a b r c d s).data.toList (aX a' b' r' c' d' s').data.toList
theorem uP (x y:List UInt8):decide (Lib.compareBytes x y < 0)=Op.bytesLess x y:=by
 induction x generalizing y with
 | nil=>cases y <;> simp [Lib.compareBytes,Op.bytesLess]
 | cons a x ih =>
  cases y with
  | nil=>simp [Lib.compareBytes,Op.bytesLess]
  | cons b y =>
   unfold Lib.compareBytes Op.bytesLess;by_cases h:a < b
   ·simp [h]
   by_cases h2:b < a
   ·have hne:(a == b)=false:=by simp; intro e; subst e; exact h h2
    simp [h,h2,hne]
   have he:a=b:=by
    have h1:=UInt8.not_lt.mp h;have h3:=UInt8.not_lt.mp h2;exact UInt8.le_antisymm h3 h1
   subst he;simp [ih]
theorem RD (a b r c d s a' b' r' c' d' s':bH) (w W:af) (hW:W=((w.alloc (.cells #[.string a,.string b,.string r,.string c,.string d,.string s] 46)).alloc (.cells #[.string a',.string b',.string r',.string c',.string d',.string s'] 46))):W.drew.cell? ⟨w.heap.size,0,none⟩=some (.string a)∧W.drew.cell? ⟨w.heap.size,1,none⟩=some (.string b)∧W.drew.cell? ⟨w.heap.size,2,none⟩=some (.string r)∧W.drew.cell? ⟨w.heap.size,3,none⟩=some (.string c)∧W.drew.cell? ⟨w.heap.size,4,none⟩=some (.string d)∧W.drew.cell? ⟨w.heap.size,5,none⟩=some (.string s)∧W.drew.cell? ⟨w.heap.size + 1,0,none⟩=some (.string a')∧W.drew.cell? ⟨w.heap.size + 1,1,none⟩=some (.string b')∧W.drew.cell? ⟨w.heap.size + 1,2,none⟩=some (.string r')∧W.drew.cell? ⟨w.heap.size + 1,3,none⟩=some (.string c')∧W.drew.cell? ⟨w.heap.size + 1,4,none⟩=some (.string d')∧W.drew.cell? ⟨w.heap.size + 1,5,none⟩=some (.string s')∧w.heap.size < W.drew.heap.size∧w.heap.size + 1 < W.drew.heap.size∧ag w (W.drew):=by
 subst hW;refine ⟨?_,?_,?_,?_,?_,?_,?_,?_,?_,?_,?_,?_,?_,?_,?_⟩
 all_goals first | exact (Ai _ _ _).drew | (simp; done) | (simp; omega)
theorem uQ (a b r c d s a' b' r' c' d' s':bH) (w:af) (ha:a.size≤maxLen) (hb:b.size≤maxLen) (hr:r.size≤maxLen) (hc:c.size≤maxLen) (hd:d.size≤maxLen) (hs:s.size≤maxLen) (ga:a'.size≤maxLen) (gb:b'.size≤maxLen) (gr:r'.size≤maxLen) (gc:c'.size≤maxLen) (gd:d'.size≤maxLen) (gs:s'.size≤maxLen) :
  Calls prog 106 #[.agg #[.string a,.string b,.string r,.string c,.string d,.string s],.agg #[.string a',.string b',.string r',.string c',.string d',.string s']] w fun e w'=>e=.returned (.int .i64 (I4 a b r c d s a' b' r' c' d' s'))∧ag w w':=by
 have H0:=RD a b r c d s a' b' r' c' d' s' w _ rfl;go_enter func106,ntmps106;go_wp2_with fail
 go_region_held3 (fun w'=>w'.cell? ⟨w.heap.size,0,none⟩=some (.string a)∧w'.cell? ⟨w.heap.size,1,none⟩=some (.string b)∧w'.cell? ⟨w.heap.size,2,none⟩=some (.string r)∧w'.cell? ⟨w.heap.size,3,none⟩=some (.string c)∧w'.cell? ⟨w.heap.size,4,none⟩=some (.string d)∧w'.cell? ⟨w.heap.size,5,none⟩=some (.string s)∧w'.cell? ⟨w.heap.size + 1,0,none⟩=some (.string a')∧w'.cell? ⟨w.heap.size + 1,1,none⟩=some (.string b')∧w'.cell? ⟨w.heap.size + 1,2,none⟩=some (.string r')∧w'.cell? ⟨w.heap.size + 1,3,none⟩=some (.string c')∧w'.cell? ⟨w.heap.size + 1,4,none⟩=some (.string d')∧w'.cell? ⟨w.heap.size + 1,5,none⟩=some (.string s')∧w.heap.size < w'.heap.size∧w.heap.size + 1 < w'.heap.size∧ag w w')
  (first | assumption | exact I1 (TS _) (by assumption) hbx | exact H0)
  (first | (go_at_call 160; refine (yu _ _ _ _ _ _ _ (by assumption) (by assumption) (by assumption) (by assumption) (by assumption) (by assumption)).mono ?_; rintro e w' ⟨rfl,hbx⟩) | (go_at_call 159; refine (Tryz.strings_Compare _ _ _).mono ?_; rintro e w' ⟨rfl,rfl⟩))
 rename_i hH;obtain ⟨-,-,-,-,-,-,-,-,-,-,-,-,-,-,gB⟩:=hH;go_wp2;go_ret;exact ⟨rfl,gB⟩
def fU (a b r c d s a' b' r' c' d' s':ByteArray):Bool:=bI a b r c d s && bI a' b' r' c' d' s' && Op.bytesLess (aX a b r c d s).toList (aX a' b' r' c' d' s').toList
theorem Aj {a b r c d s a' b' r' c' d' s':ByteArray} (h:bI a b r c d s=false):fU a b r c d s a' b' r' c' d' s'=false:=by simp [fU,h]
theorem Ak {a b r c d s a' b' r' c' d' s':ByteArray} (h:bI a' b' r' c' d' s'=false):fU a b r c d s a' b' r' c' d' s'=false:=by simp [fU,h]
theorem tF {a b r c d s a' b' r' c' d' s':ByteArray} (h:bI a b r c d s=true) (h2:bI a' b' r' c' d' s'=true):fU a b r c d s a' b' r' c' d' s'=Op.bytesLess (aX a b r c d s).toList (aX a' b' r' c' d' s').toList:=by simp [fU,h,h2]
theorem I5 {a b r c d s a' b' r' c' d' s':ByteArray} (h:bI a b r c d s=true) (h2:bI a' b' r' c' d' s'=true):fU a b r c d s a' b' r' c' d' s'=decide (I4 a b r c d s a' b' r' c' d' s' < 0):=by
 rw [tF h h2,I4,uP,Go.ByteArray.toList_eq,Go.ByteArray.toList_eq]
theorem nD (a b r c d s a' b' r' c' d' s':bH) (w:af) (ha:a.size≤maxLen) (hb:b.size≤maxLen) (hr:r.size≤maxLen) (hc:c.size≤maxLen) (hd:d.size≤maxLen) (hs:s.size≤maxLen) (ga:a'.size≤maxLen) (gb:b'.size≤maxLen) (gr:r'.size≤maxLen) (gc:c'.size≤maxLen) (gd:d'.size≤maxLen) (gs:s'.size≤maxLen) :
  Calls prog 137 #[.agg #[.string a,.string b,.string r,.string c,.string d,.string s],.agg #[.string a',.string b',.string r',.string c',.string d',.string s']] w fun e w'=>e=.returned (.bool (fU a b r c d s a' b' r' c' d' s'))∧ag w w':=by
 have H0:=RD a b r c d s a' b' r' c' d' s' w _ rfl;by_cases h1:bI a b r c d s=true
 ·by_cases h2:bI a' b' r' c' d' s'=true
  ·have HT:Hid (fU a b r c d s a' b' r' c' d' s'=_):=tF h1 h2;go_enter func137,ntmps137;go_wp2_with fail
   go_region_held3 (fun w'=>w'.cell? ⟨w.heap.size,0,none⟩=some (.string a)∧w'.cell? ⟨w.heap.size,1,none⟩=some (.string b)∧w'.cell? ⟨w.heap.size,2,none⟩=some (.string r)∧w'.cell? ⟨w.heap.size,3,none⟩=some (.string c)∧w'.cell? ⟨w.heap.size,4,none⟩=some (.string d)∧w'.cell? ⟨w.heap.size,5,none⟩=some (.string s)∧w'.cell? ⟨w.heap.size + 1,0,none⟩=some (.string a')∧w'.cell? ⟨w.heap.size + 1,1,none⟩=some (.string b')∧w'.cell? ⟨w.heap.size + 1,2,none⟩=some (.string r')∧w'.cell? ⟨w.heap.size + 1,3,none⟩=some (.string c')∧w'.cell? ⟨w.heap.size + 1,4,none⟩=some (.string d')∧w'.cell? ⟨w.heap.size + 1,5,none⟩=some (.string s')∧w.heap.size < w'.heap.size∧w.heap.size + 1 < w'.heap.size∧ag w w')
    (first | assumption | exact I1 (TS _) (by assumption) hbx | exact H0)
    (first | (go_at_call_of 127 (Value.agg #[.string a,.string b,.string r,.string c,.string d,.string s]); refine (dY a b r c d s _ ha hb hr hc hd hs).mono ?_; rintro e w' ⟨he,hbx⟩; rw [h1] at he; subst he) | (go_at_call_of 127 (Value.agg #[.string a',.string b',.string r',.string c',.string d',.string s']); refine (dY a' b' r' c' d' s' _ ga gb gr gc gd gs).mono ?_; rintro e w' ⟨he,hbx⟩; rw [h2] at he; subst he) | (go_at_call 195; refine (yt _ _ _ _ _ _ _ (by assumption) (by assumption) (by assumption) (by assumption) (by assumption) (by assumption)).mono ?_; rintro e w' ⟨rfl,hbx⟩))
   rename_i hH;obtain ⟨-,-,-,-,-,-,-,-,-,-,-,-,-,-,gB⟩:=hH;clear H0;go_wp2;go_ret;exact ⟨ah HT.out.symm,gB⟩
  have h2':bI a' b' r' c' d' s'=false:=by simpa using h2
  have HT:Hid (fU a b r c d s a' b' r' c' d' s'=false):=Ak h2';clear h2;obtain ⟨u0,u1,u2,u3,u4,u5,u6,u7,u8,u9,u10,u11,un,um,uB⟩:=H0;go_enter func137,ntmps137;go_wp2_with fail
  go_region_with (first | (go_at_call_of 127 (Value.agg #[.string a,.string b,.string r,.string c,.string d,.string s]); refine (dY a b r c d s _ ha hb hr hc hd hs).mono ?_; rintro e w1 ⟨he,hbx⟩; rw [h1] at he; subst he; obtain ⟨k0,k1,k2,k3,k4,k5,k6,k7,k8,k9,k10,k11,kn,km,kB⟩:=I1 (TS _) ⟨u0,u1,u2,u3,u4,u5,u6,u7,u8,u9,u10,u11,un,um,uB⟩ hbx) | (go_at_call_of 127 (Value.agg #[.string a',.string b',.string r',.string c',.string d',.string s']); refine (dY a' b' r' c' d' s' _ ga gb gr gc gd gs).mono ?_; rintro e w2 ⟨he,hby⟩; rw [h2'] at he; subst he))
  all_goals clear u0 u1 u2 u3 u4 u5 u6 u7 u8 u9 u10 u11
  all_goals go_wp2
  all_goals go_ret
  all_goals exact ⟨ah HT.out.symm,kB.trans (hby.mono (by omega))⟩
 have h1':bI a b r c d s=false:=by simpa using h1
 have HT:Hid (fU a b r c d s a' b' r' c' d' s'=false):=Aj h1';clear h1;obtain ⟨u0,u1,u2,u3,u4,u5,u6,u7,u8,u9,u10,u11,un,um,uB⟩:=H0;go_enter func137,ntmps137;go_wp2_with fail
 go_region_with (go_at_call_of 127 (Value.agg #[.string a,.string b,.string r,.string c,.string d,.string s]); refine (dY a b r c d s _ ha hb hr hc hd hs).mono ?_; rintro e w1 ⟨he,hbx⟩; rw [h1'] at he; subst he)
 all_goals clear u0 u1 u2 u3 u4 u5 u6 u7 u8 u9 u10 u11
 all_goals go_wp2
 all_goals go_ret
 all_goals exact ⟨ah HT.out.symm,uB.trans (hbx.mono (by omega))⟩
theorem BG (a b r c d s a' b' r' c' d' s':bH) (w:af) (ha:a.size≤maxLen) (hb:b.size≤maxLen) (hr:r.size≤maxLen) (hc:c.size≤maxLen) (hd:d.size≤maxLen) (hs:s.size≤maxLen) (ga:a'.size≤maxLen) (gb:b'.size≤maxLen) (gr:r'.size≤maxLen) (gc:c'.size≤maxLen) (gd:d'.size≤maxLen) (gs:s'.size≤maxLen) :
  Calls prog 141 #[.agg #[.string a,.string b,.string r,.string c,.string d,.string s],.agg #[.string a',.string b',.string r',.string c',.string d',.string s']] w fun e w'=>e=.returned (.bool (fU a b r c d s a' b' r' c' d' s'))∧ag w w':=by
 by_cases h1:bI a b r c d s=true
 ·by_cases h2:bI a' b' r' c' d' s'=true
  ·have HT:Hid (fU a b r c d s a' b' r' c' d' s'=decide (I4 a b r c d s a' b' r' c' d' s' < 0)):=I5 h1 h2;go_enter func141,ntmps141;go_wp2_with fail;refine (gm _ _ _ _ _ _ _ ha hb hr hc hd hs).mono ?_;rintro e w1 ⟨rfl,hb1⟩;obtain ⟨hc1,hf1⟩:=jO hb1;have hz1:w.heap.size + 1 < w1.heap.size:=by have:=hb1.size; simp at this; omega
   have hy1:w.heap.size < w1.heap.size:=by omega
   have HB1:ag w w1:=(Ai _ _ _).trans (hb1.mono (by simp; omega));go_wp2_with fail;refine (gm _ _ _ _ _ _ _ ga gb gr gc gd gs).mono ?_;rintro e w2 ⟨rfl,hb2⟩;obtain ⟨hc2,hf2⟩:=jO hb2;have hz2:w.heap.size + 1 < w2.heap.size:=by have:=hb2.size; omega
   have hy2:w.heap.size < w2.heap.size:=by omega
   go_wp2_with fail;refine (uQ _ _ _ _ _ _ _ _ _ _ _ _ _ ha hb hr hc hd hs ga gb gr gc gd gs).mono ?_;rintro e w3 ⟨rfl,hb3⟩;go_wp2;go_ret;exact ⟨ah HT.out.symm,HB1.trans ((hb2.mono (by omega)).trans (hb3.mono (by omega)))⟩
  have h2':bI a' b' r' c' d' s'=false:=by simpa using h2
  have HT:Hid (fU a b r c d s a' b' r' c' d' s'=false):=Ak h2';clear h2;go_enter func141,ntmps141;go_wp2_with fail;refine (gm _ _ _ _ _ _ _ ha hb hr hc hd hs).mono ?_;rintro e w1 ⟨rfl,hb1⟩;obtain ⟨hc1,hf1⟩:=jO hb1;have hz1:w.heap.size + 1 < w1.heap.size:=by have:=hb1.size; simp at this; omega
  have hy1:w.heap.size < w1.heap.size:=by omega
  have HB1:ag w w1:=(Ai _ _ _).trans (hb1.mono (by simp; omega));go_wp2_with fail;refine (gm _ _ _ _ _ _ _ ga gb gr gc gd gs).mono ?_;rintro e w2 ⟨rfl,hb2⟩;go_wp2;go_ret;exact ⟨ah HT.out.symm,HB1.trans (hb2.mono (by omega))⟩
 have h1':bI a b r c d s=false:=by simpa using h1
 have HT:Hid (fU a b r c d s a' b' r' c' d' s'=false):=Aj h1';clear h1;go_enter func141,ntmps141;go_wp2_with fail;refine (gm _ _ _ _ _ _ _ ha hb hr hc hd hs).mono ?_;rintro e w1 ⟨rfl,hb1⟩;obtain ⟨hc1,hf1⟩:=jO hb1;have hz1:w.heap.size + 1 < w1.heap.size:=by have:=hb1.size; simp at this; omega
 have hy1:w.heap.size < w1.heap.size:=by omega
 have HB1:ag w w1:=(Ai _ _ _).trans (hb1.mono (by simp; omega));go_wp2;go_ret;exact ⟨ah HT.out.symm,HB1⟩
end Go.Proofs.YtajkkeikihhejaaGreat
namespace Go.Proofs.YtajkkeikihhejaaGreat
open Go.Sort
open Go.ChangeShapes Go.WideShapes Go.ChangeAt Go.RowKit
open Pl
attribute [local go_sem ↓] Go.wp_at_zero Go.wp_at_succ
def Tp.ok (t:Tp):Bool:=bI t.a t.b t.r t.c t.d t.s
def Tp.ahead (t u:Tp):Bool:=fU t.a t.b t.r t.c t.d t.s u.a u.b u.r u.c u.d u.s
def uR (ts:List Tp) (i:Nat):Bool:=match ts[i]? with
 | none=>true
 | some t=>t.ok && (match i with
  | 0=>true
  | j + 1=>match ts[j]? with
   | none=>true
   | some u=>u.ahead t)
def tH (ts:List Tp) (k:Nat):Bool:=(List.range k).all (uR ts)
def dJ (ts:List Tp):Bool:=decide (ts.length≤40) && tH ts ts.length
theorem rE (ts:List Tp) (k:Nat):tH ts (k + 1)=(tH ts k && uR ts k):=by simp [tH,List.range_succ]
theorem uS {ts:List Tp} {k:Nat} (hk:k < ts.length) (h:uR ts k=false):dJ ts=false:=by
 have:tH ts ts.length=false:=by
  unfold tH;rw [List.all_eq_false];exact ⟨k,by simpa using hk,by simp [h]⟩
 simp [dJ,this]
theorem wB {ts:List Tp} (h:0 < ts.length):uR ts 0=ts[0].ok:=by simp [uR,TY h]
theorem rF {ts:List Tp} {j:Nat} (h:j + 1 < ts.length):uR ts (j + 1)=(ts[j + 1].ok && ts[j].ahead ts[j + 1]):=by
 have h':j < ts.length:=by omega
 simp [uR,TY h,TY h']
theorem Kk {ts:List Tp} {k:Nat} (h:k < ts.length) (hn:ts[k].ok=false):uR ts k=false:=by
 simp [uR,TY h,hn]
theorem wC (b off cap:Nat) (ts:List Tp) (w:af) (hlen:ts.length≤maxLen) (hr:kL w b off ts) (hb:b < w.heap.size) (hf:∀ t ∈ ts,t.fits) :
    Calls prog 93 #[.slice (some ⟨b,off,none⟩) ts.length cap] w fun e w'=>e=.returned (.bool (dJ ts))∧ag w w':=by
  unfold maxLen at hlen;by_cases hbig:40 < ts.length
  · have HT:Hid (dJ ts=false):=by show _=_; simp [dJ]; omega
    go_enter func93,ntmps93;go_wp2;go_ret;exact ⟨ah HT.out.symm,TT _ _⟩
  · go_enter func93,ntmps93;go_wp2;go_loopw [3] (fun i wr=>∃ k:Nat,k≤ts.length∧i=.int .i64 k∧Hid (tH ts k=true)∧ag w wr) (fun i _=>ts.length - (intOf i).toNat);case atStart=>exact ⟨0,TW _,rfl,rfl,TT _ _⟩
    obtain ⟨k,hk,rfl,hu,hB⟩:=hrel;by_cases hlt:k < ts.length
    · have Xz:=pV (hr.below hB hb);have UL:=pV hf;obtain ⟨t0,t1,t2,t3,t4,t5⟩:=Xz.out k hlt;have hk1:=bB k;have hk2:(k:Int) < (ts.length:Int):=by omega
      clear hr hf;have c0:=cell_regrown t0;have c1:=cell_regrown t1;have c2:=cell_regrown t2;have c3:=cell_regrown t3;have c4:=cell_regrown t4;have c5:=cell_regrown t5;have Ve:Hid (∀ d os,ag w (grow (redrawn wr d) os)):=fun d os=>hB.trans ((below_regrown wr d os).mono hB.size);clear t0 t1 t2 t3 t4 t5;go_wp2_with fail;have WZ:Hid (∀ d os,Calls prog 127 #[.agg #[.string ts[k].a,.string ts[k].b,.string ts[k].r,.string ts[k].c,.string ts[k].d,.string ts[k].s]] (grow (redrawn wr d) os) fun e w''=>e=.returned (.bool ts[k].ok)∧∃ p:Regrown,w''=grow (redrawn wr p.d) p.os):=by
        obtain ⟨f0,f1,f2,f3,f4,f5⟩:=UL.out ts[k] (TQ hlt);exact dm fun W' _=>dY _ _ _ _ _ _ _ f0 f1 f2 f3 f4 f5
      cases hok:ts[k].ok;case false=>
        have HT:Hid (dJ ts=false):=uS hlt (Kk hlt hok);rw [hok] at WZ;clear hok;refine wp_region_quiet_below (by kernel_rfl) (by kernel_rfl) ?_
        repeat (go_big_quiet_step (exact WZ.out _ _))
        refine wpQuiet_nil ?_;rintro _ ⟨⟨dq,osq⟩,rfl⟩;go_wp2;go_ret;exact ⟨ah HT.out.symm,Ve.out dq osq⟩
      rw [hok] at WZ;by_cases hz:k=0
      · have HU:Hid (tH ts (k + 1)=true):=by show _=_; rw [rE,hu.out]; subst hz; rw [wB hlt,hok]; rfl
        have hk8:decide ((0:Int) < (k:Int))=false:=by simp; omega
        have hk9:decide (0 < k)=false:=by simp; omega
        clear hok hz;refine wp_region_quiet_below (by kernel_rfl) (by kernel_rfl) ?_
        repeat (go_big_quiet_step (exact WZ.out _ _))
        refine wpQuiet_nil ?_;rintro _ ⟨⟨dq,osq⟩,rfl⟩;go_wp2;go_roundw;case rel=>exact ⟨k + 1,by omega,by go_num,HU,Ve.out dq osq⟩
        simp [intOf]; omega
      · obtain ⟨m,hm⟩:∃ m:Nat,k=m + 1:=⟨k - 1,by omega⟩;have U6:m < ts.length:=by omega
        obtain ⟨q0,q1,q2,q3,q4,q5⟩:=Xz.out m U6;replace q0:=cell_regrown q0;replace q1:=cell_regrown q1;replace q2:=cell_regrown q2;replace q3:=cell_regrown q3;replace q4:=cell_regrown q4;replace q5:=cell_regrown q5;have hkm:(k:Int) - 1=(m:Int):=by omega
        have hm1:=bB m;have hm2:(m:Int) < (ts.length:Int):=by omega
        have hpos:(0:Int) < (k:Int):=by omega
        have hposN:0 < k:=by omega
        have hwm:IntKind.i64.wrap (m:Int)=(m:Int):=by rw [IntKind.wrap_i64]; omega
        have HA:Hid (uR ts k=ts[m].ahead ts[k]):=by show _=_; subst hm; rw [rF hlt,hok]; rfl
        have YH:Hid (∀ d os,Calls prog 137 #[.agg #[.string ts[m].a,.string ts[m].b,.string ts[m].r,.string ts[m].c,.string ts[m].d,.string ts[m].s],.agg #[.string ts[k].a,.string ts[k].b,.string ts[k].r,.string ts[k].c,.string ts[k].d,.string ts[k].s]] (grow (redrawn wr d) os) fun e w''=>e=.returned (.bool (ts[m].ahead ts[k]))∧∃ p:Regrown,w''=grow (redrawn wr p.d) p.os):=by
          obtain ⟨f0,f1,f2,f3,f4,f5⟩:=UL.out ts[k] (TQ hlt);obtain ⟨g0,g1,g2,g3,g4,g5⟩:=UL.out ts[m] (TQ U6);exact dm fun W' _=>nD _ _ _ _ _ _ _ _ _ _ _ _ _ g0 g1 g2 g3 g4 g5 f0 f1 f2 f3 f4 f5
        clear hm hz hok;cases ha:ts[m].ahead ts[k];case false=>
          have HT:Hid (dJ ts=false):=uS hlt (by rw [HA.out,ha]);rw [ha] at YH;clear ha HA;refine wp_region_quiet_below (by kernel_rfl) (by kernel_rfl) ?_
          repeat (go_big_quiet_step (first | exact WZ.out _ _ | exact YH.out _ _))
          refine wpQuiet_nil ?_;rintro _ ⟨⟨dq,osq⟩,rfl⟩;go_wp2;go_ret;exact ⟨ah HT.out.symm,Ve.out dq osq⟩
        have HU:Hid (tH ts (k + 1)=true):=by show _=_; rw [rE,hu.out,HA.out,ha]; rfl
        rw [ha] at YH;clear ha HA;refine wp_region_quiet_below (by kernel_rfl) (by kernel_rfl) ?_
        repeat (go_big_quiet_step (first | exact WZ.out _ _ | exact YH.out _ _))
        refine wpQuiet_nil ?_;rintro _ ⟨⟨dq,osq⟩,rfl⟩;go_wp2;go_roundw;case rel=>exact ⟨k + 1,by omega,by go_num,HU,Ve.out dq osq⟩
        simp [intOf]; omega
    · go_wp2;go_ret;exact ⟨ah (by have e:k=ts.length:=(by omega);subst e;simp [dJ,hu.out]; omega),hB⟩
end Go.Proofs.YtajkkeikihhejaaGreat
