/- Contracts of the law's helpers that weigh a schema: what is left and what was counted are no more than there was. -/
import Derived.Test.YtdaoiceeidoehaaGreatToOwn
import Derived.OpenShut
import Derived.ShutString
import Derived.ChangeOld
import Derived.Lib.SmallJoins
import Derived.ChangeSlices
import Derived.Deep.Slices
open Go.Proofs.Tryz
set_option maxHeartbeats 80000000
namespace Go.Proofs.YtdaoiceeidoehaaGreat
open Go.ChangeShapes Go.WideShapes Go.ChangeAt Go.RowKit
open Pl
def cX (e:Ex):Nat:=e.allow.length + e.kids.length
def sX:List ER→Nat
 | []=>0
 | r::rs=>cX r.e + sX rs
def sR:List RR→Nat
 | []=>0
 | r::rs=>(r.rows.length + sX r.rows) + sR rs
def sT:List TR→Nat
 | []=>0
 | r::rs=>(r.rows.length + sR r.rows) + sT rs
theorem yE:∀ xs ys:List ER,sX (xs ++ ys)=sX xs + sX ys
 | [],ys=>by simp [sX]
 | x::xs,ys=>by rw [List.cons_append]; simp only [sX]; rw [yE xs ys]; omega
theorem KF (rs:List ER) (j:Nat) (h:j < rs.length):sX (rs.take (j + 1))=sX (rs.take j) + cX rs[j].e:=by
 rw [List.take_succ_eq_append_getElem h,yE]; simp [sX]
theorem yF:∀ xs ys:List RR,sR (xs ++ ys)=sR xs + sR ys
 | [],ys=>by simp [sR]
 | x::xs,ys=>by rw [List.cons_append]; simp only [sR]; rw [yF xs ys]; omega
theorem KG (rs:List RR) (j:Nat) (h:j < rs.length):sR (rs.take (j + 1))=sR (rs.take j) + (rs[j].rows.length + sX rs[j].rows):=by
 rw [List.take_succ_eq_append_getElem h,yF]; simp [sR]
theorem yG:∀ xs ys:List TR,sT (xs ++ ys)=sT xs + sT ys
 | [],ys=>by simp [sT]
 | x::xs,ys=>by rw [List.cons_append]; simp only [sT]; rw [yG xs ys]; omega
theorem KH (rs:List TR) (j:Nat) (h:j < rs.length):sT (rs.take (j + 1))=sT (rs.take j) + (rs[j].rows.length + sR rs[j].rows):=by
 rw [List.take_succ_eq_append_getElem h,yG]; simp [sT]
theorem Es (ad:Option Addr) (len cap:Nat) (left:Int) (w:World) (hl:len≤maxLen) (h0:0≤left) (h1:left≤1048576) :
  Calls prog 157 #[.slice ad len cap,.int .i64 left] w fun e w'=>(∃ n:Int,e=.returned (.int .i64 n)∧(n=-1 ∨ 0≤n∧n + len≤left∧(len:Int)≤left))∧w'=w:=by
 unfold maxLen at hl;by_cases hneg:left - len < 0
 ·go_enter func157,ntmps157;go_wp2;go_ret;exact ⟨⟨-1,rfl,.inl rfl⟩,rfl⟩
 ·go_enter func157,ntmps157;go_wp2;go_ret;exact ⟨⟨_,rfl,.inr ⟨by omega,by omega,by omega⟩⟩,rfl⟩
theorem zY (ad:Option Addr) (cap:Nat) (xs:List Al) (left:Int) (w:World) (hlen:xs.length≤maxLen) (hs:fV w ad xs) (hf:∀ a ∈ xs,a.fits) (h0:0≤left) (h1:left≤1048576) :
  Calls prog 156 #[.slice ad xs.length cap,.int .i64 left] w fun e w'=>(∃ n:Int,e=.returned (.int .i64 n)∧(n=-1 ∨ 0≤n∧n + xs.length≤left∧(xs.length:Int)≤left))∧Below w.heap.size w w':=by
 unfold maxLen at hlen;by_cases hneg:left - xs.length < 0
 ·go_enter func156,ntmps156;go_wp2;go_ret;exact ⟨⟨-1,rfl,.inl rfl⟩,Below.refl _ _⟩
 ·go_enter func156,ntmps156;go_wp2;go_loopw [1,5] (fun l i wr=>∃ (k:Nat) (x:Int),k≤xs.length∧i=.int .i64 k∧l=.int .i64 x∧0≤x∧x + xs.length≤left∧Below w.heap.size w wr) (fun _ i _=>xs.length - (intOf i).toNat);case atStart=>exact ⟨0,_,Nat.zero_le _,rfl,rfl,by omega,by omega,Below.refl _ _⟩
  case round =>
   obtain ⟨k,x,hk,rfl,rfl,hx0,hx1,hB⟩:=hrel;by_cases hlt:k < xs.length
   ·rcases hs.below hB with rfl | ⟨b,off,rfl,hb,hr⟩
    ·simp at hlt
    obtain ⟨t0,t1⟩:=hr k hlt;obtain ⟨f0,f1⟩:=hf xs[k] (List.getElem_mem hlt);clear hr hs;go_wp2_with fail;refine (wB _ _ _ _ f0 f1 hx0 (by omega)).mono ?_;rintro e w1 ⟨⟨n,rfl,hn⟩,hb1⟩;rcases hn with rfl | ⟨hn0,hn1⟩
    ·go_wp2;go_ret;exact ⟨⟨-1,rfl,.inl rfl⟩,hB.trans (hb1.mono hB.size)⟩
    ·go_wp2;go_roundw;case rel=>exact ⟨k + 1,_,by omega,by go_num,rfl,by omega,by omega,hB.trans (hb1.mono hB.size)⟩
     case measure=>simp [intOf]; omega
   ·go_wp2;go_ret;exact ⟨⟨x,rfl,.inr ⟨hx0,hx1,by omega⟩⟩,hB⟩
theorem JC (r:ER) (left:Int) (w:World) (hr:r.ok w) (hf:r.e.fits) (h0:0≤left) (h1:left≤1048576) :
  Calls prog 138 #[r.val,.int .i64 left] w fun e w'=>(∃ n:Int,e=.returned (.int .i64 n)∧(n=-1 ∨ 0≤n∧n + (cX r.e:Nat)≤left∧r.e.light))∧Below w.heap.size w w':=by
 obtain ⟨⟨kind,allow,over,name,kids⟩,adA,capA,adK,capK⟩:=r;obtain ⟨hA,hK⟩:=hr;obtain ⟨f1,f2,f3,f4,f5⟩:=hf;simp only at hA hK f1 f2 f3 f4 f5;have g2:=f2;have g3:=f3;unfold maxLen at g2 g3;simp only [ER.val,Ex.light,cX];have HB:Hid (Below w.heap.size w (w.alloc (.cells #[.int .i64 kind,.slice adA allow.length capA,.string over,.string name,.slice adK kids.length capK] 230))):=(Below.refl w.heap.size w).alloc (Nat.le_refl _) _;go_enter func138,ntmps138;go_wp2_with fail;refine (zY adA capA allow left _ f4 (hA.below HB.out) f1 h0 h1).mono ?_;rintro e w1 ⟨⟨n,rfl,hn⟩,hb1⟩;have HB1:=fK HB hb1;have c2:w1.cell? ⟨w.heap.size,2,none⟩=some (.string over):=by rw [hb1.cell (p:=⟨w.heap.size,2,none⟩) (by simp)]; simp
 have c3:w1.cell? ⟨w.heap.size,3,none⟩=some (.string name):=by rw [hb1.cell (p:=⟨w.heap.size,3,none⟩) (by simp)]; simp
 have c4:w1.cell? ⟨w.heap.size,4,none⟩=some (.slice adK kids.length capK):=by rw [hb1.cell (p:=⟨w.heap.size,4,none⟩) (by simp)]; simp
 clear hb1 HB;rcases hn with rfl | ⟨hn0,hn1,hn2⟩
 ·go_wp2;go_ret;exact ⟨⟨-1,rfl,.inl rfl⟩,HB1.out⟩
 by_cases h3:n - over.size < 0
 ·go_wp2;go_ret;exact ⟨⟨-1,rfl,.inl rfl⟩,HB1.out⟩
 by_cases h4:n - over.size - name.size < 0
 ·go_wp2;go_ret;exact ⟨⟨-1,rfl,.inl rfl⟩,HB1.out⟩
 go_wp2_with fail;refine (Es adK kids.length capK _ _ f5 (by omega) (by omega)).mono ?_;rintro e w2 ⟨⟨n2,rfl,hm⟩,rfl⟩;rcases hm with rfl | ⟨hm0,hm1,hm2⟩
 ·go_wp2;go_ret;exact ⟨⟨-1,rfl,.inl rfl⟩,HB1.out⟩
 ·go_wp2;go_ret;exact ⟨⟨n2,rfl,.inr ⟨hm0,by omega,by omega,by omega⟩⟩,HB1.out⟩
theorem GL (ad:Option Addr) (cap:Nat) (rs:List ER) (left:Int) (w:World) (hlen:rs.length≤maxLen) (hs:dw w ad rs) (hf:∀ r ∈ rs,r.e.fits) (h0:0≤left) (h1:left≤1048576) :
  Calls prog 107 #[.slice ad rs.length cap,.int .i64 left] w fun e w'=>(∃ n:Int,e=.returned (.int .i64 n)∧(n=-1 ∨ 0≤n∧n + (rs.length + sX rs:Nat)≤left∧(rs.length:Int)≤left∧∀ r ∈ rs,r.e.light))∧Below w.heap.size w w':=by
 unfold maxLen at hlen;by_cases hneg:left - rs.length < 0
 ·go_enter func107,ntmps107;go_wp2;go_ret;exact ⟨⟨-1,rfl,.inl rfl⟩,Below.refl _ _⟩
 ·go_enter func107,ntmps107;go_wp2;go_loopw [1,5] (fun l i wr=>∃ (k:Nat) (x:Int),k≤rs.length∧i=.int .i64 k∧l=.int .i64 x∧0≤x∧x + (rs.length + sX (rs.take k):Nat)≤left∧Hid (∀ r ∈ rs.take k,r.e.light)∧Below w.heap.size w wr) (fun _ i _=>rs.length - (intOf i).toNat);case atStart=>exact ⟨0,_,Nat.zero_le _,rfl,rfl,by omega,by simp only [List.take_zero,sX]; omega,(by intro r hr; simp at hr),Below.refl _ _⟩
  case round =>
   obtain ⟨k,x,hk,rfl,rfl,hx0,hx1,HL,hB⟩:=hrel;by_cases hlt:k < rs.length
   ·rcases hs.below hB with rfl | ⟨b,off,rfl,hb,hr,hok⟩
    ·simp at hlt
    obtain ⟨t0,t1,t2,t3,t4⟩:=hr k hlt;have ok:=hok rs[k] (List.getElem_mem hlt);have ft:=hf rs[k] (List.getElem_mem hlt);clear hr hs hok;go_wp2_with fail;refine (JC rs[k] x _ ok ft hx0 (by omega)).mono ?_;rintro e w1 ⟨⟨n,rfl,hn⟩,hb1⟩;have HST:Hid (sX (rs.take (k + 1))=_):=KF rs k hlt;rcases hn with rfl | ⟨hn0,hn1,hn2⟩
    ·go_wp2;go_ret;exact ⟨⟨-1,rfl,.inl rfl⟩,hB.trans (hb1.mono hB.size)⟩
    ·have HL2:Hid (∀ r ∈ rs.take (k + 1),r.e.light):=by
      intro r hr;rw [List.take_succ_eq_append_getElem hlt,List.mem_append,List.mem_singleton] at hr;rcases hr with hr | rfl
      ·exact HL.out r hr
      ·exact hn2
     clear hn2 ok ft;go_wp2;go_roundw;case rel=>exact ⟨k + 1,_,by omega,by go_num,rfl,by omega,by rw [HST.out]; omega,HL2,hB.trans (hb1.mono hB.size)⟩
     case measure=>simp [intOf]; omega
   ·have HX1:Hid (x + (rs.length + sX rs:Nat)≤left):=by have:=hx1; rw [List.take_of_length_le (by omega)] at this; exact this
    have HL2:Hid (∀ r ∈ rs,r.e.light):=fun r hr=>HL.out r (by rw [List.take_of_length_le (by omega)]; exact hr);go_wp2;go_ret;exact ⟨⟨x,rfl,.inr ⟨hx0,HX1.out,by omega,HL2.out⟩⟩,hB⟩
theorem zZ (r:RR) (left:Int) (w:World) (hr:r.ok w) (hf:r.fits) (h0:0≤left) (h1:left≤1048576) :
  Calls prog 77 #[r.val,.int .i64 left] w fun e w'=>(∃ n:Int,e=.returned (.int .i64 n)∧(n=-1 ∨ 0≤n∧n + (r.rows.length + sX r.rows:Nat)≤left∧r.light))∧Below w.heap.size w w':=by
 obtain ⟨name,rows,ad,cap⟩:=r;obtain ⟨f1,f2,f3⟩:=hf;have HO:Hid (dw w ad rows):=hr;have HF:Hid (∀ q ∈ rows,q.e.fits):=f3;simp only at f1 f2;have g1:=f1;unfold maxLen at g1;simp only [RR.val,RR.light];clear hr f3;have HB:Hid (Below w.heap.size w (w.alloc (.cells #[.string name,.slice ad rows.length cap] 157))):=(Below.refl w.heap.size w).alloc (Nat.le_refl _) _;by_cases h3:left - name.size < 0
 ·go_enter func77,ntmps77;go_wp2;go_ret;exact ⟨⟨-1,rfl,.inl rfl⟩,HB.out⟩
 go_enter func77,ntmps77;go_wp2_with fail;refine (GL ad cap rows _ _ f2 (dw.below HO.out HB.out) HF.out (by omega) (by omega)).mono ?_;rintro e w1 ⟨⟨n,rfl,hn⟩,hb1⟩;have HB1:=fK HB hb1;clear hb1 HB;rcases hn with rfl | ⟨hn0,hn1,hn2,hn3⟩
 ·go_wp2;go_ret;exact ⟨⟨-1,rfl,.inl rfl⟩,HB1.out⟩
 ·have HL:Hid (∀ q ∈ rows,q.e.light):=hn3;clear hn3;go_wp2;go_ret;exact ⟨⟨n,rfl,.inr ⟨hn0,by omega,by omega,HL.out⟩⟩,HB1.out⟩
theorem wS (ad:Option Addr) (cap:Nat) (rs:List RR) (left:Int) (w:World) (hlen:rs.length≤maxLen) (hs:oL w ad rs) (hf:∀ r ∈ rs,r.fits) (h0:0≤left) (h1:left≤1048576) :
  Calls prog 51 #[.slice ad rs.length cap,.int .i64 left] w fun e w'=>(∃ n:Int,e=.returned (.int .i64 n)∧(n=-1 ∨ 0≤n∧n + (rs.length + sR rs:Nat)≤left∧(rs.length:Int)≤left∧∀ r ∈ rs,r.light))∧Below w.heap.size w w':=by
 unfold maxLen at hlen;by_cases hneg:left - rs.length < 0
 ·go_enter func51,ntmps51;go_wp2;go_ret;exact ⟨⟨-1,rfl,.inl rfl⟩,Below.refl _ _⟩
 ·go_enter func51,ntmps51;go_wp2;go_loopw [1,5] (fun l i wr=>∃ (k:Nat) (x:Int),k≤rs.length∧i=.int .i64 k∧l=.int .i64 x∧0≤x∧x + (rs.length + sR (rs.take k):Nat)≤left∧Hid (∀ r ∈ rs.take k,r.light)∧Below w.heap.size w wr) (fun _ i _=>rs.length - (intOf i).toNat);case atStart=>exact ⟨0,_,Nat.zero_le _,rfl,rfl,by omega,by simp only [List.take_zero,sR]; omega,(by intro r hr; simp at hr),Below.refl _ _⟩
  case round =>
   obtain ⟨k,x,hk,rfl,rfl,hx0,hx1,HL,hB⟩:=hrel;by_cases hlt:k < rs.length
   ·rcases hs.below hB with rfl | ⟨b,off,rfl,hb,hr,hok⟩
    ·simp at hlt
    obtain ⟨t0,t1⟩:=hr k hlt;have ok:=hok rs[k] (List.getElem_mem hlt);have ft:=hf rs[k] (List.getElem_mem hlt);clear hr hs hok;go_wp2_with fail;refine (zZ rs[k] x _ ok ft hx0 (by omega)).mono ?_;rintro e w1 ⟨⟨n,rfl,hn⟩,hb1⟩;have HST:Hid (sR (rs.take (k + 1))=_):=KG rs k hlt;rcases hn with rfl | ⟨hn0,hn1,hn2⟩
    ·go_wp2;go_ret;exact ⟨⟨-1,rfl,.inl rfl⟩,hB.trans (hb1.mono hB.size)⟩
    ·have HL2:Hid (∀ r ∈ rs.take (k + 1),r.light):=by
      intro r hr;rw [List.take_succ_eq_append_getElem hlt,List.mem_append,List.mem_singleton] at hr;rcases hr with hr | rfl
      ·exact HL.out r hr
      ·exact hn2
     clear hn2 ok ft;go_wp2;go_roundw;case rel=>exact ⟨k + 1,_,by omega,by go_num,rfl,by omega,by rw [HST.out]; omega,HL2,hB.trans (hb1.mono hB.size)⟩
     case measure=>simp [intOf]; omega
   ·have HX1:Hid (x + (rs.length + sR rs:Nat)≤left):=by have:=hx1; rw [List.take_of_length_le (by omega)] at this; exact this
    have HL2:Hid (∀ r ∈ rs,r.light):=fun r hr=>HL.out r (by rw [List.take_of_length_le (by omega)]; exact hr);go_wp2;go_ret;exact ⟨⟨x,rfl,.inr ⟨hx0,HX1.out,by omega,HL2.out⟩⟩,hB⟩
theorem JD (r:TR) (left:Int) (w:World) (hr:r.ok w) (hf:r.fits) (h0:0≤left) (h1:left≤1048576) :
  Calls prog 27 #[r.val,.int .i64 left] w fun e w'=>(∃ n:Int,e=.returned (.int .i64 n)∧(n=-1 ∨ 0≤n∧n + (r.rows.length + sR r.rows:Nat)≤left∧r.light))∧Below w.heap.size w w':=by
 obtain ⟨name,rows,ad,cap⟩:=r;obtain ⟨f1,f2,f3⟩:=hf;have HO:Hid (oL w ad rows):=hr;have HF:Hid (∀ q ∈ rows,q.fits):=f3;simp only at f1 f2;have g1:=f1;unfold maxLen at g1;simp only [TR.val,TR.light];clear hr f3;have HB:Hid (Below w.heap.size w (w.alloc (.cells #[.string name,.slice ad rows.length cap] 59))):=(Below.refl w.heap.size w).alloc (Nat.le_refl _) _;by_cases h3:left - name.size < 0
 ·go_enter func27,ntmps27;go_wp2;go_ret;exact ⟨⟨-1,rfl,.inl rfl⟩,HB.out⟩
 go_enter func27,ntmps27;go_wp2_with fail;refine (wS ad cap rows _ _ f2 (oL.below HO.out HB.out) HF.out (by omega) (by omega)).mono ?_;rintro e w1 ⟨⟨n,rfl,hn⟩,hb1⟩;have HB1:=fK HB hb1;clear hb1 HB;rcases hn with rfl | ⟨hn0,hn1,hn2,hn3⟩
 ·go_wp2;go_ret;exact ⟨⟨-1,rfl,.inl rfl⟩,HB1.out⟩
 ·have HL:Hid (∀ q ∈ rows,q.light):=hn3;clear hn3;go_wp2;go_ret;exact ⟨⟨n,rfl,.inr ⟨hn0,by omega,by omega,HL.out⟩⟩,HB1.out⟩
theorem GM (ad:Option Addr) (cap:Nat) (rs:List TR) (left:Int) (w:World) (hlen:rs.length≤maxLen) (hs:eY w ad rs) (hf:∀ r ∈ rs,r.fits) (h0:0≤left) (h1:left≤1048576) :
  Calls prog 6 #[.slice ad rs.length cap,.int .i64 left] w fun e w'=>(∃ n:Int,e=.returned (.int .i64 n)∧(n=-1 ∨ 0≤n∧n + (rs.length + sT rs:Nat)≤left∧(rs.length:Int)≤left∧∀ r ∈ rs,r.light))∧Below w.heap.size w w':=by
 unfold maxLen at hlen;by_cases hneg:left - rs.length < 0
 ·go_enter func6,ntmps6;go_wp2;go_ret;exact ⟨⟨-1,rfl,.inl rfl⟩,Below.refl _ _⟩
 ·go_enter func6,ntmps6;go_wp2;go_loopw [1,5] (fun l i wr=>∃ (k:Nat) (x:Int),k≤rs.length∧i=.int .i64 k∧l=.int .i64 x∧0≤x∧x + (rs.length + sT (rs.take k):Nat)≤left∧Hid (∀ r ∈ rs.take k,r.light)∧Below w.heap.size w wr) (fun _ i _=>rs.length - (intOf i).toNat);case atStart=>exact ⟨0,_,Nat.zero_le _,rfl,rfl,by omega,by simp only [List.take_zero,sT]; omega,(by intro r hr; simp at hr),Below.refl _ _⟩
  case round =>
   obtain ⟨k,x,hk,rfl,rfl,hx0,hx1,HL,hB⟩:=hrel;by_cases hlt:k < rs.length
   ·rcases hs.below hB with rfl | ⟨b,off,rfl,hb,hr,hok⟩
    ·simp at hlt
    obtain ⟨t0,t1⟩:=hr k hlt;have ok:=hok rs[k] (List.getElem_mem hlt);have ft:=hf rs[k] (List.getElem_mem hlt);clear hr hs hok;go_wp2_with fail;refine (JD rs[k] x _ ok ft hx0 (by omega)).mono ?_;rintro e w1 ⟨⟨n,rfl,hn⟩,hb1⟩;have HST:Hid (sT (rs.take (k + 1))=_):=KH rs k hlt;rcases hn with rfl | ⟨hn0,hn1,hn2⟩
    ·go_wp2;go_ret;exact ⟨⟨-1,rfl,.inl rfl⟩,hB.trans (hb1.mono hB.size)⟩
    ·have HL2:Hid (∀ r ∈ rs.take (k + 1),r.light):=by
      intro r hr;rw [List.take_succ_eq_append_getElem hlt,List.mem_append,List.mem_singleton] at hr;rcases hr with hr | rfl
      ·exact HL.out r hr
      ·exact hn2
     clear hn2 ok ft;go_wp2;go_roundw;case rel=>exact ⟨k + 1,_,by omega,by go_num,rfl,by omega,by rw [HST.out]; omega,HL2,hB.trans (hb1.mono hB.size)⟩
     case measure=>simp [intOf]; omega
   ·have HX1:Hid (x + (rs.length + sT rs:Nat)≤left):=by have:=hx1; rw [List.take_of_length_le (by omega)] at this; exact this
    have HL2:Hid (∀ r ∈ rs,r.light):=fun r hr=>HL.out r (by rw [List.take_of_length_le (by omega)]; exact hr);go_wp2;go_ret;exact ⟨⟨x,rfl,.inr ⟨hx0,HX1.out,by omega,HL2.out⟩⟩,hB⟩
open Go.Deep Go.Joins
theorem j6 (b off x:Nat):(⟨b,off,none⟩:Addr).add x=⟨b,off + x,none⟩:=by
 unfold Addr.add;by_cases h:x=0
 ·subst h; simp
 ·simp [h]
theorem nu:prog.cellsOf 9=1:=by kernel_rfl
theorem Cq:prog.cellsOf 2=1:=by kernel_rfl
theorem Fe:prog.cellsOf 260=2:=by kernel_rfl
theorem JE:prog.cellsOf 228=1:=by kernel_rfl
theorem JF:prog.cellsOf 164=1:=by kernel_rfl
theorem Ff:prog.cellsOf 230=5:=by kernel_rfl
section
variable {H:Type} {enc:TypeId × Value→H} {W:World} {base:Nat} {sp:Nat→Bool} {held:Bool}
theorem z8 {P:Program} {w:World} {t:TypeId} {f0 f1 f2 f3 f4:Field} {fuel:Nat} {cs:List Value} {x:DataW H × List MemPlace} (ht:P.underlying t=some (.struct #[f0,f1,f2,f3,f4])) (h:DataW.trod enc P w base sp held fuel t cs=some x) :
  ∃ (y0 y1 y2 y3 y4:DataW H × List MemPlace) (n:Nat),cs.length=P.cellsOf t ∧
   DataW.trod enc P w base sp held n f0.type ((cs.drop f0.offset).take (P.cellsOf f0.type))=some y0 ∧
   DataW.trod enc P w base sp held n f1.type ((cs.drop f1.offset).take (P.cellsOf f1.type))=some y1 ∧
   DataW.trod enc P w base sp held n f2.type ((cs.drop f2.offset).take (P.cellsOf f2.type))=some y2 ∧
   DataW.trod enc P w base sp held n f3.type ((cs.drop f3.offset).take (P.cellsOf f3.type))=some y3 ∧
   DataW.trod enc P w base sp held n f4.type ((cs.drop f4.offset).take (P.cellsOf f4.type))=some y4:=by
 obtain ⟨xs,n,_,rfl,hl,hlen,hf⟩:=DataW.trod_struct ht h
 match xs,hlen with
 | [y0,y1,y2,y3,y4],_=>exact ⟨y0,y1,y2,y3,y4,n,hl,by simpa using hf 0 f0 rfl,by simpa using hf 1 f1 rfl,by simpa using hf 2 f2 rfl,by simpa using hf 3 f3 rfl,by simpa using hf 4 f4 rfl⟩
set_option maxRecDepth 100000 in
theorem KI {fuel:Nat} {cs:List Value} {x:DataW H × List MemPlace} (h:DataW.trod enc prog W base sp held fuel 260 cs=some x):∃ a:Al,cs=[.string a.t,.string a.s]∧a.fits:=by
 obtain ⟨y0,y1,n,-,hl,h0,h1⟩:=trod_struct2 underlying260 h;rw [Fe] at hl
 match cs,hl with
 | [c0,c1],_ =>
  simp only [nu,List.drop_zero,List.drop_succ_cons,List.take_succ_cons,List.take_zero] at h0 h1;obtain ⟨a,e0,-,wa⟩:=DataW.trod_string underlying9 h0;obtain ⟨b,e1,-,wb⟩:=DataW.trod_string underlying9 h1;simp at e0 e1;subst e0 e1;exact ⟨⟨a,b⟩,rfl,wa,wb⟩
theorem JG {fuel:Nat} {cs:List Value} {x:DataW H × List MemPlace} (h:DataW.trod enc prog W base sp held fuel 228 cs=some x) :
  ∃ (ad:Option Addr) (cap:Nat) (xs:List Al),cs=[.slice ad xs.length cap]∧fV W ad xs∧(∀ a ∈ xs,a.fits)∧xs.length≤maxLen:=by
 rcases open_slice underlying228 h with ⟨hcs,-⟩ | ⟨a,len,cap,m,n,D,Pl,hcs,-,hlc,hcm,hm,-,hel⟩
 ·exact ⟨none,0,[],hcs,.inl rfl,(fun a ha=>by cases ha),by unfold maxLen; simp⟩
 ·have hle:len≤m:=by rw [hm]; split <;> omega
  by_cases h0:len=0
  ·subst h0;exact ⟨some a,cap,[],hcs,.inl rfl,(fun a ha=>by cases ha),by unfold maxLen; simp⟩
  have key:∀ i,i < len→∃ t:Al,(∀ j,j < 2→W.cell? ((a.add (i * 2)).add j)=[Value.string t.t,.string t.s][j]?)∧t.fits:=by
   intro i hi;obtain ⟨cs',hc,hd⟩:=hel i (by omega);rw [Fe] at hc;obtain ⟨t,rfl,hh⟩:=KI hd;exact ⟨t,fun j hj=>(World.cells?_some hc).2.2 j hj,hh⟩
  have hspot:a.spot=none:=by
   obtain ⟨t,ht,-⟩:=key 0 (by omega);have:=ht 0 (by omega);have e:(a.add (0 * 2)).add 0=a:=by simp [Addr.add]
   rw [e] at this;exact World.cell?_spot this
  obtain ⟨b,off,spot⟩:=a;simp only at hspot;subst hspot;obtain ⟨f,hf⟩:=@choose_lt Al ⟨⟨⟨#[]⟩,⟨#[]⟩⟩⟩ len _ key;have at2:∀ i,i < len→KO W b (off + i * 2) (f i):=by
   intro i hi;obtain ⟨hc,-⟩:=hf i hi;simp only [j6] at hc;exact ⟨hc 0 (by omega),hc 1 (by omega)⟩
  refine ⟨some ⟨b,off,none⟩,cap,(List.range len).map f,by simpa using hcs,.inr ⟨b,off,rfl,?_,?_⟩,?_,by simp; omega⟩
  ·exact World.block_lt_of_cell? W ⟨b,off + 0 * 2,none⟩ (at2 0 (by omega)).1
  ·intro i hi;have hi':i < len:=by simpa using hi
   simpa using at2 i hi'
  ·intro t ht;simp only [List.mem_map,List.mem_range] at ht;obtain ⟨i,hi,rfl⟩:=ht;exact (hf i hi).2
theorem GN {fuel:Nat} {cs:List Value} {x:DataW H × List MemPlace} (h:DataW.trod enc prog W base sp held fuel 164 cs=some x) :
  ∃ (ad:Option Addr) (cap:Nat) (zs:List Int),cs=[.slice ad zs.length cap]∧nA W ad zs∧zs.length≤maxLen:=by
 rcases open_ints underlying164 underlying2 Cq h with ⟨hcs,-⟩ | ⟨a,len,cap,zs,hcs,-,hlc,hcm,hm,-,hel,-⟩
 ·exact ⟨none,0,[],hcs,.inl rfl,by unfold maxLen; simp⟩
 ·have hle:len≤zs.length:=by rw [hm]; split <;> omega
  by_cases h0:len=0
  ·subst h0;exact ⟨some a,cap,[],hcs,.inl rfl,by unfold maxLen; simp⟩
  have hspot:a.spot=none:=by
   have:=hel 0 (by omega);have e:a.add 0=a:=by simp [Addr.add]
   rw [e] at this;exact World.cell?_spot this
  obtain ⟨b,off,spot⟩:=a;simp only at hspot;subst hspot;simp only [j6] at hel;have hl:(zs.take len).length=len:=by simp; omega
  refine ⟨some ⟨b,off,none⟩,cap,zs.take len,by rw [hl]; exact hcs,.inr ⟨b,off,rfl,?_,?_⟩,by omega⟩
  ·exact World.block_lt_of_cell? W ⟨b,off + 0,none⟩ (hel 0 (by omega))
  ·intro i hi;have hi':i < zs.length:=by omega
   rw [hel i hi',List.getElem_take];simp [hi']
set_option maxRecDepth 100000 in
theorem KJ {fuel:Nat} {cs:List Value} {x:DataW H × List MemPlace} (h:DataW.trod enc prog W base sp held fuel 230 cs=some x) :
  ∃ r:ER,cs=[.int .i64 r.e.kind,.slice r.adA r.e.allow.length r.capA,.string r.e.over,.string r.e.name,.slice r.adK r.e.kids.length r.capK]∧r.ok W∧r.e.fits:=by
 obtain ⟨y0,y1,y2,y3,y4,n,hl,h0,h1,h2,h3,h4⟩:=z8 underlying230 h;rw [Ff] at hl
 match cs,hl with
 | [c0,c1,c2,c3,c4],_ =>
  simp only [nu,Cq,JE,JF,List.drop_zero,List.drop_succ_cons,List.take_succ_cons,List.take_zero] at h0 h1 h2 h3 h4;obtain ⟨k,e0,-,-⟩:=DataW.trod_int underlying2 h0;obtain ⟨adA,capA,xs,e1,hA,fA,lA⟩:=JG h1;obtain ⟨o,e2,-,wo⟩:=DataW.trod_string underlying9 h2;obtain ⟨nm,e3,-,wn⟩:=DataW.trod_string underlying9 h3;obtain ⟨adK,capK,zs,e4,hK,lK⟩:=GN h4;simp at e0 e1 e2 e3 e4;subst e0 e1 e2 e3 e4;exact ⟨⟨⟨k,xs,o,nm,zs⟩,adA,capA,adK,capK⟩,rfl,⟨hA,hK⟩,fA,wo,wn,lA,lK⟩
theorem Et {fuel:Nat} {ad:Option Addr} {len cap:Nat} {x:DataW H × List MemPlace} (h:DataW.trod enc prog W base sp held fuel 155 [.slice ad len cap]=some x) :
  ∃ rs:List ER,rs.length=len∧dw W ad rs∧(∀ r ∈ rs,r.e.fits)∧len≤maxLen:=by
 rcases open_slice underlying155 h with ⟨hcs,-⟩ | ⟨a,l,c,m,n,D,Pl,hcs,-,hlc,hcm,hm,-,hel⟩
 ·simp at hcs;obtain ⟨rfl,rfl,rfl⟩:=hcs;exact ⟨[],rfl,.inl rfl,(fun t ht=>by cases ht),by unfold maxLen; omega⟩
 ·simp at hcs;obtain ⟨rfl,rfl,rfl⟩:=hcs;have hle:len≤m:=by rw [hm]; split <;> omega
  by_cases h0:len=0
  ·subst h0;exact ⟨[],rfl,.inl rfl,(fun t ht=>by cases ht),by omega⟩
  have key:∀ i,i < len→∃ r:ER,(∀ j,j < 5→W.cell? ((a.add (i * 5)).add j)=[Value.int .i64 r.e.kind,.slice r.adA r.e.allow.length r.capA,.string r.e.over,.string r.e.name,.slice r.adK r.e.kids.length r.capK][j]?)∧r.ok W∧r.e.fits:=by
   intro i hi;obtain ⟨cs',hc,hd⟩:=hel i (by omega);rw [Ff] at hc;obtain ⟨r,rfl,hh⟩:=KJ hd;exact ⟨r,fun j hj=>(World.cells?_some hc).2.2 j hj,hh⟩
  have hspot:a.spot=none:=by
   obtain ⟨t,ht,-⟩:=key 0 (by omega);have:=ht 0 (by omega);have e:(a.add (0 * 5)).add 0=a:=by simp [Addr.add]
   rw [e] at this;exact World.cell?_spot this
  obtain ⟨b,off,spot⟩:=a;simp only at hspot;subst hspot;obtain ⟨f,hf⟩:=@choose_lt ER ⟨⟨⟨0,[],⟨#[]⟩,⟨#[]⟩,[]⟩,none,0,none,0⟩⟩ len _ key;have at5:∀ i,i < len→wy W b (off + i * 5) (f i):=by
   intro i hi;obtain ⟨hc,-⟩:=hf i hi;simp only [j6] at hc;exact ⟨hc 0 (by omega),hc 1 (by omega),hc 2 (by omega),hc 3 (by omega),hc 4 (by omega)⟩
  refine ⟨(List.range len).map f,by simp,.inr ⟨b,off,rfl,?_,?_,?_⟩,?_,by omega⟩
  ·exact World.block_lt_of_cell? W ⟨b,off + 0 * 5,none⟩ (at5 0 (by omega)).1
  ·intro i hi;have hi':i < len:=by simpa using hi
   simpa using at5 i hi'
  ·intro t ht;simp only [List.mem_map,List.mem_range] at ht;obtain ⟨i,hi,rfl⟩:=ht;exact (hf i hi).2.1
  ·intro t ht;simp only [List.mem_map,List.mem_range] at ht;obtain ⟨i,hi,rfl⟩:=ht;exact (hf i hi).2.2
end
end Go.Proofs.YtdaoiceeidoehaaGreat
