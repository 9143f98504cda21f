/- Contracts of the law's helpers that weigh a schema: what is left and what was counted are no more than there was. -/
import Derived.Test.YtdaoiceeidoehaaGreatJ38
import Derived.Test.YtdaoiceeidoehaaGreatJ39
open Go.Proofs.Tryz
set_option maxHeartbeats 80000000
namespace Go.Proofs.YtdaoiceeidoehaaGreat
open Go.ChangeShapes Go.WideShapes Go.ChangeAt Go.RowKit
open Pl
def cX (e:Ex):Nat:=e.allow.length + e.kids.length
def sX:List ER→Nat
 | []=>0
 | r::rs=>cX r.e + sX rs
def sR:List RR→Nat
 | []=>0
 | r::rs=>(r.rows.length + sX r.rows) + sR rs
def sT:List TR→Nat
 | []=>0
 | r::rs=>(r.rows.length + sR r.rows) + sT rs
theorem BO:∀ xs ys:List ER,sX (xs ++ ys)=sX xs + sX ys
 | [],ys=>by simp [sX]
 | x::xs,ys=>by rw [List.cons_append]; simp only [sX]; rw [BO xs ys]; omega
theorem PT (rs:List ER) (j:Nat) (h:j < rs.length):sX (rs.take (j + 1))=sX (rs.take j) + cX rs[j].e:=by
 rw [R5 h,BO]; simp [sX]
theorem BP:∀ xs ys:List RR,sR (xs ++ ys)=sR xs + sR ys
 | [],ys=>by simp [sR]
 | x::xs,ys=>by rw [List.cons_append]; simp only [sR]; rw [BP xs ys]; omega
theorem PU (rs:List RR) (j:Nat) (h:j < rs.length):sR (rs.take (j + 1))=sR (rs.take j) + (rs[j].rows.length + sX rs[j].rows):=by
 rw [R5 h,BP]; simp [sR]
theorem BQ:∀ xs ys:List TR,sT (xs ++ ys)=sT xs + sT ys
 | [],ys=>by simp [sT]
 | x::xs,ys=>by rw [List.cons_append]; simp only [sT]; rw [BQ xs ys]; omega
theorem PV (rs:List TR) (j:Nat) (h:j < rs.length):sT (rs.take (j + 1))=sT (rs.take j) + (rs[j].rows.length + sR rs[j].rows):=by
 rw [R5 h,BQ]; simp [sT]
theorem Qe:∀ rs:List ER,wE rs≤3 * (rs.length + sX rs)
 | []=>by simp [wE]
 | r::rs=>by
  have:=Qe rs;simp only [wE,sX,wX,cX,List.length_cons]; omega
theorem Qf:∀ rs:List RR,wR rs≤rs.length + 3 * sR rs
 | []=>by simp [wR]
 | r::rs=>by
  have h1:=Qf rs;have h2:=Qe r.rows;simp only [wR,sR,List.length_cons]; omega
theorem Qg:∀ rs:List TR,wT rs≤rs.length + 3 * (sT rs)
 | []=>by simp [wT]
 | r::rs=>by
  have h1:=Qg rs;have h2:=Qf r.rows;simp only [wT,sT,List.length_cons]; omega
theorem IM (ad:Option Addr) (len cap:Nat) (left:Int) (w:World) (hl:len≤maxLen) (h0:0≤left) (h1:left≤1048576) :
  Calls prog 157 #[.slice ad len cap,.int .i64 left] w fun e w'=>(∃ n:Int,e=.returned (.int .i64 n)∧(n=-1 ∨ 0≤n∧n + len≤left∧(len:Int)≤left))∧w'=w:=by
 unfold maxLen at hl;by_cases hneg:left - len < 0
 ·go_enter func157,ntmps157;go_wp2;go_ret;exact ⟨⟨-1,rfl,.inl rfl⟩,rfl⟩
 ·go_enter func157,ntmps157;go_wp2;go_ret;exact ⟨⟨_,rfl,.inr ⟨by omega,by omega,by omega⟩⟩,rfl⟩
theorem Dw (ad:Option Addr) (cap:Nat) (xs:List Al) (left:Int) (w:World) (hlen:xs.length≤maxLen) (hs:iy w ad xs) (hf:∀ a ∈ xs,a.fits) (h0:0≤left) (h1:left≤1048576) :
  Calls prog 156 #[.slice ad xs.length cap,.int .i64 left] w fun e w'=>(∃ n:Int,e=.returned (.int .i64 n)∧(n=-1 ∨ 0≤n∧n + xs.length≤left∧(xs.length:Int)≤left))∧Below w.heap.size w w':=by
 unfold maxLen at hlen;by_cases hneg:left - xs.length < 0
 ·go_enter func156,ntmps156;go_wp2;go_ret;exact ⟨⟨-1,rfl,.inl rfl⟩,R3 _ _⟩
 ·go_enter func156,ntmps156;go_wp2;go_loopw [1,5] (fun l i wr=>∃ (k:Nat) (x:Int),k≤xs.length∧i=.int .i64 k∧l=.int .i64 x∧0≤x∧x + xs.length≤left∧Below w.heap.size w wr) (fun _ i _=>xs.length - (intOf i).toNat);case atStart=>exact ⟨0,_,R6 _,rfl,rfl,by omega,by omega,R3 _ _⟩
  case round =>
   obtain ⟨k,x,hk,rfl,rfl,hx0,hx1,hB⟩:=hrel;by_cases hlt:k < xs.length
   ·rcases hs.below hB with rfl | ⟨b,off,rfl,hb,hr⟩
    ·simp at hlt
    obtain ⟨t0,t1⟩:=hr k hlt;obtain ⟨f0,f1⟩:=hf xs[k] (RY hlt);clear hr hs;go_wp2_with fail;refine (zC _ _ _ _ f0 f1 hx0 (by omega)).mono ?_;rintro e w1 ⟨⟨n,rfl,hn⟩,hb1⟩;rcases hn with rfl | ⟨hn0,hn1⟩
    ·go_wp2;go_ret;exact ⟨⟨-1,rfl,.inl rfl⟩,hB.trans (hb1.mono hB.size)⟩
    ·go_wp2;go_roundw;case rel=>exact ⟨k + 1,_,by omega,by go_num,rfl,by omega,by omega,hB.trans (hb1.mono hB.size)⟩
     case measure=>simp [intOf]; omega
   ·go_wp2;go_ret;exact ⟨⟨x,rfl,.inr ⟨hx0,hx1,by omega⟩⟩,hB⟩
theorem Oh (r:ER) (left:Int) (w:World) (hr:r.ok w) (hf:r.e.fits) (h0:0≤left) (h1:left≤1048576) :
  Calls prog 138 #[r.val,.int .i64 left] w fun e w'=>(∃ n:Int,e=.returned (.int .i64 n)∧(n=-1 ∨ 0≤n∧n + (cX r.e:Nat)≤left∧r.e.light))∧Below w.heap.size w w':=by
 obtain ⟨⟨kind,allow,over,name,kids⟩,adA,capA,adK,capK⟩:=r;obtain ⟨hA,hK⟩:=hr;obtain ⟨f1,f2,f3,f4,f5⟩:=hf;simp only at hA hK f1 f2 f3 f4 f5;have g2:=f2;have g3:=f3;unfold maxLen at g2 g3;simp only [ER.val,Ex.light,cX];have HB:Hid (Below w.heap.size w (w.alloc (.cells #[.int .i64 kind,.slice adA allow.length capA,.string over,.string name,.slice adK kids.length capK] 230))):=(R3 w.heap.size w).alloc (R4 _) _;go_enter func138,ntmps138;go_wp2_with fail;refine (Dw adA capA allow left _ f4 (hA.below HB.out) f1 h0 h1).mono ?_;rintro e w1 ⟨⟨n,rfl,hn⟩,hb1⟩;have HB1:=gY HB hb1;have c2:w1.cell? ⟨w.heap.size,2,none⟩=some (.string over):=by rw [hb1.cell (p:=⟨w.heap.size,2,none⟩) (by simp)]; simp
 have c3:w1.cell? ⟨w.heap.size,3,none⟩=some (.string name):=by rw [hb1.cell (p:=⟨w.heap.size,3,none⟩) (by simp)]; simp
 have c4:w1.cell? ⟨w.heap.size,4,none⟩=some (.slice adK kids.length capK):=by rw [hb1.cell (p:=⟨w.heap.size,4,none⟩) (by simp)]; simp
 clear hb1 HB;rcases hn with rfl | ⟨hn0,hn1,hn2⟩
 ·go_wp2;go_ret;exact ⟨⟨-1,rfl,.inl rfl⟩,HB1.out⟩
 by_cases h3:n - over.size < 0
 ·go_wp2;go_ret;exact ⟨⟨-1,rfl,.inl rfl⟩,HB1.out⟩
 by_cases h4:n - over.size - name.size < 0
 ·go_wp2;go_ret;exact ⟨⟨-1,rfl,.inl rfl⟩,HB1.out⟩
 go_wp2_with fail;refine (IM adK kids.length capK _ _ f5 (by omega) (by omega)).mono ?_;rintro e w2 ⟨⟨n2,rfl,hm⟩,rfl⟩;rcases hm with rfl | ⟨hm0,hm1,hm2⟩
 ·go_wp2;go_ret;exact ⟨⟨-1,rfl,.inl rfl⟩,HB1.out⟩
 ·go_wp2;go_ret;exact ⟨⟨n2,rfl,.inr ⟨hm0,by omega,by omega,by omega⟩⟩,HB1.out⟩
theorem Lf (ad:Option Addr) (cap:Nat) (rs:List ER) (left:Int) (w:World) (hlen:rs.length≤maxLen) (hs:eX w ad rs) (hf:∀ r ∈ rs,r.e.fits) (h0:0≤left) (h1:left≤1048576) :
  Calls prog 107 #[.slice ad rs.length cap,.int .i64 left] w fun e w'=>(∃ n:Int,e=.returned (.int .i64 n)∧(n=-1 ∨ 0≤n∧n + (rs.length + sX rs:Nat)≤left∧(rs.length:Int)≤left∧∀ r ∈ rs,r.e.light))∧Below w.heap.size w w':=by
 unfold maxLen at hlen;by_cases hneg:left - rs.length < 0
 ·go_enter func107,ntmps107;go_wp2;go_ret;exact ⟨⟨-1,rfl,.inl rfl⟩,R3 _ _⟩
 ·go_enter func107,ntmps107;go_wp2;go_loopw [1,5] (fun l i wr=>∃ (k:Nat) (x:Int),k≤rs.length∧i=.int .i64 k∧l=.int .i64 x∧0≤x∧x + (rs.length + sX (rs.take k):Nat)≤left∧Hid (∀ r ∈ rs.take k,r.e.light)∧Below w.heap.size w wr) (fun _ i _=>rs.length - (intOf i).toNat);case atStart=>exact ⟨0,_,R6 _,rfl,rfl,by omega,by simp only [List.take_zero,sX]; omega,(by intro r hr; simp at hr),R3 _ _⟩
  case round =>
   obtain ⟨k,x,hk,rfl,rfl,hx0,hx1,HL,hB⟩:=hrel;by_cases hlt:k < rs.length
   ·rcases hs.below hB with rfl | ⟨b,off,rfl,hb,hr,hok⟩
    ·simp at hlt
    obtain ⟨t0,t1,t2,t3,t4⟩:=hr k hlt;have ok:=hok rs[k] (RY hlt);have ft:=hf rs[k] (RY hlt);clear hr hs hok;go_wp2_with fail;refine (Oh rs[k] x _ ok ft hx0 (by omega)).mono ?_;rintro e w1 ⟨⟨n,rfl,hn⟩,hb1⟩;have HST:Hid (sX (rs.take (k + 1))=_):=PT rs k hlt;rcases hn with rfl | ⟨hn0,hn1,hn2⟩
    ·go_wp2;go_ret;exact ⟨⟨-1,rfl,.inl rfl⟩,hB.trans (hb1.mono hB.size)⟩
    ·have HL2:Hid (∀ r ∈ rs.take (k + 1),r.e.light):=by
      intro r hr;rw [R5 hlt,Sd,Sm] at hr;rcases hr with hr | rfl
      ·exact HL.out r hr
      ·exact hn2
     clear hn2 ok ft;go_wp2;go_roundw;case rel=>exact ⟨k + 1,_,by omega,by go_num,rfl,by omega,by rw [HST.out]; omega,HL2,hB.trans (hb1.mono hB.size)⟩
     case measure=>simp [intOf]; omega
   ·have HX1:Hid (x + (rs.length + sX rs:Nat)≤left):=by have:=hx1; rw [List.take_of_length_le (by omega)] at this; exact this
    have HL2:Hid (∀ r ∈ rs,r.e.light):=fun r hr=>HL.out r (by rw [List.take_of_length_le (by omega)]; exact hr);go_wp2;go_ret;exact ⟨⟨x,rfl,.inr ⟨hx0,HX1.out,by omega,HL2.out⟩⟩,hB⟩
theorem Dx (r:RR) (left:Int) (w:World) (hr:r.ok w) (hf:r.fits) (h0:0≤left) (h1:left≤1048576) :
  Calls prog 77 #[r.val,.int .i64 left] w fun e w'=>(∃ n:Int,e=.returned (.int .i64 n)∧(n=-1 ∨ 0≤n∧n + (r.rows.length + sX r.rows:Nat)≤left∧r.light))∧Below w.heap.size w w':=by
 obtain ⟨name,rows,ad,cap⟩:=r;obtain ⟨f1,f2,f3⟩:=hf;have HO:=aC hr;have HF:=aC f3;simp only at f1 f2;have g1:=f1;unfold maxLen at g1;simp only [RR.val,RR.light];clear hr f3;have HB:Hid (Below w.heap.size w (w.alloc (.cells #[.string name,.slice ad rows.length cap] 157))):=(R3 w.heap.size w).alloc (R4 _) _;by_cases h3:left - name.size < 0
 ·go_enter func77,ntmps77;go_wp2;go_ret;exact ⟨⟨-1,rfl,.inl rfl⟩,HB.out⟩
 go_enter func77,ntmps77;go_wp2_with fail;refine (Lf ad cap rows _ _ f2 (eX.below HO.out HB.out) HF.out (by omega) (by omega)).mono ?_;rintro e w1 ⟨⟨n,rfl,hn⟩,hb1⟩;have HB1:=gY HB hb1;clear hb1 HB;rcases hn with rfl | ⟨hn0,hn1,hn2,Vi⟩
 ·go_wp2;go_ret;exact ⟨⟨-1,rfl,.inl rfl⟩,HB1.out⟩
 ·have HL:=aC Vi;clear Vi;go_wp2;go_ret;exact ⟨⟨n,rfl,.inr ⟨hn0,by omega,by omega,HL.out⟩⟩,HB1.out⟩
theorem Ah (ad:Option Addr) (cap:Nat) (rs:List RR) (left:Int) (w:World) (hlen:rs.length≤maxLen) (hs:zz w ad rs) (hf:∀ r ∈ rs,r.fits) (h0:0≤left) (h1:left≤1048576) :
  Calls prog 51 #[.slice ad rs.length cap,.int .i64 left] w fun e w'=>(∃ n:Int,e=.returned (.int .i64 n)∧(n=-1 ∨ 0≤n∧n + (rs.length + sR rs:Nat)≤left∧(rs.length:Int)≤left∧∀ r ∈ rs,r.light))∧Below w.heap.size w w':=by
 unfold maxLen at hlen;by_cases hneg:left - rs.length < 0
 ·go_enter func51,ntmps51;go_wp2;go_ret;exact ⟨⟨-1,rfl,.inl rfl⟩,R3 _ _⟩
 ·go_enter func51,ntmps51;go_wp2;go_loopw [1,5] (fun l i wr=>∃ (k:Nat) (x:Int),k≤rs.length∧i=.int .i64 k∧l=.int .i64 x∧0≤x∧x + (rs.length + sR (rs.take k):Nat)≤left∧Hid (∀ r ∈ rs.take k,r.light)∧Below w.heap.size w wr) (fun _ i _=>rs.length - (intOf i).toNat);case atStart=>exact ⟨0,_,R6 _,rfl,rfl,by omega,by simp only [List.take_zero,sR]; omega,(by intro r hr; simp at hr),R3 _ _⟩
  case round =>
   obtain ⟨k,x,hk,rfl,rfl,hx0,hx1,HL,hB⟩:=hrel;by_cases hlt:k < rs.length
   ·rcases hs.below hB with rfl | ⟨b,off,rfl,hb,hr,hok⟩
    ·simp at hlt
    obtain ⟨t0,t1⟩:=hr k hlt;have ok:=hok rs[k] (RY hlt);have ft:=hf rs[k] (RY hlt);clear hr hs hok;go_wp2_with fail;refine (Dx rs[k] x _ ok ft hx0 (by omega)).mono ?_;rintro e w1 ⟨⟨n,rfl,hn⟩,hb1⟩;have HST:Hid (sR (rs.take (k + 1))=_):=PU rs k hlt;rcases hn with rfl | ⟨hn0,hn1,hn2⟩
    ·go_wp2;go_ret;exact ⟨⟨-1,rfl,.inl rfl⟩,hB.trans (hb1.mono hB.size)⟩
    ·have HL2:Hid (∀ r ∈ rs.take (k + 1),r.light):=by
      intro r hr;rw [R5 hlt,Sd,Sm] at hr;rcases hr with hr | rfl
      ·exact HL.out r hr
      ·exact hn2
     clear hn2 ok ft;go_wp2;go_roundw;case rel=>exact ⟨k + 1,_,by omega,by go_num,rfl,by omega,by rw [HST.out]; omega,HL2,hB.trans (hb1.mono hB.size)⟩
     case measure=>simp [intOf]; omega
   ·have HX1:Hid (x + (rs.length + sR rs:Nat)≤left):=by have:=hx1; rw [List.take_of_length_le (by omega)] at this; exact this
    have HL2:Hid (∀ r ∈ rs,r.light):=fun r hr=>HL.out r (by rw [List.take_of_length_le (by omega)]; exact hr);go_wp2;go_ret;exact ⟨⟨x,rfl,.inr ⟨hx0,HX1.out,by omega,HL2.out⟩⟩,hB⟩
theorem Oi (r:TR) (left:Int) (w:World) (hr:r.ok w) (hf:r.fits) (h0:0≤left) (h1:left≤1048576) :
  Calls prog 27 #[r.val,.int .i64 left] w fun e w'=>(∃ n:Int,e=.returned (.int .i64 n)∧(n=-1 ∨ 0≤n∧n + (r.rows.length + sR r.rows:Nat)≤left∧r.light))∧Below w.heap.size w w':=by
 obtain ⟨name,rows,ad,cap⟩:=r;obtain ⟨f1,f2,f3⟩:=hf;have HO:=aC hr;have HF:=aC f3;simp only at f1 f2;have g1:=f1;unfold maxLen at g1;simp only [TR.val,TR.light];clear hr f3;have HB:Hid (Below w.heap.size w (w.alloc (.cells #[.string name,.slice ad rows.length cap] 59))):=(R3 w.heap.size w).alloc (R4 _) _;by_cases h3:left - name.size < 0
 ·go_enter func27,ntmps27;go_wp2;go_ret;exact ⟨⟨-1,rfl,.inl rfl⟩,HB.out⟩
 go_enter func27,ntmps27;go_wp2_with fail;refine (Ah ad cap rows _ _ f2 (zz.below HO.out HB.out) HF.out (by omega) (by omega)).mono ?_;rintro e w1 ⟨⟨n,rfl,hn⟩,hb1⟩;have HB1:=gY HB hb1;clear hb1 HB;rcases hn with rfl | ⟨hn0,hn1,hn2,Vi⟩
 ·go_wp2;go_ret;exact ⟨⟨-1,rfl,.inl rfl⟩,HB1.out⟩
 ·have HL:=aC Vi;clear Vi;go_wp2;go_ret;exact ⟨⟨n,rfl,.inr ⟨hn0,by omega,by omega,HL.out⟩⟩,HB1.out⟩
theorem Lg (ad:Option Addr) (cap:Nat) (rs:List TR) (left:Int) (w:World) (hlen:rs.length≤maxLen) (hs:jd w ad rs) (hf:∀ r ∈ rs,r.fits) (h0:0≤left) (h1:left≤1048576) :
  Calls prog 6 #[.slice ad rs.length cap,.int .i64 left] w fun e w'=>(∃ n:Int,e=.returned (.int .i64 n)∧(n=-1 ∨ 0≤n∧n + (rs.length + sT rs:Nat)≤left∧(rs.length:Int)≤left∧∀ r ∈ rs,r.light))∧Below w.heap.size w w':=by
 unfold maxLen at hlen;by_cases hneg:left - rs.length < 0
 ·go_enter func6,ntmps6;go_wp2;go_ret;exact ⟨⟨-1,rfl,.inl rfl⟩,R3 _ _⟩
 ·go_enter func6,ntmps6;go_wp2;go_loopw [1,5] (fun l i wr=>∃ (k:Nat) (x:Int),k≤rs.length∧i=.int .i64 k∧l=.int .i64 x∧0≤x∧x + (rs.length + sT (rs.take k):Nat)≤left∧Hid (∀ r ∈ rs.take k,r.light)∧Below w.heap.size w wr) (fun _ i _=>rs.length - (intOf i).toNat);case atStart=>exact ⟨0,_,R6 _,rfl,rfl,by omega,by simp only [List.take_zero,sT]; omega,(by intro r hr; simp at hr),R3 _ _⟩
  case round =>
   obtain ⟨k,x,hk,rfl,rfl,hx0,hx1,HL,hB⟩:=hrel;by_cases hlt:k < rs.length
   ·rcases hs.below hB with rfl | ⟨b,off,rfl,hb,hr,hok⟩
    ·simp at hlt
    obtain ⟨t0,t1⟩:=hr k hlt;have ok:=hok rs[k] (RY hlt);have ft:=hf rs[k] (RY hlt);clear hr hs hok;go_wp2_with fail;refine (Oi rs[k] x _ ok ft hx0 (by omega)).mono ?_;rintro e w1 ⟨⟨n,rfl,hn⟩,hb1⟩;have HST:Hid (sT (rs.take (k + 1))=_):=PV rs k hlt;rcases hn with rfl | ⟨hn0,hn1,hn2⟩
    ·go_wp2;go_ret;exact ⟨⟨-1,rfl,.inl rfl⟩,hB.trans (hb1.mono hB.size)⟩
    ·have HL2:Hid (∀ r ∈ rs.take (k + 1),r.light):=by
      intro r hr;rw [R5 hlt,Sd,Sm] at hr;rcases hr with hr | rfl
      ·exact HL.out r hr
      ·exact hn2
     clear hn2 ok ft;go_wp2;go_roundw;case rel=>exact ⟨k + 1,_,by omega,by go_num,rfl,by omega,by rw [HST.out]; omega,HL2,hB.trans (hb1.mono hB.size)⟩
     case measure=>simp [intOf]; omega
   ·have HX1:Hid (x + (rs.length + sT rs:Nat)≤left):=by have:=hx1; rw [List.take_of_length_le (by omega)] at this; exact this
    have HL2:Hid (∀ r ∈ rs,r.light):=fun r hr=>HL.out r (by rw [List.take_of_length_le (by omega)]; exact hr);go_wp2;go_ret;exact ⟨⟨x,rfl,.inr ⟨hx0,HX1.out,by omega,HL2.out⟩⟩,hB⟩
end Go.Proofs.YtdaoiceeidoehaaGreat
