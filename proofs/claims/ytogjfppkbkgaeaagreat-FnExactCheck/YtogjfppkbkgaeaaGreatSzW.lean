/- Contracts of the law's helpers that weigh a schema: what is left and what was counted are no more than there was. -/
import Derived.Test.YtogjfppkbkgaeaaGreatJ29
import Derived.Test.YtogjfppkbkgaeaaGreatMark5
namespace Go.Proofs.YtogjfppkbkgaeaaGreat
open Go.ChangeShapes Go.WideShapes Go.ChangeAt Go.RowKit
open Pl
def cX (e:Ex):Nat:=e.allow.length + e.kids.length
def sX:List ER→Nat
 | []=>0
 | r::rs=>cX r.e + sX rs
def sR:List RR→Nat
 | []=>0
 | r::rs=>(r.rows.length + sX r.rows) + sR rs
def sT:List TR→Nat
 | []=>0
 | r::rs=>(r.rows.length + sR r.rows) + sT rs
theorem sX_append:∀ xs ys:List ER,sX (xs ++ ys)=sX xs + sX ys
 | [],ys=>by simp [sX]
 | x::xs,ys=>by rw [List.cons_append]; simp only [sX]; rw [sX_append xs ys]; omega
theorem sX_take (rs:List ER) (j:Nat) (h:j < rs.length):sX (rs.take (j + 1))=sX (rs.take j) + cX rs[j].e:=by
 rw [List.take_succ_eq_append_getElem h,sX_append]; simp [sX]
theorem sR_append:∀ xs ys:List RR,sR (xs ++ ys)=sR xs + sR ys
 | [],ys=>by simp [sR]
 | x::xs,ys=>by rw [List.cons_append]; simp only [sR]; rw [sR_append xs ys]; omega
theorem sR_take (rs:List RR) (j:Nat) (h:j < rs.length):sR (rs.take (j + 1))=sR (rs.take j) + (rs[j].rows.length + sX rs[j].rows):=by
 rw [List.take_succ_eq_append_getElem h,sR_append]; simp [sR]
theorem sT_append:∀ xs ys:List TR,sT (xs ++ ys)=sT xs + sT ys
 | [],ys=>by simp [sT]
 | x::xs,ys=>by rw [List.cons_append]; simp only [sT]; rw [sT_append xs ys]; omega
theorem sT_take (rs:List TR) (j:Nat) (h:j < rs.length):sT (rs.take (j + 1))=sT (rs.take j) + (rs[j].rows.length + sR rs[j].rows):=by
 rw [List.take_succ_eq_append_getElem h,sT_append]; simp [sT]
theorem szInt64S_w (ad:Option Addr) (len cap:Nat) (left:Int) (w:World) (hl:len≤maxLen) (h0:0≤left) (h1:left≤1048576) :
  Calls Tryz.prog 171 #[.slice ad len cap,.int .i64 left] w fun e w'=>(∃ n:Int,e=.returned (.int .i64 n)∧(n=-1 ∨ 0≤n∧n + len≤left∧(len:Int)≤left))∧w'=w:=by
 unfold maxLen at hl
 by_cases hneg:left - len < 0
 ·go_enter Tryz.func171,Tryz.ntmps171
  go_wp2
  go_ret
  exact ⟨⟨-1,rfl,.inl rfl⟩,rfl⟩
 ·go_enter Tryz.func171,Tryz.ntmps171
  go_wp2
  go_ret
  exact ⟨⟨_,rfl,.inr ⟨by omega,by omega,by omega⟩⟩,rfl⟩
set_option maxHeartbeats 400000 in
theorem szAllowedS_w (ad:Option Addr) (cap:Nat) (xs:List Al) (left:Int) (w:World) (hlen:xs.length≤maxLen) (hs:SlA w ad xs) (hf:∀ a ∈ xs,a.fits) (h0:0≤left) (h1:left≤1048576) :
  Calls Tryz.prog 170 #[.slice ad xs.length cap,.int .i64 left] w fun e w'=>(∃ n:Int,e=.returned (.int .i64 n)∧(n=-1 ∨ 0≤n∧n + xs.length≤left∧(xs.length:Int)≤left))∧Below w.heap.size w w':=by
 unfold maxLen at hlen
 by_cases hneg:left - xs.length < 0
 ·go_enter Tryz.func170,Tryz.ntmps170
  go_wp2
  go_ret
  exact ⟨⟨-1,rfl,.inl rfl⟩,Below.refl _ _⟩
 ·go_enter Tryz.func170,Tryz.ntmps170
  go_wp2
  go_loopw [1,5] (fun l i wr=>∃ (k:Nat) (x:Int),k≤xs.length∧i=.int .i64 k∧l=.int .i64 x∧0≤x∧x + xs.length≤left∧Below w.heap.size w wr) (fun _ i _=>xs.length - (intOf i).toNat)
  case atStart=>exact ⟨0,_,Nat.zero_le _,rfl,rfl,by omega,by omega,Below.refl _ _⟩
  case round =>
   obtain ⟨k,x,hk,rfl,rfl,hx0,hx1,hB⟩:=hrel
   by_cases hlt:k < xs.length
   ·rcases hs.below hB with rfl | ⟨b,off,rfl,hb,hr⟩
    ·simp at hlt
    obtain ⟨t0,t1⟩:=hr k hlt
    obtain ⟨f0,f1⟩:=hf xs[k] (List.getElem_mem hlt)
    clear hr hs
    go_wp2_with fail
    refine (szAllowed_any _ _ _ _ f0 f1 hx0 (by omega)).mono ?_
    rintro e w1 ⟨⟨n,rfl,hn⟩,hb1⟩
    rcases hn with rfl | ⟨hn0,hn1⟩
    ·go_wp2
     go_ret
     exact ⟨⟨-1,rfl,.inl rfl⟩,hB.trans (hb1.mono hB.size)⟩
    ·go_wp2
     go_roundw
     case rel=>exact ⟨k + 1,_,by omega,by go_num,rfl,by omega,by omega,hB.trans (hb1.mono hB.size)⟩
     case measure=>simp [intOf]; omega
   ·go_wp2
    go_ret
    exact ⟨⟨x,rfl,.inr ⟨hx0,hx1,by omega⟩⟩,hB⟩
set_option maxHeartbeats 800000 in
theorem szExpr_w (r:ER) (left:Int) (w:World) (hr:r.ok w) (hf:r.e.fits) (h0:0≤left) (h1:left≤1048576) :
  Calls Tryz.prog 150 #[r.val,.int .i64 left] w fun e w'=>(∃ n:Int,e=.returned (.int .i64 n)∧(n=-1 ∨ 0≤n∧n + (cX r.e:Nat)≤left∧r.e.light))∧Below w.heap.size w w':=by
 obtain ⟨⟨kind,allow,over,name,kids⟩,adA,capA,adK,capK⟩:=r
 obtain ⟨hA,hK⟩:=hr
 obtain ⟨f1,f2,f3,f4,f5⟩:=hf
 simp only at hA hK f1 f2 f3 f4 f5
 have g2:=f2
 have g3:=f3
 unfold maxLen at g2 g3
 simp only [ER.val,Ex.light,cX]
 have HB:Hid (Below w.heap.size w (w.alloc (.cells #[.int .i64 kind,.slice adA allow.length capA,.string over,.string name,.slice adK kids.length capK] 223))):=(Below.refl w.heap.size w).alloc (Nat.le_refl _) _
 go_enter Tryz.func150,Tryz.ntmps150
 go_wp2_with fail
 refine (szAllowedS_w adA capA allow left _ f4 (hA.below HB.out) f1 h0 h1).mono ?_
 rintro e w1 ⟨⟨n,rfl,hn⟩,hb1⟩
 have HB1:Hid (Below w.heap.size w w1):=HB.out.trans (hb1.mono HB.out.size)
 have c2:w1.cell? ⟨w.heap.size,2,none⟩=some (.string over):=by rw [hb1.cell (p:=⟨w.heap.size,2,none⟩) (by simp)]; simp
 have c3:w1.cell? ⟨w.heap.size,3,none⟩=some (.string name):=by rw [hb1.cell (p:=⟨w.heap.size,3,none⟩) (by simp)]; simp
 have c4:w1.cell? ⟨w.heap.size,4,none⟩=some (.slice adK kids.length capK):=by rw [hb1.cell (p:=⟨w.heap.size,4,none⟩) (by simp)]; simp
 clear hb1 HB
 rcases hn with rfl | ⟨hn0,hn1,hn2⟩
 ·go_wp2
  go_ret
  exact ⟨⟨-1,rfl,.inl rfl⟩,HB1.out⟩
 by_cases h3:n - over.size < 0
 ·go_wp2
  go_ret
  exact ⟨⟨-1,rfl,.inl rfl⟩,HB1.out⟩
 by_cases h4:n - over.size - name.size < 0
 ·go_wp2
  go_ret
  exact ⟨⟨-1,rfl,.inl rfl⟩,HB1.out⟩
 go_wp2_with fail
 refine (szInt64S_w adK kids.length capK _ _ f5 (by omega) (by omega)).mono ?_
 rintro e w2 ⟨⟨n2,rfl,hm⟩,rfl⟩
 rcases hm with rfl | ⟨hm0,hm1,hm2⟩
 ·go_wp2
  go_ret
  exact ⟨⟨-1,rfl,.inl rfl⟩,HB1.out⟩
 ·go_wp2
  go_ret
  exact ⟨⟨n2,rfl,.inr ⟨hm0,by omega,by omega,by omega⟩⟩,HB1.out⟩
set_option maxHeartbeats 800000 in
theorem szExprS_w (ad:Option Addr) (cap:Nat) (rs:List ER) (left:Int) (w:World) (hlen:rs.length≤maxLen) (hs:SlE w ad rs) (hf:∀ r ∈ rs,r.e.fits) (h0:0≤left) (h1:left≤1048576) :
  Calls Tryz.prog 116 #[.slice ad rs.length cap,.int .i64 left] w fun e w'=>(∃ n:Int,e=.returned (.int .i64 n)∧(n=-1 ∨ 0≤n∧n + (rs.length + sX rs:Nat)≤left∧(rs.length:Int)≤left∧∀ r ∈ rs,r.e.light))∧Below w.heap.size w w':=by
 unfold maxLen at hlen
 by_cases hneg:left - rs.length < 0
 ·go_enter Tryz.func116,Tryz.ntmps116
  go_wp2
  go_ret
  exact ⟨⟨-1,rfl,.inl rfl⟩,Below.refl _ _⟩
 ·go_enter Tryz.func116,Tryz.ntmps116
  go_wp2
  go_loopw [1,5] (fun l i wr=>∃ (k:Nat) (x:Int),k≤rs.length∧i=.int .i64 k∧l=.int .i64 x∧0≤x∧x + (rs.length + sX (rs.take k):Nat)≤left∧Hid (∀ r ∈ rs.take k,r.e.light)∧Below w.heap.size w wr) (fun _ i _=>rs.length - (intOf i).toNat)
  case atStart=>exact ⟨0,_,Nat.zero_le _,rfl,rfl,by omega,by simp only [List.take_zero,sX]; omega,(by intro r hr; simp at hr),Below.refl _ _⟩
  case round =>
   obtain ⟨k,x,hk,rfl,rfl,hx0,hx1,HL,hB⟩:=hrel
   by_cases hlt:k < rs.length
   ·rcases hs.below hB with rfl | ⟨b,off,rfl,hb,hr,hok⟩
    ·simp at hlt
    obtain ⟨t0,t1,t2,t3,t4⟩:=hr k hlt
    have ok:=hok rs[k] (List.getElem_mem hlt)
    have ft:=hf rs[k] (List.getElem_mem hlt)
    clear hr hs hok
    go_wp2_with fail
    refine (szExpr_w rs[k] x _ ok ft hx0 (by omega)).mono ?_
    rintro e w1 ⟨⟨n,rfl,hn⟩,hb1⟩
    have HST:Hid (sX (rs.take (k + 1))=_):=sX_take rs k hlt
    rcases hn with rfl | ⟨hn0,hn1,hn2⟩
    ·go_wp2
     go_ret
     exact ⟨⟨-1,rfl,.inl rfl⟩,hB.trans (hb1.mono hB.size)⟩
    ·have HL2:Hid (∀ r ∈ rs.take (k + 1),r.e.light):=by
      intro r hr
      rw [List.take_succ_eq_append_getElem hlt,List.mem_append,List.mem_singleton] at hr
      rcases hr with hr | rfl
      ·exact HL.out r hr
      ·exact hn2
     clear hn2 ok ft
     go_wp2
     go_roundw
     case rel=>exact ⟨k + 1,_,by omega,by go_num,rfl,by omega,by rw [HST.out]; omega,HL2,hB.trans (hb1.mono hB.size)⟩
     case measure=>simp [intOf]; omega
   ·have HX1:Hid (x + (rs.length + sX rs:Nat)≤left):=by have:=hx1; rw [List.take_of_length_le (by omega)] at this; exact this
    have HL2:Hid (∀ r ∈ rs,r.e.light):=fun r hr=>HL.out r (by rw [List.take_of_length_le (by omega)]; exact hr)
    go_wp2
    go_ret
    exact ⟨⟨x,rfl,.inr ⟨hx0,HX1.out,by omega,HL2.out⟩⟩,hB⟩
set_option maxHeartbeats 800000 in
theorem szRelation_w (r:RR) (left:Int) (w:World) (hr:r.ok w) (hf:r.fits) (h0:0≤left) (h1:left≤1048576) :
  Calls Tryz.prog 76 #[r.val,.int .i64 left] w fun e w'=>(∃ n:Int,e=.returned (.int .i64 n)∧(n=-1 ∨ 0≤n∧n + (r.rows.length + sX r.rows:Nat)≤left∧r.light))∧Below w.heap.size w w':=by
 obtain ⟨name,rows,ad,cap⟩:=r
 obtain ⟨f1,f2,f3⟩:=hf
 have HO:Hid (SlE w ad rows):=hr
 have HF:Hid (∀ q ∈ rows,q.e.fits):=f3
 simp only at f1 f2
 have g1:=f1
 unfold maxLen at g1
 simp only [RR.val,RR.light]
 clear hr f3
 have HB:Hid (Below w.heap.size w (w.alloc (.cells #[.string name,.slice ad rows.length cap] 139))):=(Below.refl w.heap.size w).alloc (Nat.le_refl _) _
 by_cases h3:left - name.size < 0
 ·go_enter Tryz.func76,Tryz.ntmps76
  go_wp2
  go_ret
  exact ⟨⟨-1,rfl,.inl rfl⟩,HB.out⟩
 go_enter Tryz.func76,Tryz.ntmps76
 go_wp2_with fail
 refine (szExprS_w ad cap rows _ _ f2 (SlE.below HO.out HB.out) HF.out (by omega) (by omega)).mono ?_
 rintro e w1 ⟨⟨n,rfl,hn⟩,hb1⟩
 have HB1:Hid (Below w.heap.size w w1):=HB.out.trans (hb1.mono HB.out.size)
 clear hb1 HB
 rcases hn with rfl | ⟨hn0,hn1,hn2,hn3⟩
 ·go_wp2
  go_ret
  exact ⟨⟨-1,rfl,.inl rfl⟩,HB1.out⟩
 ·have HL:Hid (∀ q ∈ rows,q.e.light):=hn3
  clear hn3
  go_wp2
  go_ret
  exact ⟨⟨n,rfl,.inr ⟨hn0,by omega,by omega,HL.out⟩⟩,HB1.out⟩
set_option maxHeartbeats 800000 in
theorem szRelationS_w (ad:Option Addr) (cap:Nat) (rs:List RR) (left:Int) (w:World) (hlen:rs.length≤maxLen) (hs:SlR w ad rs) (hf:∀ r ∈ rs,r.fits) (h0:0≤left) (h1:left≤1048576) :
  Calls Tryz.prog 52 #[.slice ad rs.length cap,.int .i64 left] w fun e w'=>(∃ n:Int,e=.returned (.int .i64 n)∧(n=-1 ∨ 0≤n∧n + (rs.length + sR rs:Nat)≤left∧(rs.length:Int)≤left∧∀ r ∈ rs,r.light))∧Below w.heap.size w w':=by
 unfold maxLen at hlen
 by_cases hneg:left - rs.length < 0
 ·go_enter Tryz.func52,Tryz.ntmps52
  go_wp2
  go_ret
  exact ⟨⟨-1,rfl,.inl rfl⟩,Below.refl _ _⟩
 ·go_enter Tryz.func52,Tryz.ntmps52
  go_wp2
  go_loopw [1,5] (fun l i wr=>∃ (k:Nat) (x:Int),k≤rs.length∧i=.int .i64 k∧l=.int .i64 x∧0≤x∧x + (rs.length + sR (rs.take k):Nat)≤left∧Hid (∀ r ∈ rs.take k,r.light)∧Below w.heap.size w wr) (fun _ i _=>rs.length - (intOf i).toNat)
  case atStart=>exact ⟨0,_,Nat.zero_le _,rfl,rfl,by omega,by simp only [List.take_zero,sR]; omega,(by intro r hr; simp at hr),Below.refl _ _⟩
  case round =>
   obtain ⟨k,x,hk,rfl,rfl,hx0,hx1,HL,hB⟩:=hrel
   by_cases hlt:k < rs.length
   ·rcases hs.below hB with rfl | ⟨b,off,rfl,hb,hr,hok⟩
    ·simp at hlt
    obtain ⟨t0,t1⟩:=hr k hlt
    have ok:=hok rs[k] (List.getElem_mem hlt)
    have ft:=hf rs[k] (List.getElem_mem hlt)
    clear hr hs hok
    go_wp2_with fail
    refine (szRelation_w rs[k] x _ ok ft hx0 (by omega)).mono ?_
    rintro e w1 ⟨⟨n,rfl,hn⟩,hb1⟩
    have HST:Hid (sR (rs.take (k + 1))=_):=sR_take rs k hlt
    rcases hn with rfl | ⟨hn0,hn1,hn2⟩
    ·go_wp2
     go_ret
     exact ⟨⟨-1,rfl,.inl rfl⟩,hB.trans (hb1.mono hB.size)⟩
    ·have HL2:Hid (∀ r ∈ rs.take (k + 1),r.light):=by
      intro r hr
      rw [List.take_succ_eq_append_getElem hlt,List.mem_append,List.mem_singleton] at hr
      rcases hr with hr | rfl
      ·exact HL.out r hr
      ·exact hn2
     clear hn2 ok ft
     go_wp2
     go_roundw
     case rel=>exact ⟨k + 1,_,by omega,by go_num,rfl,by omega,by rw [HST.out]; omega,HL2,hB.trans (hb1.mono hB.size)⟩
     case measure=>simp [intOf]; omega
   ·have HX1:Hid (x + (rs.length + sR rs:Nat)≤left):=by have:=hx1; rw [List.take_of_length_le (by omega)] at this; exact this
    have HL2:Hid (∀ r ∈ rs,r.light):=fun r hr=>HL.out r (by rw [List.take_of_length_le (by omega)]; exact hr)
    go_wp2
    go_ret
    exact ⟨⟨x,rfl,.inr ⟨hx0,HX1.out,by omega,HL2.out⟩⟩,hB⟩
set_option maxHeartbeats 800000 in
theorem szType_w (r:TR) (left:Int) (w:World) (hr:r.ok w) (hf:r.fits) (h0:0≤left) (h1:left≤1048576) :
  Calls Tryz.prog 33 #[r.val,.int .i64 left] w fun e w'=>(∃ n:Int,e=.returned (.int .i64 n)∧(n=-1 ∨ 0≤n∧n + (r.rows.length + sR r.rows:Nat)≤left∧r.light))∧Below w.heap.size w w':=by
 obtain ⟨name,rows,ad,cap⟩:=r
 obtain ⟨f1,f2,f3⟩:=hf
 have HO:Hid (SlR w ad rows):=hr
 have HF:Hid (∀ q ∈ rows,q.fits):=f3
 simp only at f1 f2
 have g1:=f1
 unfold maxLen at g1
 simp only [TR.val,TR.light]
 clear hr f3
 have HB:Hid (Below w.heap.size w (w.alloc (.cells #[.string name,.slice ad rows.length cap] 62))):=(Below.refl w.heap.size w).alloc (Nat.le_refl _) _
 by_cases h3:left - name.size < 0
 ·go_enter Tryz.func33,Tryz.ntmps33
  go_wp2
  go_ret
  exact ⟨⟨-1,rfl,.inl rfl⟩,HB.out⟩
 go_enter Tryz.func33,Tryz.ntmps33
 go_wp2_with fail
 refine (szRelationS_w ad cap rows _ _ f2 (SlR.below HO.out HB.out) HF.out (by omega) (by omega)).mono ?_
 rintro e w1 ⟨⟨n,rfl,hn⟩,hb1⟩
 have HB1:Hid (Below w.heap.size w w1):=HB.out.trans (hb1.mono HB.out.size)
 clear hb1 HB
 rcases hn with rfl | ⟨hn0,hn1,hn2,hn3⟩
 ·go_wp2
  go_ret
  exact ⟨⟨-1,rfl,.inl rfl⟩,HB1.out⟩
 ·have HL:Hid (∀ q ∈ rows,q.light):=hn3
  clear hn3
  go_wp2
  go_ret
  exact ⟨⟨n,rfl,.inr ⟨hn0,by omega,by omega,HL.out⟩⟩,HB1.out⟩
set_option maxHeartbeats 800000 in
theorem szTypeS_w (ad:Option Addr) (cap:Nat) (rs:List TR) (left:Int) (w:World) (hlen:rs.length≤maxLen) (hs:SlT w ad rs) (hf:∀ r ∈ rs,r.fits) (h0:0≤left) (h1:left≤1048576) :
  Calls Tryz.prog 7 #[.slice ad rs.length cap,.int .i64 left] w fun e w'=>(∃ n:Int,e=.returned (.int .i64 n)∧(n=-1 ∨ 0≤n∧n + (rs.length + sT rs:Nat)≤left∧(rs.length:Int)≤left∧∀ r ∈ rs,r.light))∧Below w.heap.size w w':=by
 unfold maxLen at hlen
 by_cases hneg:left - rs.length < 0
 ·go_enter Tryz.func7,Tryz.ntmps7
  go_wp2
  go_ret
  exact ⟨⟨-1,rfl,.inl rfl⟩,Below.refl _ _⟩
 ·go_enter Tryz.func7,Tryz.ntmps7
  go_wp2
  go_loopw [1,5] (fun l i wr=>∃ (k:Nat) (x:Int),k≤rs.length∧i=.int .i64 k∧l=.int .i64 x∧0≤x∧x + (rs.length + sT (rs.take k):Nat)≤left∧Hid (∀ r ∈ rs.take k,r.light)∧Below w.heap.size w wr) (fun _ i _=>rs.length - (intOf i).toNat)
  case atStart=>exact ⟨0,_,Nat.zero_le _,rfl,rfl,by omega,by simp only [List.take_zero,sT]; omega,(by intro r hr; simp at hr),Below.refl _ _⟩
  case round =>
   obtain ⟨k,x,hk,rfl,rfl,hx0,hx1,HL,hB⟩:=hrel
   by_cases hlt:k < rs.length
   ·rcases hs.below hB with rfl | ⟨b,off,rfl,hb,hr,hok⟩
    ·simp at hlt
    obtain ⟨t0,t1⟩:=hr k hlt
    have ok:=hok rs[k] (List.getElem_mem hlt)
    have ft:=hf rs[k] (List.getElem_mem hlt)
    clear hr hs hok
    go_wp2_with fail
    refine (szType_w rs[k] x _ ok ft hx0 (by omega)).mono ?_
    rintro e w1 ⟨⟨n,rfl,hn⟩,hb1⟩
    have HST:Hid (sT (rs.take (k + 1))=_):=sT_take rs k hlt
    rcases hn with rfl | ⟨hn0,hn1,hn2⟩
    ·go_wp2
     go_ret
     exact ⟨⟨-1,rfl,.inl rfl⟩,hB.trans (hb1.mono hB.size)⟩
    ·have HL2:Hid (∀ r ∈ rs.take (k + 1),r.light):=by
      intro r hr
      rw [List.take_succ_eq_append_getElem hlt,List.mem_append,List.mem_singleton] at hr
      rcases hr with hr | rfl
      ·exact HL.out r hr
      ·exact hn2
     clear hn2 ok ft
     go_wp2
     go_roundw
     case rel=>exact ⟨k + 1,_,by omega,by go_num,rfl,by omega,by rw [HST.out]; omega,HL2,hB.trans (hb1.mono hB.size)⟩
     case measure=>simp [intOf]; omega
   ·have HX1:Hid (x + (rs.length + sT rs:Nat)≤left):=by have:=hx1; rw [List.take_of_length_le (by omega)] at this; exact this
    have HL2:Hid (∀ r ∈ rs,r.light):=fun r hr=>HL.out r (by rw [List.take_of_length_le (by omega)]; exact hr)
    go_wp2
    go_ret
    exact ⟨⟨x,rfl,.inr ⟨hx0,HX1.out,by omega,HL2.out⟩⟩,hB⟩
end Go.Proofs.YtogjfppkbkgaeaaGreat
