/- The document's question of a node that is told by tuples, or that names a relation. -/
import Derived.Test.YtogjfppkbkgaeaaGreatJ9
namespace Go.Proofs.YtogjfppkbkgaeaaGreat
set_option linter.unusedVariables false
set_option maxRecDepth 100000
open Go.ChangeShapes Go.WideShapes Go.ChangeAt Go.RowKit Go.Maps
open Pl
set_option maxHeartbeats 1000000 in
theorem CJ (v0:Value) (adT:Option Addr) (capT:Nat) (ts:List Tp) (adE:Option Addr) (capE:Nat) (rows:List ER) (n:Nat) (adK:Option Addr) (capK:Nat) (known:List Fc) (adR:Option Addr) (capR:Nat) (truth:List Fc) (f:Fc) (w:World) (hW:HW w adT ts adE rows adK known adR truth) (hn:n < rows.length) (hre:rows.length≤1000) (hkl:known.length≤1048576) (hk:rows[n].e.kind=2) :
  Calls Tryz.prog 60 #[v0,.slice adT ts.length capT,.slice adE rows.length capE,.int .i64 (n:Int),.slice adK known.length capK,.slice adR truth.length capR,.agg #[.string f.a,.string f.b,.string f.r,.string f.c,.string f.d]] w fun e w'=>e=.returned (.bool (dQ known ⟨f.a,f.b,rows[n].e.name,f.c,f.d⟩))∧Below w.heap.size w w':=by
 obtain ⟨b,off,hadr,⟨t0,t1,t2,t3,t4⟩,hbl,-⟩:=dZ.at0 hW.ex hn;have HW0:=az hW;obtain ⟨W0,hW0⟩:∃ W0,W0=BX w f rows[n]:=⟨_,rfl⟩;have HB0:Hid (Below w.heap.size w W0):=by show Below _ _ _; rw [hW0]; exact iH _ _ _
 have hk1:(rows[n].e.kind == 1)=false:=by rw [hk]; rfl
 have hk2:(rows[n].e.kind == 2)=true:=by rw [hk]; rfl
 have hn1:(0:Int)≤(n:Int):=by omega
 have hn2:(n:Int) < (rows.length:Int):=by omega
 unfold BX at hW0;rw [hadr];clear hadr hW hk;go_enter Tryz.func60,Tryz.ntmps60;go_wp2_with fail;rw [← hW0];refine (nI adK capK known ⟨f.a,f.b,rows[n].e.name,f.c,f.d⟩ W0 hkl (HW0.out.kn.below HB0.out)).mono ?_;rintro e w1 ⟨rfl,hb1⟩;have HB1:=az (HB0.out.trans (hb1.mono HB0.out.size));clear hb1 hW0;go_wp2;go_ret;exact ⟨rfl,HB1.out⟩
set_option maxHeartbeats 1000000 in
theorem EP (v0:Value) (adT:Option Addr) (capT:Nat) (ts:List Tp) (adE:Option Addr) (capE:Nat) (rows:List ER) (n:Nat) (vK vR:Value) (f:Fc) (w:World) (hex:dZ w adE rows) (hn:n < rows.length) (hre:rows.length≤1000) (k1:rows[n].e.kind ≠ 1) (k2:rows[n].e.kind ≠ 2) (k3:rows[n].e.kind ≠ 3) (k4:rows[n].e.kind ≠ 4) (k5:rows[n].e.kind ≠ 5) (k6:rows[n].e.kind ≠ 6) :
  Calls Tryz.prog 60 #[v0,.slice adT ts.length capT,.slice adE rows.length capE,.int .i64 (n:Int),vK,vR,.agg #[.string f.a,.string f.b,.string f.r,.string f.c,.string f.d]] w fun e w'=>e=.returned (.bool false)∧Below w.heap.size w w':=by
 obtain ⟨b,off,hadr,⟨t0,t1,t2,t3,t4⟩,hbl,-⟩:=dZ.at0 hex hn;have HB0:=az (iH w f rows[n]);unfold BX at HB0;have hk1:(rows[n].e.kind == 1)=false:=by simpa using k1
 have hk2:(rows[n].e.kind == 2)=false:=by simpa using k2
 have hk3:(rows[n].e.kind == 3)=false:=by simpa using k3
 have hk4:(rows[n].e.kind == 4)=false:=by simpa using k4
 have hk5:(rows[n].e.kind == 5)=false:=by simpa using k5
 have hk6:(rows[n].e.kind == 6)=false:=by simpa using k6
 have hn1:(0:Int)≤(n:Int):=by omega
 have hn2:(n:Int) < (rows.length:Int):=by omega
 rw [hadr];clear hadr hex k1 k2 k3 k4 k5 k6;go_enter Tryz.func60,Tryz.ntmps60;go_wp2;go_ret;exact ⟨rfl,HB0.out⟩
set_option maxHeartbeats 8000000 in
theorem AR (v0:Value) (adT:Option Addr) (capT:Nat) (ts:List Tp) (adE:Option Addr) (capE:Nat) (rows:List ER) (n:Nat) (adK:Option Addr) (capK:Nat) (known:List Fc) (adR:Option Addr) (capR:Nat) (truth:List Fc) (f:Fc) (w:World) (hW:HW w adT ts adE rows adK known adR truth) (hn:n < rows.length) (hre:rows.length≤1000) (hkl:known.length≤1048576) (htl:ts.length≤1048576) (hk:rows[n].e.kind=1) :
  Calls Tryz.prog 60 #[v0,.slice adT ts.length capT,.slice adE rows.length capE,.int .i64 (n:Int),.slice adK known.length capK,.slice adR truth.length capR,.agg #[.string f.a,.string f.b,.string f.r,.string f.c,.string f.d]] w fun e w'=>e=.returned (.bool (dR ts known f))∧Below w.heap.size w w':=by
 obtain ⟨b,off,hadr,⟨t0,t1,t2,t3,t4⟩,hbl,-⟩:=dZ.at0 hW.ex hn;have HW0:=az hW;obtain ⟨W0,hW0⟩:∃ W0,W0=BX w f rows[n]:=⟨_,rfl⟩;have HB0:Hid (Below w.heap.size w W0):=by show Below _ _ _; rw [hW0]; exact iH _ _ _
 have HE0:Hid (EnB W0 w.heap.size f rows[n]):=by show EnB _ _ _ _; rw [hW0]; exact kG _ _ _
 have hk1:(rows[n].e.kind == 1)=true:=by rw [hk]; rfl
 have hn1:(0:Int)≤(n:Int):=by omega
 have hn2:(n:Int) < (rows.length:Int):=by omega
 unfold BX at hW0;rw [hadr];clear hadr hW hk;go_enter Tryz.func60,Tryz.ntmps60;go_wp2_with fail;rw [← hW0];clear hW0 t0 t1 t2 t3 t4;go_loopw [16] (fun i wr=>∃ k:Nat,k≤ts.length∧i=.int .i64 k∧Hid (dR (ts.drop k) known f=dR ts known f)∧Hid (Below W0.heap.size W0 wr)) (fun i _=>ts.length - (intOf i).toNat);case atStart=>exact ⟨0,Nat.zero_le _,rfl,rfl,Below.refl _ _⟩
 case round =>
  obtain ⟨k,hk,rfl,HP,HB⟩:=hrel;have HBW:Hid (Below w.heap.size w wr):=HB0.out.trans (HB.out.mono HB0.out.size);by_cases hlt:k < ts.length
  ·obtain ⟨bT,offT,hadT,⟨a0,a1,a2,a3,a4,a5⟩,hbT⟩:=Sl.at0 (HW0.out.tup.below HBW.out) hlt;have hE:=HE0.out.below HB.out;have e0:=hE.f0;have e1:=hE.f1;have e2:=hE.f2;have e3:=hE.f3;have e4:=hE.f4;have el:w.heap.size < wr.heap.size:=by have:=hE.lt; omega
   have hi1:(0:Int)≤(k:Int):=by omega
   have hi2:(k:Int) < (ts.length:Int):=by omega
   obtain ⟨W1,hW1⟩:∃ W1,W1=wr.alloc (.cells #[.string ts[k].a,.string ts[k].b,.string ts[k].r,.string ts[k].c,.string ts[k].d,.string ts[k].s] 73):=⟨_,rfl⟩;have HBr:Hid (Below wr.heap.size wr W1):=by show Below _ _ _; rw [hW1]; exact (Below.refl _ _).alloc (Nat.le_refl _) _
   have HB1:Hid (Below W0.heap.size W0 W1):=HB.out.trans (HBr.out.mono HB.out.size);have HBW1:Hid (Below w.heap.size w W1):=HBW.out.trans (HBr.out.mono HBW.out.size);have HD:Hid (dR ts known f=(vV known f ts[k] || dR (ts.drop (k + 1)) known f)):=by show _=_; rw [← HP.out]; exact D5 hlt known f
   rw [hadT];clear hadT hE;cases ho:qN ts[k].a ts[k].b f.a f.b with
   | false =>
    have hneq:=BV _ _ _ _ ho;have HP2:Hid (dR (ts.drop (k + 1)) known f=dR ts known f):=by
     show _=_;unfold qN at ho;rw [HD.out]; unfold vV; rw [ho]; rfl
    clear ho;go_wp2;rw [← hW1];clear hW1;go_roundw;case rel=>exact ⟨k + 1,by omega,by go_num,HP2,HB1⟩
    case measure=>simp [intOf] <;> omega
   | true =>
    have hneq:=BV _ _ _ _ ho;have HO:Hid (qN ts[k].a ts[k].b f.a f.b=true):=ho;clear ho;cases hr:(ts[k].r.toList == f.r.toList) with
    | false =>
     have HP2:Hid (dR (ts.drop (k + 1)) known f=dR ts known f):=by
      show _=_;have h2:=HO.out;unfold qN at h2;rw [HD.out]; unfold vV; rw [h2,hr]; rfl
     go_wp2;rw [← hW1];clear hW1;go_roundw;case rel=>exact ⟨k + 1,by omega,by go_num,HP2,HB1⟩
     case measure=>simp [intOf] <;> omega
    | true =>
     have HT:Hid (vV known f ts[k]=(if ts[k].s.toList.isEmpty then ts[k].c.toList == f.c.toList && ts[k].d.toList == f.d.toList else dQ known ⟨ts[k].c,ts[k].d,ts[k].s,f.c,f.d⟩)):=by
      show _=_;have h2:=HO.out;unfold qN at h2;unfold vV; rw [h2,hr]; rfl
     cases hs:ts[k].s.toList.isEmpty with
     | true =>
      have hs2:(ts[k].s.toList == [])=true:=by rw [nJ]; exact hs
      cases hu:qN ts[k].c ts[k].d f.c f.d with
      | true =>
       have heq:=cu _ _ _ _ hu;have HN:Hid (dR ts known f=true):=by
        show _=_;unfold qN at hu;rw [HD.out,HT.out,if_pos hs,hu]; rfl
       clear hu hs;go_wp2;rw [← hW1];go_ret;exact ⟨by rw [HN.out]; rfl,HBW1.out⟩
      | false =>
       have heq:=cu _ _ _ _ hu;have HP2:Hid (dR (ts.drop (k + 1)) known f=dR ts known f):=by
        show _=_;unfold qN at hu;rw [HD.out,HT.out,if_pos hs,hu]; rfl
       clear hu hs;go_wp2;rw [← hW1];clear hW1;go_roundw;case rel=>exact ⟨k + 1,by omega,by go_num,HP2,HB1⟩
       case measure=>simp [intOf] <;> omega
     | false =>
      have hs2:(ts[k].s.toList == [])=false:=by rw [nJ]; exact hs
      have HT2:Hid (vV known f ts[k]=dQ known ⟨ts[k].c,ts[k].d,ts[k].s,f.c,f.d⟩):=by show _=_; rw [HT.out,if_neg (by rw [hs]; decide)]
      clear hs;go_wp2_with fail;rw [← hW1];clear hW1;refine (nI adK capK known ⟨ts[k].c,ts[k].d,ts[k].s,f.c,f.d⟩ W1 hkl (HW0.out.kn.below HBW1.out)).mono ?_;rintro e w2 ⟨rfl,hb2⟩;have HB2:Hid (Below W0.heap.size W0 w2):=HB1.out.trans (hb2.mono HB1.out.size);have HBW2:Hid (Below w.heap.size w w2):=HBW1.out.trans (hb2.mono HBW1.out.size);clear hb2;cases hh:dQ known ⟨ts[k].c,ts[k].d,ts[k].s,f.c,f.d⟩ with
      | true =>
       have HN:Hid (dR ts known f=true):=by show _=_; rw [HD.out,HT2.out,hh]; rfl
       go_wp2;go_ret;exact ⟨by rw [HN.out]; rfl,HBW2.out⟩
      | false =>
       have HP2:Hid (dR (ts.drop (k + 1)) known f=dR ts known f):=by show _=_; rw [HD.out,HT2.out,hh]; rfl
       go_wp2;go_roundw;case rel=>exact ⟨k + 1,by omega,by go_num,HP2,HB2⟩
       case measure=>simp [intOf] <;> omega
  ·have HN:Hid (dR ts known f=false):=by show _=_; rw [← HP.out,List.drop_of_length_le (by omega)]; rfl
   go_wp2;go_ret;exact ⟨by rw [HN.out]; rfl,HBW.out⟩
set_option maxHeartbeats 8000000 in
theorem AU (v0:Value) (adT:Option Addr) (capT:Nat) (ts:List Tp) (adE:Option Addr) (capE:Nat) (rows:List ER) (n:Nat) (adK:Option Addr) (capK:Nat) (known:List Fc) (adR:Option Addr) (capR:Nat) (truth:List Fc) (f:Fc) (w:World) (hW:HW w adT ts adE rows adK known adR truth) (hn:n < rows.length) (hre:rows.length≤1000) (hkl:known.length≤1048576) (htl:ts.length≤1048576) (hk:rows[n].e.kind=3) :
  Calls Tryz.prog 60 #[v0,.slice adT ts.length capT,.slice adE rows.length capE,.int .i64 (n:Int),.slice adK known.length capK,.slice adR truth.length capR,.agg #[.string f.a,.string f.b,.string f.r,.string f.c,.string f.d]] w fun e w'=>e=.returned (.bool (eX ts known rows[n].e.over rows[n].e.name f))∧Below w.heap.size w w':=by
 obtain ⟨b,off,hadr,⟨t0,t1,t2,t3,t4⟩,hbl,-⟩:=dZ.at0 hW.ex hn;have HW0:=az hW;obtain ⟨W0,hW0⟩:∃ W0,W0=BX w f rows[n]:=⟨_,rfl⟩;have HB0:Hid (Below w.heap.size w W0):=by show Below _ _ _; rw [hW0]; exact iH _ _ _
 have HE0:Hid (EnB W0 w.heap.size f rows[n]):=by show EnB _ _ _ _; rw [hW0]; exact kG _ _ _
 have hk1:(rows[n].e.kind == 1)=false:=by rw [hk]; rfl
 have hk2:(rows[n].e.kind == 2)=false:=by rw [hk]; rfl
 have hk3:(rows[n].e.kind == 3)=true:=by rw [hk]; rfl
 have hn1:(0:Int)≤(n:Int):=by omega
 have hn2:(n:Int) < (rows.length:Int):=by omega
 unfold BX at hW0;rw [hadr];clear hadr hW hk;go_enter Tryz.func60,Tryz.ntmps60;go_wp2_with fail;rw [← hW0];clear hW0 t0 t1 t2 t3 t4;go_loopw [18] (fun i wr=>∃ k:Nat,k≤ts.length∧i=.int .i64 k∧Hid (eX (ts.drop k) known rows[n].e.over rows[n].e.name f=eX ts known rows[n].e.over rows[n].e.name f)∧Hid (Below W0.heap.size W0 wr)) (fun i _=>ts.length - (intOf i).toNat);case atStart=>exact ⟨0,Nat.zero_le _,rfl,rfl,Below.refl _ _⟩
 case round =>
  obtain ⟨k,hk,rfl,HP,HB⟩:=hrel;have HBW:Hid (Below w.heap.size w wr):=HB0.out.trans (HB.out.mono HB0.out.size);by_cases hlt:k < ts.length
  ·obtain ⟨bT,offT,hadT,⟨a0,a1,a2,a3,a4,a5⟩,hbT⟩:=Sl.at0 (HW0.out.tup.below HBW.out) hlt;have hE:=HE0.out.below HB.out;have e0:=hE.f0;have e1:=hE.f1;have e2:=hE.f2;have e3:=hE.f3;have e4:=hE.f4;have el:w.heap.size < wr.heap.size:=by have:=hE.lt; omega
   have el2:w.heap.size + 1 < wr.heap.size:=hE.lt;have g2:=hE.x2;have g3:=hE.x3;have hi1:(0:Int)≤(k:Int):=by omega
   have hi2:(k:Int) < (ts.length:Int):=by omega
   obtain ⟨W1,hW1⟩:∃ W1,W1=wr.alloc (.cells #[.string ts[k].a,.string ts[k].b,.string ts[k].r,.string ts[k].c,.string ts[k].d,.string ts[k].s] 73):=⟨_,rfl⟩;have HBr:Hid (Below wr.heap.size wr W1):=by show Below _ _ _; rw [hW1]; exact (Below.refl _ _).alloc (Nat.le_refl _) _
   have HB1:Hid (Below W0.heap.size W0 W1):=HB.out.trans (HBr.out.mono HB.out.size);have HBW1:Hid (Below w.heap.size w W1):=HBW.out.trans (HBr.out.mono HBW.out.size);have HD:Hid (eX ts known rows[n].e.over rows[n].e.name f=(yS known rows[n].e.over rows[n].e.name f ts[k] || eX (ts.drop (k + 1)) known rows[n].e.over rows[n].e.name f)):=by show _=_; rw [← HP.out]; exact D6 hlt known _ _ f
   rw [hadT];clear hadT hE;cases ho:qN ts[k].a ts[k].b f.a f.b with
   | false =>
    have hoeq:=cu _ _ _ _ ho;have HP2:Hid (eX (ts.drop (k + 1)) known rows[n].e.over rows[n].e.name f=eX ts known rows[n].e.over rows[n].e.name f):=by
     show _=_;unfold qN at ho;rw [HD.out]; unfold yS; rw [ho]; rfl
    clear ho;go_wp2;rw [← hW1];clear hW1;go_roundw;case rel=>exact ⟨k + 1,by omega,by go_num,HP2,HB1⟩
    case measure=>simp [intOf] <;> omega
   | true =>
    have hoeq:=cu _ _ _ _ ho;have HO:Hid (qN ts[k].a ts[k].b f.a f.b=true):=ho;clear ho;cases hr:(ts[k].r.toList == rows[n].e.over.toList) with
    | false =>
     have HP2:Hid (eX (ts.drop (k + 1)) known rows[n].e.over rows[n].e.name f=eX ts known rows[n].e.over rows[n].e.name f):=by
      show _=_;have h2:=HO.out;unfold qN at h2;rw [HD.out]; unfold yS; rw [h2,hr]; rfl
     go_wp2;rw [← hW1];clear hW1;go_roundw;case rel=>exact ⟨k + 1,by omega,by go_num,HP2,HB1⟩
     case measure=>simp [intOf] <;> omega
    | true =>
     have HT2:Hid (yS known rows[n].e.over rows[n].e.name f ts[k]=dQ known ⟨ts[k].c,ts[k].d,rows[n].e.name,f.c,f.d⟩):=by
      show _=_;have h2:=HO.out;unfold qN at h2;unfold yS; rw [h2,hr]; rfl
     go_wp2_with fail;rw [← hW1];clear hW1;refine (nI adK capK known ⟨ts[k].c,ts[k].d,rows[n].e.name,f.c,f.d⟩ W1 hkl (HW0.out.kn.below HBW1.out)).mono ?_;rintro e w2 ⟨rfl,hb2⟩;have HB2:Hid (Below W0.heap.size W0 w2):=HB1.out.trans (hb2.mono HB1.out.size);have HBW2:Hid (Below w.heap.size w w2):=HBW1.out.trans (hb2.mono HBW1.out.size);clear hb2;cases hh:dQ known ⟨ts[k].c,ts[k].d,rows[n].e.name,f.c,f.d⟩ with
     | true =>
      have HN:Hid (eX ts known rows[n].e.over rows[n].e.name f=true):=by show _=_; rw [HD.out,HT2.out,hh]; rfl
      go_wp2;go_ret;exact ⟨by rw [HN.out]; rfl,HBW2.out⟩
     | false =>
      have HP2:Hid (eX (ts.drop (k + 1)) known rows[n].e.over rows[n].e.name f=eX ts known rows[n].e.over rows[n].e.name f):=by show _=_; rw [HD.out,HT2.out,hh]; rfl
      go_wp2;go_roundw;case rel=>exact ⟨k + 1,by omega,by go_num,HP2,HB2⟩
      case measure=>simp [intOf] <;> omega
  ·have HN:Hid (eX ts known rows[n].e.over rows[n].e.name f=false):=by show _=_; rw [← HP.out,List.drop_of_length_le (by omega)]; rfl
   go_wp2;go_ret;exact ⟨by rw [HN.out]; rfl,HBW.out⟩
theorem Hd (p:Int→Bool) {zs:List Int} {k:Nat} (h:k < zs.length):(zs.drop k).any p=(p zs[k] || (zs.drop (k + 1)).any p):=by rw [List.drop_eq_getElem_cons h]; rfl
theorem He (p:Int→Bool) {zs:List Int} {k:Nat} (h:k < zs.length):(zs.drop k).all p=(p zs[k] && (zs.drop (k + 1)).all p):=by rw [List.drop_eq_getElem_cons h]; rfl
def JV (v0 vT vE vK vR:Value) (f:Fc) (w:World) (i:Int) (b:Bool):Prop:=∀ w1:World,Below w.heap.size w w1→Calls Tryz.prog 60 #[v0,vT,vE,.int .i64 i,vK,vR,.agg #[.string f.a,.string f.b,.string f.r,.string f.c,.string f.d]] w1 fun e w'=>e=.returned (.bool b)∧Below w1.heap.size w1 w'
theorem AV {w W w':World} {B bK:Nat} {y x0 x1 x2 x3 x4 z:Value} {o4 oK:Nat} (h:W.cell? ⟨B + 1,o4,none⟩=some y∧W.cell? ⟨B,0,none⟩=some x0∧W.cell? ⟨B,1,none⟩=some x1∧W.cell? ⟨B,2,none⟩=some x2∧W.cell? ⟨B,3,none⟩=some x3∧W.cell? ⟨B,4,none⟩=some x4∧W.cell? ⟨bK,oK,none⟩=some z∧B + 1 < W.heap.size∧bK < W.heap.size∧Below w.heap.size w W) (hb:Below W.heap.size W w'):w'.cell? ⟨B + 1,o4,none⟩=some y∧w'.cell? ⟨B,0,none⟩=some x0∧w'.cell? ⟨B,1,none⟩=some x1∧w'.cell? ⟨B,2,none⟩=some x2∧w'.cell? ⟨B,3,none⟩=some x3∧w'.cell? ⟨B,4,none⟩=some x4∧w'.cell? ⟨bK,oK,none⟩=some z∧B + 1 < w'.heap.size∧bK < w'.heap.size∧Below w.heap.size w w':=by
 obtain ⟨h0,g0,g1,g2,g3,g4,g5,hn,hm,hB⟩:=h;have hl:B < W.heap.size:=by omega
 have hc:∀ o,w'.cell? ⟨B,o,none⟩=W.cell? ⟨B,o,none⟩:=fun o=>hb.cell (p:=⟨B,o,none⟩) hl;exact ⟨(hb.cell (p:=⟨B + 1,o4,none⟩) hn).trans h0,(hc _).trans g0,(hc _).trans g1,(hc _).trans g2,(hc _).trans g3,(hc _).trans g4,(hb.cell (p:=⟨bK,oK,none⟩) hm).trans g5,Nat.lt_of_lt_of_le hn hb.size,Nat.lt_of_lt_of_le hm hb.size,hB.trans (hb.mono hB.size)⟩
set_option maxHeartbeats 8000000 in
theorem xY (H:Int→Bool) (v0 vT:Value) (adE:Option Addr) (capE:Nat) (rows:List ER) (n:Nat) (vK vR:Value) (f:Fc) (w:World) (hex:dZ w adE rows) (hn:n < rows.length) (hre:rows.length≤1000) (hkl:rows[n].e.kids.length≤1000) (hk:rows[n].e.kind=4) (hIH:∀ i ∈ rows[n].e.kids,JV v0 vT (.slice adE rows.length capE) vK vR f w i (H i)) :
  Calls Tryz.prog 60 #[v0,vT,.slice adE rows.length capE,.int .i64 (n:Int),vK,vR,.agg #[.string f.a,.string f.b,.string f.r,.string f.c,.string f.d]] w fun e w'=>e=.returned (.bool (rows[n].e.kids.any H))∧Below w.heap.size w w':=by
 obtain ⟨b,off,hadr,⟨t0,t1,t2,t3,t4⟩,hbl,hok⟩:=dZ.at0 hex hn;have HK:=az hok.2;have HIH:=az hIH;obtain ⟨W0,hW0⟩:∃ W0,W0=BX w f rows[n]:=⟨_,rfl⟩;have HB0:Hid (Below w.heap.size w W0):=by show Below _ _ _; rw [hW0]; exact iH _ _ _
 have HE0:Hid (EnB W0 w.heap.size f rows[n]):=by show EnB _ _ _ _; rw [hW0]; exact kG _ _ _
 have hk1:(rows[n].e.kind == 1)=false:=by rw [hk]; rfl
 have hk2:(rows[n].e.kind == 2)=false:=by rw [hk]; rfl
 have hk3:(rows[n].e.kind == 3)=false:=by rw [hk]; rfl
 have hk4:(rows[n].e.kind == 4)=true:=by rw [hk]; rfl
 have hn1:(0:Int)≤(n:Int):=by omega
 have hn2:(n:Int) < (rows.length:Int):=by omega
 unfold BX at hW0;rw [hadr] at HIH ⊢;clear hadr hex hk hIH hok;go_enter Tryz.func60,Tryz.ntmps60;go_wp2_with fail;rw [← hW0];clear hW0 t0 t1 t2 t3 t4;go_loopw [20] (fun i wr=>∃ k:Nat,k≤rows[n].e.kids.length∧i=.int .i64 k∧Hid ((rows[n].e.kids.drop k).any H=rows[n].e.kids.any H)∧Hid (Below W0.heap.size W0 wr)) (fun i _=>rows[n].e.kids.length - (intOf i).toNat);case atStart=>exact ⟨0,Nat.zero_le _,rfl,rfl,Below.refl _ _⟩
 case round =>
  obtain ⟨k,hk,rfl,HP,HB⟩:=hrel;have HBW:Hid (Below w.heap.size w wr):=HB0.out.trans (HB.out.mono HB0.out.size);have hE:=HE0.out.below HB.out;have e0:=hE.f0;have e1:=hE.f1;have e2:=hE.f2;have e3:=hE.f3;have e4:=hE.f4;have y4:=hE.x4;have el2:w.heap.size + 1 < wr.heap.size:=hE.lt;clear hE;by_cases hlt:k < rows[n].e.kids.length
  ·obtain ⟨bK,offK,hadK,z0,hbK⟩:=kV.at0 (HK.out.below HBW.out) hlt;rw [hadK] at y4;have hi1:(0:Int)≤(k:Int):=by omega
   have hi2:(k:Int) < (rows[n].e.kids.length:Int):=by omega
   have HD:Hid (rows[n].e.kids.any H=(H rows[n].e.kids[k] || (rows[n].e.kids.drop (k + 1)).any H)):=by show _=_; rw [← HP.out]; exact Hd H hlt
   have HC:=az (HIH.out _ (List.getElem_mem hlt));have HCALL:∀ v:Bool,H rows[n].e.kids[k]=v→Hid (∀ W':World,(W'.cell? ⟨w.heap.size + 1,4,none⟩=some (.slice (some ⟨bK,offK,none⟩) rows[n].e.kids.length rows[n].capK)∧W'.cell? ⟨w.heap.size,0,none⟩=some (.string f.a)∧W'.cell? ⟨w.heap.size,1,none⟩=some (.string f.b)∧W'.cell? ⟨w.heap.size,2,none⟩=some (.string f.r)∧W'.cell? ⟨w.heap.size,3,none⟩=some (.string f.c)∧W'.cell? ⟨w.heap.size,4,none⟩=some (.string f.d)∧W'.cell? ⟨bK,offK + k,none⟩=some (.int .i64 rows[n].e.kids[k])∧w.heap.size + 1 < W'.heap.size∧bK < W'.heap.size∧Below wr.heap.size wr W')→Calls Tryz.prog 60 #[v0,vT,.slice (some ⟨b,off,none⟩) rows.length capE,.int .i64 rows[n].e.kids[k],vK,vR,.agg #[.string f.a,.string f.b,.string f.r,.string f.c,.string f.d]] W' fun e w'=>e=.returned (.bool v)∧Below W'.heap.size W' w'):=fun v hv W' h=>by
    have hb':=h.2.2.2.2.2.2.2.2.2;rw [← hv];exact HC.out W' (HBW.out.trans (hb'.mono HBW.out.size))
   clear hadK;cases hh:H rows[n].e.kids[k] with
   | true =>
    have HN:Hid (rows[n].e.kids.any H=true):=by show _=_; rw [HD.out,hh]; rfl
    have HCL:=HCALL _ hh;clear hh HC HCALL;go_wp2_with fail
    go_region_held3 (fun w'=>w'.cell? ⟨w.heap.size + 1,4,none⟩=some (.slice (some ⟨bK,offK,none⟩) rows[n].e.kids.length rows[n].capK)∧w'.cell? ⟨w.heap.size,0,none⟩=some (.string f.a)∧w'.cell? ⟨w.heap.size,1,none⟩=some (.string f.b)∧w'.cell? ⟨w.heap.size,2,none⟩=some (.string f.r)∧w'.cell? ⟨w.heap.size,3,none⟩=some (.string f.c)∧w'.cell? ⟨w.heap.size,4,none⟩=some (.string f.d)∧w'.cell? ⟨bK,offK + k,none⟩=some (.int .i64 rows[n].e.kids[k])∧w.heap.size + 1 < w'.heap.size∧bK < w'.heap.size∧Below wr.heap.size wr w')
     (first | assumption | exact AV (by assumption) hbx | exact ⟨y4,e0,e1,e2,e3,e4,z0,el2,hbK,(Below.refl _ _).drew⟩)
     (first | (go_at_call 60; refine (HCL.out _ (by assumption)).mono ?_; rintro e w' ⟨rfl,hbx⟩))
    rename_i hH;have HG:=az hH.2.2.2.2.2.2.2.2.2;clear hH hbx y4 e0 e1 e2 e3 e4 z0 el2;go_wp2;go_ret;exact ⟨by rw [HN.out]; rfl,HBW.out.trans (HG.out.mono HBW.out.size)⟩
   | false =>
    have HP2:Hid ((rows[n].e.kids.drop (k + 1)).any H=rows[n].e.kids.any H):=by show _=_; rw [HD.out,hh]; rfl
    have HCL:=HCALL _ hh;clear hh HC HCALL;go_wp2_with fail
    go_region_held3 (fun w'=>w'.cell? ⟨w.heap.size + 1,4,none⟩=some (.slice (some ⟨bK,offK,none⟩) rows[n].e.kids.length rows[n].capK)∧w'.cell? ⟨w.heap.size,0,none⟩=some (.string f.a)∧w'.cell? ⟨w.heap.size,1,none⟩=some (.string f.b)∧w'.cell? ⟨w.heap.size,2,none⟩=some (.string f.r)∧w'.cell? ⟨w.heap.size,3,none⟩=some (.string f.c)∧w'.cell? ⟨w.heap.size,4,none⟩=some (.string f.d)∧w'.cell? ⟨bK,offK + k,none⟩=some (.int .i64 rows[n].e.kids[k])∧w.heap.size + 1 < w'.heap.size∧bK < w'.heap.size∧Below wr.heap.size wr w')
     (first | assumption | exact AV (by assumption) hbx | exact ⟨y4,e0,e1,e2,e3,e4,z0,el2,hbK,(Below.refl _ _).drew⟩)
     (first | (go_at_call 60; refine (HCL.out _ (by assumption)).mono ?_; rintro e w' ⟨rfl,hbx⟩))
    rename_i hH;have HG:=az hH.2.2.2.2.2.2.2.2.2;have HB2:=az (HB.out.trans (HG.out.mono HB.out.size));clear hH hbx y4 e0 e1 e2 e3 e4 z0 el2;go_wp2;go_roundw;case rel=>exact ⟨k + 1,by omega,by go_num,HP2,HB2⟩
    case measure=>simp [intOf] <;> omega
  ·have HN:Hid (rows[n].e.kids.any H=false):=by show _=_; rw [← HP.out,List.drop_of_length_le (by omega)]; rfl
   go_wp2;go_ret;exact ⟨by rw [HN.out]; rfl,HBW.out⟩
set_option maxHeartbeats 8000000 in
theorem AX (H:Int→Bool) (v0 vT:Value) (adE:Option Addr) (capE:Nat) (rows:List ER) (n:Nat) (vK vR:Value) (f:Fc) (w:World) (hex:dZ w adE rows) (hn:n < rows.length) (hre:rows.length≤1000) (hkl:rows[n].e.kids.length≤1000) (hk:rows[n].e.kind=5) (hIH:∀ i ∈ rows[n].e.kids,JV v0 vT (.slice adE rows.length capE) vK vR f w i (H i)) :
  Calls Tryz.prog 60 #[v0,vT,.slice adE rows.length capE,.int .i64 (n:Int),vK,vR,.agg #[.string f.a,.string f.b,.string f.r,.string f.c,.string f.d]] w fun e w'=>e=.returned (.bool (rows[n].e.kids.all H))∧Below w.heap.size w w':=by
 obtain ⟨b,off,hadr,⟨t0,t1,t2,t3,t4⟩,hbl,hok⟩:=dZ.at0 hex hn;have HK:=az hok.2;have HIH:=az hIH;obtain ⟨W0,hW0⟩:∃ W0,W0=BX w f rows[n]:=⟨_,rfl⟩;have HB0:Hid (Below w.heap.size w W0):=by show Below _ _ _; rw [hW0]; exact iH _ _ _
 have HE0:Hid (EnB W0 w.heap.size f rows[n]):=by show EnB _ _ _ _; rw [hW0]; exact kG _ _ _
 have hk1:(rows[n].e.kind == 1)=false:=by rw [hk]; rfl
 have hk2:(rows[n].e.kind == 2)=false:=by rw [hk]; rfl
 have hk3:(rows[n].e.kind == 3)=false:=by rw [hk]; rfl
 have hk4:(rows[n].e.kind == 4)=false:=by rw [hk]; rfl
 have hk5:(rows[n].e.kind == 5)=true:=by rw [hk]; rfl
 have hn1:(0:Int)≤(n:Int):=by omega
 have hn2:(n:Int) < (rows.length:Int):=by omega
 unfold BX at hW0;rw [hadr] at HIH ⊢;clear hadr hex hk hIH hok;go_enter Tryz.func60,Tryz.ntmps60;go_wp2_with fail;rw [← hW0];clear hW0 t0 t1 t2 t3 t4;go_loopw [21] (fun i wr=>∃ k:Nat,k≤rows[n].e.kids.length∧i=.int .i64 k∧Hid ((rows[n].e.kids.drop k).all H=rows[n].e.kids.all H)∧Hid (Below W0.heap.size W0 wr)) (fun i _=>rows[n].e.kids.length - (intOf i).toNat);case atStart=>exact ⟨0,Nat.zero_le _,rfl,rfl,Below.refl _ _⟩
 case round =>
  obtain ⟨k,hk,rfl,HP,HB⟩:=hrel;have HBW:Hid (Below w.heap.size w wr):=HB0.out.trans (HB.out.mono HB0.out.size);have hE:=HE0.out.below HB.out;have e0:=hE.f0;have e1:=hE.f1;have e2:=hE.f2;have e3:=hE.f3;have e4:=hE.f4;have y4:=hE.x4;have el2:w.heap.size + 1 < wr.heap.size:=hE.lt;clear hE;by_cases hlt:k < rows[n].e.kids.length
  ·obtain ⟨bK,offK,hadK,z0,hbK⟩:=kV.at0 (HK.out.below HBW.out) hlt;rw [hadK] at y4;have hi1:(0:Int)≤(k:Int):=by omega
   have hi2:(k:Int) < (rows[n].e.kids.length:Int):=by omega
   have HD:Hid (rows[n].e.kids.all H=(H rows[n].e.kids[k] && (rows[n].e.kids.drop (k + 1)).all H)):=by show _=_; rw [← HP.out]; exact He H hlt
   have HC:=az (HIH.out _ (List.getElem_mem hlt));have HCALL:∀ v:Bool,H rows[n].e.kids[k]=v→Hid (∀ W':World,(W'.cell? ⟨w.heap.size + 1,4,none⟩=some (.slice (some ⟨bK,offK,none⟩) rows[n].e.kids.length rows[n].capK)∧W'.cell? ⟨w.heap.size,0,none⟩=some (.string f.a)∧W'.cell? ⟨w.heap.size,1,none⟩=some (.string f.b)∧W'.cell? ⟨w.heap.size,2,none⟩=some (.string f.r)∧W'.cell? ⟨w.heap.size,3,none⟩=some (.string f.c)∧W'.cell? ⟨w.heap.size,4,none⟩=some (.string f.d)∧W'.cell? ⟨bK,offK + k,none⟩=some (.int .i64 rows[n].e.kids[k])∧w.heap.size + 1 < W'.heap.size∧bK < W'.heap.size∧Below wr.heap.size wr W')→Calls Tryz.prog 60 #[v0,vT,.slice (some ⟨b,off,none⟩) rows.length capE,.int .i64 rows[n].e.kids[k],vK,vR,.agg #[.string f.a,.string f.b,.string f.r,.string f.c,.string f.d]] W' fun e w'=>e=.returned (.bool v)∧Below W'.heap.size W' w'):=fun v hv W' h=>by
    have hb':=h.2.2.2.2.2.2.2.2.2;rw [← hv];exact HC.out W' (HBW.out.trans (hb'.mono HBW.out.size))
   clear hadK;cases hh:H rows[n].e.kids[k] with
   | false =>
    have HN:Hid (rows[n].e.kids.all H=false):=by show _=_; rw [HD.out,hh]; rfl
    have HCL:=HCALL _ hh;clear hh HC HCALL;go_wp2_with fail
    go_region_held3 (fun w'=>w'.cell? ⟨w.heap.size + 1,4,none⟩=some (.slice (some ⟨bK,offK,none⟩) rows[n].e.kids.length rows[n].capK)∧w'.cell? ⟨w.heap.size,0,none⟩=some (.string f.a)∧w'.cell? ⟨w.heap.size,1,none⟩=some (.string f.b)∧w'.cell? ⟨w.heap.size,2,none⟩=some (.string f.r)∧w'.cell? ⟨w.heap.size,3,none⟩=some (.string f.c)∧w'.cell? ⟨w.heap.size,4,none⟩=some (.string f.d)∧w'.cell? ⟨bK,offK + k,none⟩=some (.int .i64 rows[n].e.kids[k])∧w.heap.size + 1 < w'.heap.size∧bK < w'.heap.size∧Below wr.heap.size wr w')
     (first | assumption | exact AV (by assumption) hbx | exact ⟨y4,e0,e1,e2,e3,e4,z0,el2,hbK,(Below.refl _ _).drew⟩)
     (first | (go_at_call 60; refine (HCL.out _ (by assumption)).mono ?_; rintro e w' ⟨rfl,hbx⟩))
    rename_i hH;have HG:=az hH.2.2.2.2.2.2.2.2.2;clear hH hbx y4 e0 e1 e2 e3 e4 z0 el2;go_wp2;go_ret;exact ⟨by rw [HN.out]; rfl,HBW.out.trans (HG.out.mono HBW.out.size)⟩
   | true =>
    have HP2:Hid ((rows[n].e.kids.drop (k + 1)).all H=rows[n].e.kids.all H):=by show _=_; rw [HD.out,hh]; rfl
    have HCL:=HCALL _ hh;clear hh HC HCALL;go_wp2_with fail
    go_region_held3 (fun w'=>w'.cell? ⟨w.heap.size + 1,4,none⟩=some (.slice (some ⟨bK,offK,none⟩) rows[n].e.kids.length rows[n].capK)∧w'.cell? ⟨w.heap.size,0,none⟩=some (.string f.a)∧w'.cell? ⟨w.heap.size,1,none⟩=some (.string f.b)∧w'.cell? ⟨w.heap.size,2,none⟩=some (.string f.r)∧w'.cell? ⟨w.heap.size,3,none⟩=some (.string f.c)∧w'.cell? ⟨w.heap.size,4,none⟩=some (.string f.d)∧w'.cell? ⟨bK,offK + k,none⟩=some (.int .i64 rows[n].e.kids[k])∧w.heap.size + 1 < w'.heap.size∧bK < w'.heap.size∧Below wr.heap.size wr w')
     (first | assumption | exact AV (by assumption) hbx | exact ⟨y4,e0,e1,e2,e3,e4,z0,el2,hbK,(Below.refl _ _).drew⟩)
     (first | (go_at_call 60; refine (HCL.out _ (by assumption)).mono ?_; rintro e w' ⟨rfl,hbx⟩))
    rename_i hH;have HG:=az hH.2.2.2.2.2.2.2.2.2;have HB2:=az (HB.out.trans (HG.out.mono HB.out.size));clear hH hbx y4 e0 e1 e2 e3 e4 z0 el2;go_wp2;go_roundw;case rel=>exact ⟨k + 1,by omega,by go_num,HP2,HB2⟩
    case measure=>simp [intOf] <;> omega
  ·have HN:Hid (rows[n].e.kids.all H=true):=by show _=_; rw [← HP.out,List.drop_of_length_le (by omega)]; rfl
   go_wp2;go_ret;exact ⟨by rw [HN.out]; rfl,HBW.out⟩
end Go.Proofs.YtogjfppkbkgaeaaGreat
