/- The document's question of a node that is told by tuples, or that names a relation. -/
import Derived.Test.YtdmniljjnaebbaaGreatDoorSq
import Derived.Test.YtdmniljjnaebbaaGreatDoorJ16
open Go.Proofs.Tryz
set_option maxHeartbeats 80000000
namespace Go.Proofs.YtdmniljjnaebbaaGreatDoor
set_option linter.unusedVariables false
set_option maxRecDepth 100000
open Go.ChangeShapes Go.WideShapes Go.ChangeAt Go.RowKit Go.Maps
open Pl
theorem FB (v0:Value) (U2:Option Addr) (Uv:Nat) (ts:List Tp) (Tm:Option Addr) (capE:Nat) (rows:List ER) (n:Nat) (adK:Option Addr) (capK:Nat) (known:List Fc) (UI:Option Addr) (Ui:Nat) (truth:List Fc) (f:Fc) (w:af) (hW:HW w U2 ts Tm rows adK known UI truth) (hn:n < rows.length) (hre:rows.length≤1000) (hkl:known.length≤1048576) (hk:rows[n].e.kind=2) :
  Calls prog 85 #[v0,.slice U2 ts.length Uv,.slice Tm rows.length capE,.int .i64 (n:Int),.slice adK known.length capK,.slice UI truth.length Ui,.agg #[.string f.a,.string f.b,.string f.r,.string f.c,.string f.d]] w fun e w'=>e=.returned (.bool (dG known ⟨f.a,f.b,rows[n].e.name,f.c,f.d⟩))∧aa w w':=by
 obtain ⟨b,off,Tq,⟨t0,t1,t2,t3,t4⟩,hbl,-⟩:=fQ.at0 hW.ex hn;have HW0:=aj hW;obtain ⟨W0,hW0⟩:∃ W0,W0=EO w f rows[n]:=⟨_,rfl⟩;have HB0:Hid (aa w W0):=by show Below _ _ _; rw [hW0]; exact jm _ _ _
 have hk1:(rows[n].e.kind == 1)=false:=by rw [hk]; rfl
 have hk2:(rows[n].e.kind == 2)=true:=by rw [hk]; rfl
 have hn1:=bH n;have hn2:(n:Int) < (rows.length:Int):=by omega
 unfold EO at hW0;rw [Tq];clear Tq hW hk;go_enter func85,ntmps85;go_wp2_with fail;rw [← hW0];refine (mE adK capK known ⟨f.a,f.b,rows[n].e.name,f.c,f.d⟩ W0 hkl (HW0.out.kn.below HB0.out)).mono ?_;rintro e w1 ⟨rfl,hb1⟩;have HB1:=aj (HB0.out.trans (hb1.mono HB0.out.size));clear hb1 hW0;go_wp2;go_ret;exact ⟨rfl,HB1.out⟩
theorem Ip (v0:Value) (U2:Option Addr) (Uv:Nat) (ts:List Tp) (Tm:Option Addr) (capE:Nat) (rows:List ER) (n:Nat) (vK vR:Value) (f:Fc) (w:af) (hex:fQ w Tm rows) (hn:n < rows.length) (hre:rows.length≤1000) (k1:rows[n].e.kind ≠ 1) (k2:rows[n].e.kind ≠ 2) (k3:rows[n].e.kind ≠ 3) (k4:rows[n].e.kind ≠ 4) (k5:rows[n].e.kind ≠ 5) (k6:rows[n].e.kind ≠ 6) :
  Calls prog 85 #[v0,.slice U2 ts.length Uv,.slice Tm rows.length capE,.int .i64 (n:Int),vK,vR,.agg #[.string f.a,.string f.b,.string f.r,.string f.c,.string f.d]] w fun e w'=>e=.returned (.bool false)∧aa w w':=by
 obtain ⟨b,off,Tq,⟨t0,t1,t2,t3,t4⟩,hbl,-⟩:=fQ.at0 hex hn;have HB0:=aj (jm w f rows[n]);unfold EO at HB0;have hk1:(rows[n].e.kind == 1)=false:=by simpa using k1
 have hk2:(rows[n].e.kind == 2)=false:=by simpa using k2
 have hk3:(rows[n].e.kind == 3)=false:=by simpa using k3
 have hk4:(rows[n].e.kind == 4)=false:=by simpa using k4
 have hk5:(rows[n].e.kind == 5)=false:=by simpa using k5
 have hk6:(rows[n].e.kind == 6)=false:=by simpa using k6
 have hn1:=bH n;have hn2:(n:Int) < (rows.length:Int):=by omega
 rw [Tq];clear Tq hex k1 k2 k3 k4 k5 k6;go_enter func85,ntmps85;go_wp2;go_ret;exact ⟨rfl,HB0.out⟩
theorem Dj (v0:Value) (U2:Option Addr) (Uv:Nat) (ts:List Tp) (Tm:Option Addr) (capE:Nat) (rows:List ER) (n:Nat) (adK:Option Addr) (capK:Nat) (known:List Fc) (UI:Option Addr) (Ui:Nat) (truth:List Fc) (f:Fc) (w:af) (hW:HW w U2 ts Tm rows adK known UI truth) (hn:n < rows.length) (hre:rows.length≤1000) (hkl:known.length≤1048576) (htl:ts.length≤1048576) (hk:rows[n].e.kind=1) :
  Calls prog 85 #[v0,.slice U2 ts.length Uv,.slice Tm rows.length capE,.int .i64 (n:Int),.slice adK known.length capK,.slice UI truth.length Ui,.agg #[.string f.a,.string f.b,.string f.r,.string f.c,.string f.d]] w fun e w'=>e=.returned (.bool (eu ts known f))∧aa w w':=by
 obtain ⟨b,off,Tq,⟨t0,t1,t2,t3,t4⟩,hbl,-⟩:=fQ.at0 hW.ex hn;have HW0:=aj hW;obtain ⟨W0,hW0⟩:∃ W0,W0=EO w f rows[n]:=⟨_,rfl⟩;have HB0:Hid (aa w W0):=by show Below _ _ _; rw [hW0]; exact jm _ _ _
 have Vk:Hid (EnB W0 w.heap.size f rows[n]):=by show EnB _ _ _ _; rw [hW0]; exact mG _ _ _
 have hk1:(rows[n].e.kind == 1)=true:=by rw [hk]; rfl
 have hn1:=bH n;have hn2:(n:Int) < (rows.length:Int):=by omega
 unfold EO at hW0;rw [Tq];clear Tq hW hk;go_enter func85,ntmps85;go_wp2_with fail;rw [← hW0];clear hW0 t0 t1 t2 t3 t4;go_loopw [16] (fun i wr=>∃ k:Nat,k≤ts.length∧i=.int .i64 k∧Hid (eu (ts.drop k) known f=eu ts known f)∧Hid (aa W0 wr)) (fun i _=>ts.length - (intOf i).toNat);case atStart=>exact ⟨0,Sm _,rfl,rfl,Si _ _⟩
 obtain ⟨k,hk,rfl,HP,HB⟩:=hrel;have Tt:Hid (aa w wr):=HB0.out.trans (HB.out.mono HB0.out.size);by_cases hlt:k < ts.length
 ·obtain ⟨bT,offT,VH,⟨a0,a1,a2,a3,a4,a5⟩,hbT⟩:=Sl.at0 (HW0.out.tup.below Tt.out) hlt;have hE:=Vk.out.below HB.out;have e0:=hE.f0;have e1:=hE.f1;have e2:=hE.f2;have e3:=hE.f3;have e4:=hE.f4;have el:w.heap.size < wr.heap.size:=by have:=hE.lt; omega
  have hi1:=bH k;have hi2:(k:Int) < (ts.length:Int):=by omega
  obtain ⟨W1,hW1⟩:∃ W1,W1=wr.alloc (.cells #[.string ts[k].a,.string ts[k].b,.string ts[k].r,.string ts[k].c,.string ts[k].d,.string ts[k].s] 42):=⟨_,rfl⟩;have TT:=mY hW1;have HB1:Hid (aa W0 W1):=HB.out.trans (TT.out.mono HB.out.size);have T9:Hid (aa w W1):=Tt.out.trans (TT.out.mono Tt.out.size);have HD:Hid (eu ts known f=(yS known f ts[k] || eu (ts.drop (k + 1)) known f)):=by show _=_; rw [← HP.out]; exact Ht hlt known f
  rw [VH];clear VH hE;cases ho:yR ts[k].a ts[k].b f.a f.b;case false=>
   have hneq:=EN _ _ _ _ ho;have Tu:Hid (eu (ts.drop (k + 1)) known f=eu ts known f):=by
    show _=_;unfold yR at ho;rw [HD.out]; unfold yS; rw [ho]; rfl
   clear ho;go_wp2;rw [← hW1];clear hW1;go_roundw;case rel=>exact ⟨k + 1,by omega,by go_num,Tu,HB1⟩
   simp [intOf] <;> omega
  have hneq:=EN _ _ _ _ ho;have HO:Hid (yR ts[k].a ts[k].b f.a f.b=true):=ho;clear ho;cases hr:(ts[k].r.toList == f.r.toList);case false=>
   have Tu:Hid (eu (ts.drop (k + 1)) known f=eu ts known f):=by
    show _=_;have h2:=HO.out;unfold yR at h2;rw [HD.out]; unfold yS; rw [h2,hr]; rfl
   go_wp2;rw [← hW1];clear hW1;go_roundw;case rel=>exact ⟨k + 1,by omega,by go_num,Tu,HB1⟩
   simp [intOf] <;> omega
  have HT:Hid (yS known f ts[k]=(if ts[k].s.toList.isEmpty then ts[k].c.toList == f.c.toList && ts[k].d.toList == f.d.toList else dG known ⟨ts[k].c,ts[k].d,ts[k].s,f.c,f.d⟩)):=by
   show _=_;have h2:=HO.out;unfold yR at h2;unfold yS; rw [h2,hr]; rfl
  cases hs:ts[k].s.toList.isEmpty;case true=>
   have hs2:(ts[k].s.toList == [])=true:=by rw [qa]; exact hs
   cases hu:yR ts[k].c ts[k].d f.c f.d;case true=>
    have heq:=iY _ _ _ _ hu;have HN:Hid (eu ts known f=true):=by
     show _=_;unfold yR at hu;rw [HD.out,HT.out,if_pos hs,hu]; rfl
    clear hu hs;go_wp2;rw [← hW1];go_ret;exact ⟨by rw [HN.out]; rfl,T9.out⟩
   have heq:=iY _ _ _ _ hu;have Tu:Hid (eu (ts.drop (k + 1)) known f=eu ts known f):=by
    show _=_;unfold yR at hu;rw [HD.out,HT.out,if_pos hs,hu]; rfl
   clear hu hs;go_wp2;rw [← hW1];clear hW1;go_roundw;case rel=>exact ⟨k + 1,by omega,by go_num,Tu,HB1⟩
   simp [intOf] <;> omega
  have hs2:(ts[k].s.toList == [])=false:=by rw [qa]; exact hs
  have HT2:Hid (yS known f ts[k]=dG known ⟨ts[k].c,ts[k].d,ts[k].s,f.c,f.d⟩):=by show _=_; rw [HT.out,if_neg (by rw [hs]; decide)]
  clear hs;go_wp2_with fail;rw [← hW1];clear hW1;refine (mE adK capK known ⟨ts[k].c,ts[k].d,ts[k].s,f.c,f.d⟩ W1 hkl (HW0.out.kn.below T9.out)).mono ?_;rintro e w2 ⟨rfl,hb2⟩;have HB2:=jb HB1 hb2;have Xr:=jb T9 hb2;clear hb2;cases hh:dG known ⟨ts[k].c,ts[k].d,ts[k].s,f.c,f.d⟩;case true=>
   have HN:Hid (eu ts known f=true):=by show _=_; rw [HD.out,HT2.out,hh]; rfl
   go_wp2;go_ret;exact ⟨by rw [HN.out]; rfl,Xr.out⟩
  have Tu:Hid (eu (ts.drop (k + 1)) known f=eu ts known f):=by show _=_; rw [HD.out,HT2.out,hh]; rfl
  go_wp2;go_roundw;case rel=>exact ⟨k + 1,by omega,by go_num,Tu,HB2⟩
  simp [intOf] <;> omega
 have HN:Hid (eu ts known f=false):=by show _=_; rw [← HP.out,List.drop_of_length_le (by omega)]; rfl
 go_wp2;go_ret;exact ⟨by rw [HN.out]; rfl,Tt.out⟩
end Go.Proofs.YtdmniljjnaebbaaGreatDoor
