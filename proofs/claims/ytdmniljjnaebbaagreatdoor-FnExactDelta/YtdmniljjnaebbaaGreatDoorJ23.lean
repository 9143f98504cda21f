/- The document's question of a node that goes over a relation. -/
import Derived.Test.YtdmniljjnaebbaaGreatDoorSq
import Derived.Test.YtdmniljjnaebbaaGreatDoorJ16
open Go.Proofs.Tryz
set_option maxHeartbeats 80000000
namespace Go.Proofs.YtdmniljjnaebbaaGreatDoor
set_option linter.unusedVariables false
set_option maxRecDepth 100000
open Go.ChangeShapes Go.WideShapes Go.ChangeAt Go.RowKit Go.Maps
open Pl
theorem Dk (v0:Value) (U2:Option Addr) (Uv:Nat) (ts:List Tp) (Tm:Option Addr) (capE:Nat) (rows:List ER) (n:Nat) (adK:Option Addr) (capK:Nat) (known:List Fc) (UI:Option Addr) (Ui:Nat) (truth:List Fc) (f:Fc) (w:af) (hW:HW w U2 ts Tm rows adK known UI truth) (hn:n < rows.length) (hre:rows.length≤1000) (hkl:known.length≤1048576) (htl:ts.length≤1048576) (hk:rows[n].e.kind=3) :
  Calls prog 85 #[v0,.slice U2 ts.length Uv,.slice Tm rows.length capE,.int .i64 (n:Int),.slice adK known.length capK,.slice UI truth.length Ui,.agg #[.string f.a,.string f.b,.string f.r,.string f.c,.string f.d]] w fun e w'=>e=.returned (.bool (fI ts known rows[n].e.over rows[n].e.name f))∧aa w w':=by
 obtain ⟨b,off,Tq,⟨t0,t1,t2,t3,t4⟩,hbl,-⟩:=fQ.at0 hW.ex hn;have HW0:=aj hW;obtain ⟨W0,hW0⟩:∃ W0,W0=EO w f rows[n]:=⟨_,rfl⟩;have HB0:Hid (aa w W0):=by show Below _ _ _; rw [hW0]; exact jm _ _ _
 have Vk:Hid (EnB W0 w.heap.size f rows[n]):=by show EnB _ _ _ _; rw [hW0]; exact mG _ _ _
 have hk1:(rows[n].e.kind == 1)=false:=by rw [hk]; rfl
 have hk2:(rows[n].e.kind == 2)=false:=by rw [hk]; rfl
 have hk3:(rows[n].e.kind == 3)=true:=by rw [hk]; rfl
 have hn1:=bH n;have hn2:(n:Int) < (rows.length:Int):=by omega
 unfold EO at hW0;rw [Tq];clear Tq hW hk;go_enter func85,ntmps85;go_wp2_with fail;rw [← hW0];clear hW0 t0 t1 t2 t3 t4;go_loopw [18] (fun i wr=>∃ k:Nat,k≤ts.length∧i=.int .i64 k∧Hid (fI (ts.drop k) known rows[n].e.over rows[n].e.name f=fI ts known rows[n].e.over rows[n].e.name f)∧Hid (aa W0 wr)) (fun i _=>ts.length - (intOf i).toNat);case atStart=>exact ⟨0,Sm _,rfl,rfl,Si _ _⟩
 obtain ⟨k,hk,rfl,HP,HB⟩:=hrel;have Tt:Hid (aa w wr):=HB0.out.trans (HB.out.mono HB0.out.size);by_cases hlt:k < ts.length
 ·obtain ⟨bT,offT,VH,⟨a0,a1,a2,a3,a4,a5⟩,hbT⟩:=Sl.at0 (HW0.out.tup.below Tt.out) hlt;have hE:=Vk.out.below HB.out;have e0:=hE.f0;have e1:=hE.f1;have e2:=hE.f2;have e3:=hE.f3;have e4:=hE.f4;have el:w.heap.size < wr.heap.size:=by have:=hE.lt; omega
  have el2:w.heap.size + 1 < wr.heap.size:=hE.lt;have g2:=hE.x2;have g3:=hE.x3;have hi1:=bH k;have hi2:(k:Int) < (ts.length:Int):=by omega
  obtain ⟨W1,hW1⟩:∃ W1,W1=wr.alloc (.cells #[.string ts[k].a,.string ts[k].b,.string ts[k].r,.string ts[k].c,.string ts[k].d,.string ts[k].s] 42):=⟨_,rfl⟩;have TT:=mY hW1;have HB1:Hid (aa W0 W1):=HB.out.trans (TT.out.mono HB.out.size);have T9:Hid (aa w W1):=Tt.out.trans (TT.out.mono Tt.out.size);have HD:Hid (fI ts known rows[n].e.over rows[n].e.name f=(Bz known rows[n].e.over rows[n].e.name f ts[k] || fI (ts.drop (k + 1)) known rows[n].e.over rows[n].e.name f)):=by show _=_; rw [← HP.out]; exact Hu hlt known _ _ f
  rw [VH];clear VH hE;cases ho:yR ts[k].a ts[k].b f.a f.b;case false=>
   have hoeq:=iY _ _ _ _ ho;have Tu:Hid (fI (ts.drop (k + 1)) known rows[n].e.over rows[n].e.name f=fI ts known rows[n].e.over rows[n].e.name f):=by
    show _=_;unfold yR at ho;rw [HD.out]; unfold Bz; rw [ho]; rfl
   clear ho;go_wp2;rw [← hW1];clear hW1;go_roundw;case rel=>exact ⟨k + 1,by omega,by go_num,Tu,HB1⟩
   simp [intOf] <;> omega
  have hoeq:=iY _ _ _ _ ho;have HO:Hid (yR ts[k].a ts[k].b f.a f.b=true):=ho;clear ho;cases hr:(ts[k].r.toList == rows[n].e.over.toList);case false=>
   have Tu:Hid (fI (ts.drop (k + 1)) known rows[n].e.over rows[n].e.name f=fI ts known rows[n].e.over rows[n].e.name f):=by
    show _=_;have h2:=HO.out;unfold yR at h2;rw [HD.out]; unfold Bz; rw [h2,hr]; rfl
   go_wp2;rw [← hW1];clear hW1;go_roundw;case rel=>exact ⟨k + 1,by omega,by go_num,Tu,HB1⟩
   simp [intOf] <;> omega
  have HT2:Hid (Bz known rows[n].e.over rows[n].e.name f ts[k]=dG known ⟨ts[k].c,ts[k].d,rows[n].e.name,f.c,f.d⟩):=by
   show _=_;have h2:=HO.out;unfold yR at h2;unfold Bz; rw [h2,hr]; rfl
  go_wp2_with fail;rw [← hW1];clear hW1;refine (mE adK capK known ⟨ts[k].c,ts[k].d,rows[n].e.name,f.c,f.d⟩ W1 hkl (HW0.out.kn.below T9.out)).mono ?_;rintro e w2 ⟨rfl,hb2⟩;have HB2:=jb HB1 hb2;have Xr:=jb T9 hb2;clear hb2;cases hh:dG known ⟨ts[k].c,ts[k].d,rows[n].e.name,f.c,f.d⟩;case true=>
   have HN:Hid (fI ts known rows[n].e.over rows[n].e.name f=true):=by show _=_; rw [HD.out,HT2.out,hh]; rfl
   go_wp2;go_ret;exact ⟨by rw [HN.out]; rfl,Xr.out⟩
  have Tu:Hid (fI (ts.drop (k + 1)) known rows[n].e.over rows[n].e.name f=fI ts known rows[n].e.over rows[n].e.name f):=by show _=_; rw [HD.out,HT2.out,hh]; rfl
  go_wp2;go_roundw;case rel=>exact ⟨k + 1,by omega,by go_num,Tu,HB2⟩
  simp [intOf] <;> omega
 have HN:Hid (fI ts known rows[n].e.over rows[n].e.name f=false):=by show _=_; rw [← HP.out,List.drop_of_length_le (by omega)]; rfl
 go_wp2;go_ret;exact ⟨by rw [HN.out]; rfl,Tt.out⟩
open Go.Sort
theorem KN (p:Int→Bool) {zs:List Int} {k:Nat} (h:k < zs.length):(zs.drop k).any p=(p zs[k] || (zs.drop (k + 1)).any p):=by rw [SH h]; rfl
theorem KO (p:Int→Bool) {zs:List Int} {k:Nat} (h:k < zs.length):(zs.drop k).all p=(p zs[k] && (zs.drop (k + 1)).all p):=by rw [SH h]; rfl
def NC (v0 vT vE vK vR:Value) (f:Fc) (w:World) (i:Int) (b:Bool):Prop:=∀ w1:World,aa w w1→Calls prog 85 #[v0,vT,vE,.int .i64 i,vK,vR,.agg #[.string f.a,.string f.b,.string f.r,.string f.c,.string f.d]] w1 fun e w'=>e=.returned (.bool b)∧aa w1 w'
theorem Ap (H:Int→Bool) (v0 vT:Value) (Tm:Option Addr) (capE:Nat) (rows:List ER) (n:Nat) (vK vR:Value) (f:Fc) (w:af) (hex:fQ w Tm rows) (hn:n < rows.length) (hre:rows.length≤1000) (hkl:rows[n].e.kids.length≤1000) (hk:rows[n].e.kind=4) (YU:∀ i ∈ rows[n].e.kids,NC v0 vT (.slice Tm rows.length capE) vK vR f w i (H i)) :
  Calls prog 85 #[v0,vT,.slice Tm rows.length capE,.int .i64 (n:Int),vK,vR,.agg #[.string f.a,.string f.b,.string f.r,.string f.c,.string f.d]] w fun e w'=>e=.returned (.bool (rows[n].e.kids.any H))∧aa w w':=by
 obtain ⟨b,off,Tq,⟨t0,t1,t2,t3,t4⟩,hbl,hok⟩:=fQ.at0 hex hn;have HK:=aj hok.2;have HIH:=aj YU;obtain ⟨W0,hW0⟩:∃ W0,W0=EO w f rows[n]:=⟨_,rfl⟩;have HB0:Hid (aa w W0):=by show Below _ _ _; rw [hW0]; exact jm _ _ _
 have Vk:Hid (EnB W0 w.heap.size f rows[n]):=by show EnB _ _ _ _; rw [hW0]; exact mG _ _ _
 have hk1:(rows[n].e.kind == 1)=false:=by rw [hk]; rfl
 have hk2:(rows[n].e.kind == 2)=false:=by rw [hk]; rfl
 have hk3:(rows[n].e.kind == 3)=false:=by rw [hk]; rfl
 have hk4:(rows[n].e.kind == 4)=true:=by rw [hk]; rfl
 have hn1:=bH n;have hn2:(n:Int) < (rows.length:Int):=by omega
 unfold EO at hW0;rw [Tq] at HIH ⊢;clear Tq hex hk YU hok;go_enter func85,ntmps85;go_wp2_with fail;rw [← hW0];clear hW0 t0 t1 t2 t3 t4;go_loopw [20] (fun i wr=>∃ k:Nat,k≤rows[n].e.kids.length∧i=.int .i64 k∧Hid ((rows[n].e.kids.drop k).any H=rows[n].e.kids.any H)∧Hid (aa W0 wr)) (fun i _=>rows[n].e.kids.length - (intOf i).toNat);case atStart=>exact ⟨0,Sm _,rfl,rfl,Si _ _⟩
 obtain ⟨k,hk,rfl,HP,HB⟩:=hrel;have Tt:Hid (aa w wr):=HB0.out.trans (HB.out.mono HB0.out.size);have hE:=Vk.out.below HB.out;have e0:=hE.f0;have e1:=hE.f1;have e2:=hE.f2;have e3:=hE.f3;have e4:=hE.f4;have y4:=hE.x4;have el2:w.heap.size + 1 < wr.heap.size:=hE.lt;clear hE;by_cases hlt:k < rows[n].e.kids.length
 ·obtain ⟨bK,Wo,TU,z0,Zq⟩:=mZ.at0 (HK.out.below Tt.out) hlt;rw [TU] at y4;have hi1:=bH k;have hi2:(k:Int) < (rows[n].e.kids.length:Int):=by omega
  have HD:Hid (rows[n].e.kids.any H=(H rows[n].e.kids[k] || (rows[n].e.kids.drop (k + 1)).any H)):=by show _=_; rw [← HP.out]; exact KN H hlt
  have HC:=aj (HIH.out _ (Sd hlt));obtain ⟨q,hq⟩:∃ q,H rows[n].e.kids[k]=q:=⟨_,rfl⟩;rw [hq] at HC HD;have HCL:Hid (∀ d os,Calls prog 85 #[v0,vT,.slice (some ⟨b,off,none⟩) rows.length capE,.int .i64 rows[n].e.kids[k],vK,vR,.agg #[.string f.a,.string f.b,.string f.r,.string f.c,.string f.d]] (grow (redrawn wr d) os) fun e w''=>e=.returned (.bool q)∧∃ p:Regrown,w''=grow (redrawn wr p.d) p.os):=by
   refine bP fun W' hb=>?_;exact HC.out W' (Tt.out.trans (hb.mono Tt.out.size))
  clear TU hq HC;go_wp2_with fail;replace e0:=cell_regrown e0;replace e1:=cell_regrown e1;replace e2:=cell_regrown e2;replace e3:=cell_regrown e3;replace e4:=cell_regrown e4;replace y4:=cell_regrown y4;replace z0:=cell_regrown z0;refine wp_region_quiet_below (by kernel_rfl) (by kernel_rfl) ?_
  repeat (go_big_quiet_step (exact HCL.out _ _))
  refine wpQuiet_nil ?_;rintro _ ⟨⟨dq,osq⟩,rfl⟩;have HB2:=aj (HB.out.trans ((below_regrown wr dq osq).mono HB.out.size));clear HCL e0 e1 e2 e3 e4 y4 z0;cases q;case true=>
   have HN:Hid (rows[n].e.kids.any H=true):=by show _=_; rw [HD.out]; rfl
   go_wp2;go_ret;exact ⟨by rw [HN.out]; rfl,HB0.out.trans (HB2.out.mono HB0.out.size)⟩
  have Tu:Hid ((rows[n].e.kids.drop (k + 1)).any H=rows[n].e.kids.any H):=by show _=_; rw [HD.out]; rfl
  go_wp2;go_roundw;case rel=>exact ⟨k + 1,by omega,by go_num,Tu,HB2⟩
  simp [intOf] <;> omega
 have HN:Hid (rows[n].e.kids.any H=false):=by show _=_; rw [← HP.out,List.drop_of_length_le (by omega)]; rfl
 go_wp2;go_ret;exact ⟨by rw [HN.out]; rfl,Tt.out⟩
theorem Dl (H:Int→Bool) (v0 vT:Value) (Tm:Option Addr) (capE:Nat) (rows:List ER) (n:Nat) (vK vR:Value) (f:Fc) (w:af) (hex:fQ w Tm rows) (hn:n < rows.length) (hre:rows.length≤1000) (hkl:rows[n].e.kids.length≤1000) (hk:rows[n].e.kind=5) (YU:∀ i ∈ rows[n].e.kids,NC v0 vT (.slice Tm rows.length capE) vK vR f w i (H i)) :
  Calls prog 85 #[v0,vT,.slice Tm rows.length capE,.int .i64 (n:Int),vK,vR,.agg #[.string f.a,.string f.b,.string f.r,.string f.c,.string f.d]] w fun e w'=>e=.returned (.bool (rows[n].e.kids.all H))∧aa w w':=by
 obtain ⟨b,off,Tq,⟨t0,t1,t2,t3,t4⟩,hbl,hok⟩:=fQ.at0 hex hn;have HK:=aj hok.2;have HIH:=aj YU;obtain ⟨W0,hW0⟩:∃ W0,W0=EO w f rows[n]:=⟨_,rfl⟩;have HB0:Hid (aa w W0):=by show Below _ _ _; rw [hW0]; exact jm _ _ _
 have Vk:Hid (EnB W0 w.heap.size f rows[n]):=by show EnB _ _ _ _; rw [hW0]; exact mG _ _ _
 have hk1:(rows[n].e.kind == 1)=false:=by rw [hk]; rfl
 have hk2:(rows[n].e.kind == 2)=false:=by rw [hk]; rfl
 have hk3:(rows[n].e.kind == 3)=false:=by rw [hk]; rfl
 have hk4:(rows[n].e.kind == 4)=false:=by rw [hk]; rfl
 have hk5:(rows[n].e.kind == 5)=true:=by rw [hk]; rfl
 have hn1:=bH n;have hn2:(n:Int) < (rows.length:Int):=by omega
 unfold EO at hW0;rw [Tq] at HIH ⊢;clear Tq hex hk YU hok;go_enter func85,ntmps85;go_wp2_with fail;rw [← hW0];clear hW0 t0 t1 t2 t3 t4;go_loopw [21] (fun i wr=>∃ k:Nat,k≤rows[n].e.kids.length∧i=.int .i64 k∧Hid ((rows[n].e.kids.drop k).all H=rows[n].e.kids.all H)∧Hid (aa W0 wr)) (fun i _=>rows[n].e.kids.length - (intOf i).toNat);case atStart=>exact ⟨0,Sm _,rfl,rfl,Si _ _⟩
 obtain ⟨k,hk,rfl,HP,HB⟩:=hrel;have Tt:Hid (aa w wr):=HB0.out.trans (HB.out.mono HB0.out.size);have hE:=Vk.out.below HB.out;have e0:=hE.f0;have e1:=hE.f1;have e2:=hE.f2;have e3:=hE.f3;have e4:=hE.f4;have y4:=hE.x4;have el2:w.heap.size + 1 < wr.heap.size:=hE.lt;clear hE;by_cases hlt:k < rows[n].e.kids.length
 ·obtain ⟨bK,Wo,TU,z0,Zq⟩:=mZ.at0 (HK.out.below Tt.out) hlt;rw [TU] at y4;have hi1:=bH k;have hi2:(k:Int) < (rows[n].e.kids.length:Int):=by omega
  have HD:Hid (rows[n].e.kids.all H=(H rows[n].e.kids[k] && (rows[n].e.kids.drop (k + 1)).all H)):=by show _=_; rw [← HP.out]; exact KO H hlt
  have HC:=aj (HIH.out _ (Sd hlt));obtain ⟨q,hq⟩:∃ q,H rows[n].e.kids[k]=q:=⟨_,rfl⟩;rw [hq] at HC HD;have HCL:Hid (∀ d os,Calls prog 85 #[v0,vT,.slice (some ⟨b,off,none⟩) rows.length capE,.int .i64 rows[n].e.kids[k],vK,vR,.agg #[.string f.a,.string f.b,.string f.r,.string f.c,.string f.d]] (grow (redrawn wr d) os) fun e w''=>e=.returned (.bool q)∧∃ p:Regrown,w''=grow (redrawn wr p.d) p.os):=by
   refine bP fun W' hb=>?_;exact HC.out W' (Tt.out.trans (hb.mono Tt.out.size))
  clear TU hq HC;go_wp2_with fail;replace e0:=cell_regrown e0;replace e1:=cell_regrown e1;replace e2:=cell_regrown e2;replace e3:=cell_regrown e3;replace e4:=cell_regrown e4;replace y4:=cell_regrown y4;replace z0:=cell_regrown z0;refine wp_region_quiet_below (by kernel_rfl) (by kernel_rfl) ?_
  repeat (go_big_quiet_step (exact HCL.out _ _))
  refine wpQuiet_nil ?_;rintro _ ⟨⟨dq,osq⟩,rfl⟩;have HB2:=aj (HB.out.trans ((below_regrown wr dq osq).mono HB.out.size));clear HCL e0 e1 e2 e3 e4 y4 z0;cases q;case false=>
   have HN:Hid (rows[n].e.kids.all H=false):=by show _=_; rw [HD.out]; rfl
   go_wp2;go_ret;exact ⟨by rw [HN.out]; rfl,HB0.out.trans (HB2.out.mono HB0.out.size)⟩
  have Tu:Hid ((rows[n].e.kids.drop (k + 1)).all H=rows[n].e.kids.all H):=by show _=_; rw [HD.out]; rfl
  go_wp2;go_roundw;case rel=>exact ⟨k + 1,by omega,by go_num,Tu,HB2⟩
  simp [intOf] <;> omega
 have HN:Hid (rows[n].e.kids.all H=true):=by show _=_; rw [← HP.out,List.drop_of_length_le (by omega)]; rfl
 go_wp2;go_ret;exact ⟨by rw [HN.out]; rfl,Tt.out⟩
theorem FD (b0 b1:Bool) (v0 vT:Value) (Tm:Option Addr) (capE:Nat) (rows:List ER) (n:Nat) (vK vR:Value) (f:Fc) (w:af) (hex:fQ w Tm rows) (hn:n < rows.length) (hre:rows.length≤1000) (hkl:rows[n].e.kids.length≤1000) (hk2:2≤rows[n].e.kids.length) (hk:rows[n].e.kind=6) (hA:NC v0 vT (.slice Tm rows.length capE) vK vR f w (rows[n].e.kids.getD 0 0) b0) (hB:NC v0 vT (.slice Tm rows.length capE) vR vR f w (rows[n].e.kids.getD 1 0) b1) :
  Calls prog 85 #[v0,vT,.slice Tm rows.length capE,.int .i64 (n:Int),vK,vR,.agg #[.string f.a,.string f.b,.string f.r,.string f.c,.string f.d]] w fun e w'=>e=.returned (.bool (b0 && !b1))∧aa w w':=by
 obtain ⟨b,off,Tq,⟨t0,t1,t2,t3,t4⟩,hbl,hok⟩:=fQ.at0 hex hn;have h0k:0 < rows[n].e.kids.length:=by omega
 have h1k:1 < rows[n].e.kids.length:=by omega
 obtain ⟨bK,Wo,TU,z0,Zq⟩:=mZ.at0 hok.2 h0k;have z1:w.cell? ⟨bK,Wo + 1,none⟩=some (.int .i64 rows[n].e.kids[1]):=by
  obtain ⟨b',off',Wp,z1,-⟩:=mZ.at0 hok.2 h1k;rw [TU] at Wp; injection Wp with e; injection e with e1 e2;rw [e1,e2]; exact z1
 obtain ⟨i0,hi0⟩:∃ i,i=rows[n].e.kids[0]:=⟨_,rfl⟩;obtain ⟨i1,hi1⟩:∃ i,i=rows[n].e.kids[1]:=⟨_,rfl⟩;have g0:rows[n].e.kids.getD 0 0=i0:=by rw [hi0,List.getD_eq_getElem?_getD,Sw h0k]; rfl
 have g1:rows[n].e.kids.getD 1 0=i1:=by rw [hi1,List.getD_eq_getElem?_getD,Sw h1k]; rfl
 rw [g0] at hA;rw [g1] at hB;rw [← hi0,Nat.add_zero] at z0;rw [← hi1] at z1;clear hi0 hi1 g0 g1;obtain ⟨kl,hkl'⟩:∃ kl,kl=rows[n].e.kids.length:=⟨_,rfl⟩;obtain ⟨cK,hcK⟩:∃ c,c=rows[n].capK:=⟨_,rfl⟩;have hl0:(0:Int) < (kl:Int):=by omega
 have hl1:(1:Int) < (kl:Int):=by omega
 have h0k':0 < kl:=by omega
 have h1k':1 < kl:=by omega
 have HA:=aj hA;have U3:=aj hB;obtain ⟨W0,hW0⟩:∃ W0,W0=EO w f rows[n]:=⟨_,rfl⟩;have HB0:Hid (aa w W0):=by show Below _ _ _; rw [hW0]; exact jm _ _ _
 have Vk:Hid (EnB W0 w.heap.size f rows[n]):=by show EnB _ _ _ _; rw [hW0]; exact mG _ _ _
 have HZ:Hid (W0.cell? ⟨bK,Wo,none⟩=some (.int .i64 i0)∧W0.cell? ⟨bK,Wo + 1,none⟩=some (.int .i64 i1)∧bK < W0.heap.size):=⟨(HB0.out.cell (p:=⟨bK,Wo,none⟩) Zq).trans z0,(HB0.out.cell (p:=⟨bK,Wo + 1,none⟩) Zq).trans z1,Sg Zq HB0.out.size⟩;have Zl:Hid (W0.cell? ⟨w.heap.size + 1,4,none⟩=some (.slice (some ⟨bK,Wo,none⟩) kl cK)):=by show _=_; rw [Vk.out.x4,TU,← hkl',← hcK]
 have hk1:(rows[n].e.kind == 1)=false:=by rw [hk]; rfl
 have hk2:(rows[n].e.kind == 2)=false:=by rw [hk]; rfl
 have hk3:(rows[n].e.kind == 3)=false:=by rw [hk]; rfl
 have hk4:(rows[n].e.kind == 4)=false:=by rw [hk]; rfl
 have hk5:(rows[n].e.kind == 5)=false:=by rw [hk]; rfl
 have hk6:(rows[n].e.kind == 6)=true:=by rw [hk]; rfl
 have hn1:=bH n;have hn2:(n:Int) < (rows.length:Int):=by omega
 unfold EO at hW0;rw [Tq] at HA U3 ⊢;clear Tq hex hk hA hB hok z0 z1 TU h0k h1k;go_enter func85,ntmps85;go_wp2_with fail;rw [← hW0];clear hW0 t0 t1 t2 t3 t4 hk1 hk2 hk3 hk4 hk5 hk6 hkl' hcK;have HAA:Hid (∀ d os,Calls prog 85 #[v0,vT,.slice (some ⟨b,off,none⟩) rows.length capE,.int .i64 i0,vK,vR,.agg #[.string f.a,.string f.b,.string f.r,.string f.c,.string f.d]] (grow (redrawn W0 d) os) fun e w''=>e=.returned (.bool b0)∧∃ p:Regrown,w''=grow (redrawn W0 p.d) p.os):=by
  refine bP fun W' hb=>?_;exact HA.out _ (HB0.out.trans (hb.mono HB0.out.size))
 have HBQ:Hid (∀ d os,Calls prog 85 #[v0,vT,.slice (some ⟨b,off,none⟩) rows.length capE,.int .i64 i1,vR,vR,.agg #[.string f.a,.string f.b,.string f.r,.string f.c,.string f.d]] (grow (redrawn W0 d) os) fun e w''=>e=.returned (.bool b1)∧∃ p:Regrown,w''=grow (redrawn W0 p.d) p.os):=by
  refine bP fun W' hb=>?_;exact U3.out _ (HB0.out.trans (hb.mono HB0.out.size))
 have c0:=cell_regrown Vk.out.f0;have c1:=cell_regrown Vk.out.f1;have c2:=cell_regrown Vk.out.f2;have c3:=cell_regrown Vk.out.f3;have c4:=cell_regrown Vk.out.f4;have x4:=cell_regrown Zl.out;have z0:=cell_regrown HZ.out.1;have z1:=cell_regrown HZ.out.2.1;clear HA U3 Vk;cases b0;case true=>
  refine wp_region_quiet_below (by kernel_rfl) (by kernel_rfl) ?_
  iterate 11 (go_big_quiet_step (exact HAA.out _ _))
  repeat (go_big_quiet_step (exact HBQ.out _ _))
  refine wpQuiet_nil ?_;rintro _ ⟨⟨dq,osq⟩,rfl⟩;go_wp2;go_ret;exact ⟨rfl,HB0.out.trans ((below_regrown W0 dq osq).mono HB0.out.size)⟩
 refine wp_region_quiet_below (by kernel_rfl) (by kernel_rfl) ?_
 repeat (go_big_quiet_step (exact HAA.out _ _))
 refine wpQuiet_nil ?_;rintro _ ⟨⟨dq,osq⟩,rfl⟩;go_wp2;go_ret;exact ⟨rfl,HB0.out.trans ((below_regrown W0 dq osq).mono HB0.out.size)⟩
end Go.Proofs.YtdmniljjnaebbaaGreatDoor
