/- The document's question of a node with kids: one of them, all of them. -/
import Derived.Test.YtdaoiceeidoehaaGreatJ22
open Go.Proofs.Tryz
set_option maxHeartbeats 80000000
namespace Go.Proofs.YtdaoiceeidoehaaGreat
set_option linter.unusedVariables false
set_option maxRecDepth 100000
open Go.ChangeShapes Go.WideShapes Go.ChangeAt Go.RowKit Go.Maps
open Pl
theorem Kq (p:Int→Bool) {zs:List Int} {k:Nat} (h:k < zs.length):(zs.drop k).any p=(p zs[k] || (zs.drop (k + 1)).any p):=by rw [Sr h]; rfl
theorem Kr (p:Int→Bool) {zs:List Int} {k:Nat} (h:k < zs.length):(zs.drop k).all p=(p zs[k] && (zs.drop (k + 1)).all p):=by rw [Sr h]; rfl
def Nj (v0 vT vE vK vR:Value) (f:Fc) (w:World) (i:Int) (b:Bool):Prop:=∀ w1:World,Below w.heap.size w w1→Calls prog 58 #[v0,vT,vE,.int .i64 i,vK,vR,.agg #[.string f.a,.string f.b,.string f.r,.string f.c,.string f.d]] w1 fun e w'=>e=.returned (.bool b)∧Below w1.heap.size w1 w'
theorem CV {w W w':World} {B bK:Nat} {y x0 x1 x2 x3 x4 z:Value} {o4 oK:Nat} (h:W.cell? ⟨B + 1,o4,none⟩=some y∧W.cell? ⟨B,0,none⟩=some x0∧W.cell? ⟨B,1,none⟩=some x1∧W.cell? ⟨B,2,none⟩=some x2∧W.cell? ⟨B,3,none⟩=some x3∧W.cell? ⟨B,4,none⟩=some x4∧W.cell? ⟨bK,oK,none⟩=some z∧B + 1 < W.heap.size∧bK < W.heap.size∧Below w.heap.size w W) (hb:Below W.heap.size W w'):w'.cell? ⟨B + 1,o4,none⟩=some y∧w'.cell? ⟨B,0,none⟩=some x0∧w'.cell? ⟨B,1,none⟩=some x1∧w'.cell? ⟨B,2,none⟩=some x2∧w'.cell? ⟨B,3,none⟩=some x3∧w'.cell? ⟨B,4,none⟩=some x4∧w'.cell? ⟨bK,oK,none⟩=some z∧B + 1 < w'.heap.size∧bK < w'.heap.size∧Below w.heap.size w w':=by
 obtain ⟨h0,g0,g1,g2,g3,g4,g5,hn,hm,hB⟩:=h;have hl:B < W.heap.size:=by omega
 have hc:∀ o,w'.cell? ⟨B,o,none⟩=W.cell? ⟨B,o,none⟩:=fun o=>hb.cell (p:=⟨B,o,none⟩) hl;exact ⟨(hb.cell (p:=⟨B + 1,o4,none⟩) hn).trans h0,(hc _).trans g0,(hc _).trans g1,(hc _).trans g2,(hc _).trans g3,(hc _).trans g4,(hb.cell (p:=⟨bK,oK,none⟩) hm).trans g5,RZ hn hb.size,RZ hm hb.size,hB.trans (hb.mono hB.size)⟩
theorem zW (H:Int→Bool) (v0 vT:Value) (SN:Option Addr) (capE:Nat) (rows:List ER) (n:Nat) (vK vR:Value) (f:Fc) (w:World) (hex:eX w SN rows) (hn:n < rows.length) (hre:rows.length≤1000) (hkl:rows[n].e.kids.length≤1000) (hk:rows[n].e.kind=4) (Ww:∀ i ∈ rows[n].e.kids,Nj v0 vT (.slice SN rows.length capE) vK vR f w i (H i)) :
  Calls prog 58 #[v0,vT,.slice SN rows.length capE,.int .i64 (n:Int),vK,vR,.agg #[.string f.a,.string f.b,.string f.r,.string f.c,.string f.d]] w fun e w'=>e=.returned (.bool (rows[n].e.kids.any H))∧Below w.heap.size w w':=by
 obtain ⟨b,off,SL,⟨t0,t1,t2,t3,t4⟩,hbl,hok⟩:=eX.at0 hex hn;have HK:=ag hok.2;have HIH:=ag Ww;obtain ⟨W0,hW0⟩:∃ W0,W0=rT w f rows[n]:=⟨_,rfl⟩;have HB0:Hid (Below w.heap.size w W0):=by show Below _ _ _; rw [hW0]; exact dN _ _ _
 have Vp:Hid (EnB W0 w.heap.size f rows[n]):=by show EnB _ _ _ _; rw [hW0]; exact eT _ _ _
 have hk1:(rows[n].e.kind == 1)=false:=by rw [hk]; rfl
 have hk2:(rows[n].e.kind == 2)=false:=by rw [hk]; rfl
 have hk3:(rows[n].e.kind == 3)=false:=by rw [hk]; rfl
 have hk4:(rows[n].e.kind == 4)=true:=by rw [hk]; rfl
 have hn1:=bn n;have hn2:(n:Int) < (rows.length:Int):=by omega
 unfold rT at hW0;rw [SL] at HIH ⊢;clear SL hex hk Ww hok;go_enter func58,ntmps58;go_wp2_with fail;rw [← hW0];clear hW0 t0 t1 t2 t3 t4;go_loopw [20] (fun i wr=>∃ k:Nat,k≤rows[n].e.kids.length∧i=.int .i64 k∧Hid ((rows[n].e.kids.drop k).any H=rows[n].e.kids.any H)∧Hid (Below W0.heap.size W0 wr)) (fun i _=>rows[n].e.kids.length - (intOf i).toNat);case atStart=>exact ⟨0,R6 _,rfl,rfl,R3 _ _⟩
 case round =>
  obtain ⟨k,hk,rfl,HP,HB⟩:=hrel;have S9:Hid (Below w.heap.size w wr):=HB0.out.trans (HB.out.mono HB0.out.size);have hE:=Vp.out.below HB.out;have e0:=hE.f0;have e1:=hE.f1;have e2:=hE.f2;have e3:=hE.f3;have e4:=hE.f4;have y4:=hE.x4;have ZY:w.heap.size + 1 < wr.heap.size:=hE.lt;clear hE;by_cases hlt:k < rows[n].e.kids.length
  ·obtain ⟨bK,TI,Tz,z0,Wx⟩:=lF.at0 (HK.out.below S9.out) hlt;rw [Tz] at y4;have hi1:=bn k;have hi2:(k:Int) < (rows[n].e.kids.length:Int):=by omega
   have HD:Hid (rows[n].e.kids.any H=(H rows[n].e.kids[k] || (rows[n].e.kids.drop (k + 1)).any H)):=by show _=_; rw [← HP.out]; exact Kq H hlt
   have HC:=ag (HIH.out _ (RY hlt));have Tw:∀ v:Bool,H rows[n].e.kids[k]=v→Hid (∀ W':World,(W'.cell? ⟨w.heap.size + 1,4,none⟩=some (.slice (some ⟨bK,TI,none⟩) rows[n].e.kids.length rows[n].capK)∧W'.cell? ⟨w.heap.size,0,none⟩=some (.string f.a)∧W'.cell? ⟨w.heap.size,1,none⟩=some (.string f.b)∧W'.cell? ⟨w.heap.size,2,none⟩=some (.string f.r)∧W'.cell? ⟨w.heap.size,3,none⟩=some (.string f.c)∧W'.cell? ⟨w.heap.size,4,none⟩=some (.string f.d)∧W'.cell? ⟨bK,TI + k,none⟩=some (.int .i64 rows[n].e.kids[k])∧w.heap.size + 1 < W'.heap.size∧bK < W'.heap.size∧Below wr.heap.size wr W')→Calls prog 58 #[v0,vT,.slice (some ⟨b,off,none⟩) rows.length capE,.int .i64 rows[n].e.kids[k],vK,vR,.agg #[.string f.a,.string f.b,.string f.r,.string f.c,.string f.d]] W' fun e w'=>e=.returned (.bool v)∧Below W'.heap.size W' w'):=fun v hv W' h=>by
    have hb':=h.2.2.2.2.2.2.2.2.2;rw [← hv];exact HC.out W' (S9.out.trans (hb'.mono S9.out.size))
   clear Tz;cases hh:H rows[n].e.kids[k] with
   | true =>
    have HN:Hid (rows[n].e.kids.any H=true):=by show _=_; rw [HD.out,hh]; rfl
    have HCL:=Tw _ hh;clear hh HC Tw;go_wp2_with fail
    go_region_held3 (fun w'=>w'.cell? ⟨w.heap.size + 1,4,none⟩=some (.slice (some ⟨bK,TI,none⟩) rows[n].e.kids.length rows[n].capK)∧w'.cell? ⟨w.heap.size,0,none⟩=some (.string f.a)∧w'.cell? ⟨w.heap.size,1,none⟩=some (.string f.b)∧w'.cell? ⟨w.heap.size,2,none⟩=some (.string f.r)∧w'.cell? ⟨w.heap.size,3,none⟩=some (.string f.c)∧w'.cell? ⟨w.heap.size,4,none⟩=some (.string f.d)∧w'.cell? ⟨bK,TI + k,none⟩=some (.int .i64 rows[n].e.kids[k])∧w.heap.size + 1 < w'.heap.size∧bK < w'.heap.size∧Below wr.heap.size wr w')
     (first | assumption | exact CV (by assumption) hbx | exact ⟨y4,e0,e1,e2,e3,e4,z0,ZY,Wx,(R3 _ _).drew⟩)
     (first | (go_at_call 58; refine (HCL.out _ (by assumption)).mono ?_; rintro e w' ⟨rfl,hbx⟩))
    rename_i hH;have HG:=ag hH.2.2.2.2.2.2.2.2.2;clear hH hbx y4 e0 e1 e2 e3 e4 z0 ZY;go_wp2;go_ret;exact ⟨by rw [HN.out]; rfl,S9.out.trans (HG.out.mono S9.out.size)⟩
   | false =>
    have Td:Hid ((rows[n].e.kids.drop (k + 1)).any H=rows[n].e.kids.any H):=by show _=_; rw [HD.out,hh]; rfl
    have HCL:=Tw _ hh;clear hh HC Tw;go_wp2_with fail
    go_region_held3 (fun w'=>w'.cell? ⟨w.heap.size + 1,4,none⟩=some (.slice (some ⟨bK,TI,none⟩) rows[n].e.kids.length rows[n].capK)∧w'.cell? ⟨w.heap.size,0,none⟩=some (.string f.a)∧w'.cell? ⟨w.heap.size,1,none⟩=some (.string f.b)∧w'.cell? ⟨w.heap.size,2,none⟩=some (.string f.r)∧w'.cell? ⟨w.heap.size,3,none⟩=some (.string f.c)∧w'.cell? ⟨w.heap.size,4,none⟩=some (.string f.d)∧w'.cell? ⟨bK,TI + k,none⟩=some (.int .i64 rows[n].e.kids[k])∧w.heap.size + 1 < w'.heap.size∧bK < w'.heap.size∧Below wr.heap.size wr w')
     (first | assumption | exact CV (by assumption) hbx | exact ⟨y4,e0,e1,e2,e3,e4,z0,ZY,Wx,(R3 _ _).drew⟩)
     (first | (go_at_call 58; refine (HCL.out _ (by assumption)).mono ?_; rintro e w' ⟨rfl,hbx⟩))
    rename_i hH;have HG:=ag hH.2.2.2.2.2.2.2.2.2;have HB2:=ag (HB.out.trans (HG.out.mono HB.out.size));clear hH hbx y4 e0 e1 e2 e3 e4 z0 ZY;go_wp2;go_roundw;case rel=>exact ⟨k + 1,by omega,by go_num,Td,HB2⟩
    case measure=>simp [intOf] <;> omega
  ·have HN:Hid (rows[n].e.kids.any H=false):=by show _=_; rw [← HP.out,List.drop_of_length_le (by omega)]; rfl
   go_wp2;go_ret;exact ⟨by rw [HN.out]; rfl,S9.out⟩
theorem CW (H:Int→Bool) (v0 vT:Value) (SN:Option Addr) (capE:Nat) (rows:List ER) (n:Nat) (vK vR:Value) (f:Fc) (w:World) (hex:eX w SN rows) (hn:n < rows.length) (hre:rows.length≤1000) (hkl:rows[n].e.kids.length≤1000) (hk:rows[n].e.kind=5) (Ww:∀ i ∈ rows[n].e.kids,Nj v0 vT (.slice SN rows.length capE) vK vR f w i (H i)) :
  Calls prog 58 #[v0,vT,.slice SN rows.length capE,.int .i64 (n:Int),vK,vR,.agg #[.string f.a,.string f.b,.string f.r,.string f.c,.string f.d]] w fun e w'=>e=.returned (.bool (rows[n].e.kids.all H))∧Below w.heap.size w w':=by
 obtain ⟨b,off,SL,⟨t0,t1,t2,t3,t4⟩,hbl,hok⟩:=eX.at0 hex hn;have HK:=ag hok.2;have HIH:=ag Ww;obtain ⟨W0,hW0⟩:∃ W0,W0=rT w f rows[n]:=⟨_,rfl⟩;have HB0:Hid (Below w.heap.size w W0):=by show Below _ _ _; rw [hW0]; exact dN _ _ _
 have Vp:Hid (EnB W0 w.heap.size f rows[n]):=by show EnB _ _ _ _; rw [hW0]; exact eT _ _ _
 have hk1:(rows[n].e.kind == 1)=false:=by rw [hk]; rfl
 have hk2:(rows[n].e.kind == 2)=false:=by rw [hk]; rfl
 have hk3:(rows[n].e.kind == 3)=false:=by rw [hk]; rfl
 have hk4:(rows[n].e.kind == 4)=false:=by rw [hk]; rfl
 have hk5:(rows[n].e.kind == 5)=true:=by rw [hk]; rfl
 have hn1:=bn n;have hn2:(n:Int) < (rows.length:Int):=by omega
 unfold rT at hW0;rw [SL] at HIH ⊢;clear SL hex hk Ww hok;go_enter func58,ntmps58;go_wp2_with fail;rw [← hW0];clear hW0 t0 t1 t2 t3 t4;go_loopw [21] (fun i wr=>∃ k:Nat,k≤rows[n].e.kids.length∧i=.int .i64 k∧Hid ((rows[n].e.kids.drop k).all H=rows[n].e.kids.all H)∧Hid (Below W0.heap.size W0 wr)) (fun i _=>rows[n].e.kids.length - (intOf i).toNat);case atStart=>exact ⟨0,R6 _,rfl,rfl,R3 _ _⟩
 case round =>
  obtain ⟨k,hk,rfl,HP,HB⟩:=hrel;have S9:Hid (Below w.heap.size w wr):=HB0.out.trans (HB.out.mono HB0.out.size);have hE:=Vp.out.below HB.out;have e0:=hE.f0;have e1:=hE.f1;have e2:=hE.f2;have e3:=hE.f3;have e4:=hE.f4;have y4:=hE.x4;have ZY:w.heap.size + 1 < wr.heap.size:=hE.lt;clear hE;by_cases hlt:k < rows[n].e.kids.length
  ·obtain ⟨bK,TI,Tz,z0,Wx⟩:=lF.at0 (HK.out.below S9.out) hlt;rw [Tz] at y4;have hi1:=bn k;have hi2:(k:Int) < (rows[n].e.kids.length:Int):=by omega
   have HD:Hid (rows[n].e.kids.all H=(H rows[n].e.kids[k] && (rows[n].e.kids.drop (k + 1)).all H)):=by show _=_; rw [← HP.out]; exact Kr H hlt
   have HC:=ag (HIH.out _ (RY hlt));have Tw:∀ v:Bool,H rows[n].e.kids[k]=v→Hid (∀ W':World,(W'.cell? ⟨w.heap.size + 1,4,none⟩=some (.slice (some ⟨bK,TI,none⟩) rows[n].e.kids.length rows[n].capK)∧W'.cell? ⟨w.heap.size,0,none⟩=some (.string f.a)∧W'.cell? ⟨w.heap.size,1,none⟩=some (.string f.b)∧W'.cell? ⟨w.heap.size,2,none⟩=some (.string f.r)∧W'.cell? ⟨w.heap.size,3,none⟩=some (.string f.c)∧W'.cell? ⟨w.heap.size,4,none⟩=some (.string f.d)∧W'.cell? ⟨bK,TI + k,none⟩=some (.int .i64 rows[n].e.kids[k])∧w.heap.size + 1 < W'.heap.size∧bK < W'.heap.size∧Below wr.heap.size wr W')→Calls prog 58 #[v0,vT,.slice (some ⟨b,off,none⟩) rows.length capE,.int .i64 rows[n].e.kids[k],vK,vR,.agg #[.string f.a,.string f.b,.string f.r,.string f.c,.string f.d]] W' fun e w'=>e=.returned (.bool v)∧Below W'.heap.size W' w'):=fun v hv W' h=>by
    have hb':=h.2.2.2.2.2.2.2.2.2;rw [← hv];exact HC.out W' (S9.out.trans (hb'.mono S9.out.size))
   clear Tz;cases hh:H rows[n].e.kids[k] with
   | false =>
    have HN:Hid (rows[n].e.kids.all H=false):=by show _=_; rw [HD.out,hh]; rfl
    have HCL:=Tw _ hh;clear hh HC Tw;go_wp2_with fail
    go_region_held3 (fun w'=>w'.cell? ⟨w.heap.size + 1,4,none⟩=some (.slice (some ⟨bK,TI,none⟩) rows[n].e.kids.length rows[n].capK)∧w'.cell? ⟨w.heap.size,0,none⟩=some (.string f.a)∧w'.cell? ⟨w.heap.size,1,none⟩=some (.string f.b)∧w'.cell? ⟨w.heap.size,2,none⟩=some (.string f.r)∧w'.cell? ⟨w.heap.size,3,none⟩=some (.string f.c)∧w'.cell? ⟨w.heap.size,4,none⟩=some (.string f.d)∧w'.cell? ⟨bK,TI + k,none⟩=some (.int .i64 rows[n].e.kids[k])∧w.heap.size + 1 < w'.heap.size∧bK < w'.heap.size∧Below wr.heap.size wr w')
     (first | assumption | exact CV (by assumption) hbx | exact ⟨y4,e0,e1,e2,e3,e4,z0,ZY,Wx,(R3 _ _).drew⟩)
     (first | (go_at_call 58; refine (HCL.out _ (by assumption)).mono ?_; rintro e w' ⟨rfl,hbx⟩))
    rename_i hH;have HG:=ag hH.2.2.2.2.2.2.2.2.2;clear hH hbx y4 e0 e1 e2 e3 e4 z0 ZY;go_wp2;go_ret;exact ⟨by rw [HN.out]; rfl,S9.out.trans (HG.out.mono S9.out.size)⟩
   | true =>
    have Td:Hid ((rows[n].e.kids.drop (k + 1)).all H=rows[n].e.kids.all H):=by show _=_; rw [HD.out,hh]; rfl
    have HCL:=Tw _ hh;clear hh HC Tw;go_wp2_with fail
    go_region_held3 (fun w'=>w'.cell? ⟨w.heap.size + 1,4,none⟩=some (.slice (some ⟨bK,TI,none⟩) rows[n].e.kids.length rows[n].capK)∧w'.cell? ⟨w.heap.size,0,none⟩=some (.string f.a)∧w'.cell? ⟨w.heap.size,1,none⟩=some (.string f.b)∧w'.cell? ⟨w.heap.size,2,none⟩=some (.string f.r)∧w'.cell? ⟨w.heap.size,3,none⟩=some (.string f.c)∧w'.cell? ⟨w.heap.size,4,none⟩=some (.string f.d)∧w'.cell? ⟨bK,TI + k,none⟩=some (.int .i64 rows[n].e.kids[k])∧w.heap.size + 1 < w'.heap.size∧bK < w'.heap.size∧Below wr.heap.size wr w')
     (first | assumption | exact CV (by assumption) hbx | exact ⟨y4,e0,e1,e2,e3,e4,z0,ZY,Wx,(R3 _ _).drew⟩)
     (first | (go_at_call 58; refine (HCL.out _ (by assumption)).mono ?_; rintro e w' ⟨rfl,hbx⟩))
    rename_i hH;have HG:=ag hH.2.2.2.2.2.2.2.2.2;have HB2:=ag (HB.out.trans (HG.out.mono HB.out.size));clear hH hbx y4 e0 e1 e2 e3 e4 z0 ZY;go_wp2;go_roundw;case rel=>exact ⟨k + 1,by omega,by go_num,Td,HB2⟩
    case measure=>simp [intOf] <;> omega
  ·have HN:Hid (rows[n].e.kids.all H=true):=by show _=_; rw [← HP.out,List.drop_of_length_le (by omega)]; rfl
   go_wp2;go_ret;exact ⟨by rw [HN.out]; rfl,S9.out⟩
open Go.Sort
theorem E9 (b0 b1:Bool) (v0 vT:Value) (SN:Option Addr) (capE:Nat) (rows:List ER) (n:Nat) (vK vR:Value) (f:Fc) (w:World) (hex:eX w SN rows) (hn:n < rows.length) (hre:rows.length≤1000) (hkl:rows[n].e.kids.length≤1000) (hk2:2≤rows[n].e.kids.length) (hk:rows[n].e.kind=6) (hA:Nj v0 vT (.slice SN rows.length capE) vK vR f w (rows[n].e.kids.getD 0 0) b0) (hB:Nj v0 vT (.slice SN rows.length capE) vR vR f w (rows[n].e.kids.getD 1 0) b1) :
  Calls prog 58 #[v0,vT,.slice SN rows.length capE,.int .i64 (n:Int),vK,vR,.agg #[.string f.a,.string f.b,.string f.r,.string f.c,.string f.d]] w fun e w'=>e=.returned (.bool (b0 && !b1))∧Below w.heap.size w w':=by
 obtain ⟨b,off,SL,⟨t0,t1,t2,t3,t4⟩,hbl,hok⟩:=eX.at0 hex hn;have h0k:0 < rows[n].e.kids.length:=by omega
 have YO:1 < rows[n].e.kids.length:=by omega
 obtain ⟨bK,TI,Tz,z0,Wx⟩:=lF.at0 hok.2 h0k;have z1:w.cell? ⟨bK,TI + 1,none⟩=some (.int .i64 rows[n].e.kids[1]):=by
  obtain ⟨b',off',UL,z1,-⟩:=lF.at0 hok.2 YO;rw [Tz] at UL; injection UL with e; injection e with e1 e2;rw [e1,e2]; exact z1
 obtain ⟨i0,hi0⟩:∃ i,i=rows[n].e.kids[0]:=⟨_,rfl⟩;obtain ⟨i1,hi1⟩:∃ i,i=rows[n].e.kids[1]:=⟨_,rfl⟩;have g0:rows[n].e.kids.getD 0 0=i0:=by rw [hi0,List.getD_eq_getElem?_getD,R8 h0k]; rfl
 have g1:rows[n].e.kids.getD 1 0=i1:=by rw [hi1,List.getD_eq_getElem?_getD,R8 YO]; rfl
 rw [g0] at hA;rw [g1] at hB;rw [← hi0,Nat.add_zero] at z0;rw [← hi1] at z1;clear hi0 hi1 g0 g1;obtain ⟨kl,hkl'⟩:∃ kl,kl=rows[n].e.kids.length:=⟨_,rfl⟩;obtain ⟨cK,hcK⟩:∃ c,c=rows[n].capK:=⟨_,rfl⟩;have hl0:(0:Int) < (kl:Int):=by omega
 have hl1:(1:Int) < (kl:Int):=by omega
 have h0k':0 < kl:=by omega
 have h1k':1 < kl:=by omega
 have HA:=ag hA;have Ud:=ag hB;obtain ⟨W0,hW0⟩:∃ W0,W0=rT w f rows[n]:=⟨_,rfl⟩;have HB0:Hid (Below w.heap.size w W0):=by show Below _ _ _; rw [hW0]; exact dN _ _ _
 have Vp:Hid (EnB W0 w.heap.size f rows[n]):=by show EnB _ _ _ _; rw [hW0]; exact eT _ _ _
 have HZ:Hid (W0.cell? ⟨bK,TI,none⟩=some (.int .i64 i0)∧W0.cell? ⟨bK,TI + 1,none⟩=some (.int .i64 i1)∧bK < W0.heap.size):=⟨(HB0.out.cell (p:=⟨bK,TI,none⟩) Wx).trans z0,(HB0.out.cell (p:=⟨bK,TI + 1,none⟩) Wx).trans z1,RZ Wx HB0.out.size⟩;have HX4:Hid (W0.cell? ⟨w.heap.size + 1,4,none⟩=some (.slice (some ⟨bK,TI,none⟩) kl cK)):=by show _=_; rw [Vp.out.x4,Tz,← hkl',← hcK]
 have hk1:(rows[n].e.kind == 1)=false:=by rw [hk]; rfl
 have hk2:(rows[n].e.kind == 2)=false:=by rw [hk]; rfl
 have hk3:(rows[n].e.kind == 3)=false:=by rw [hk]; rfl
 have hk4:(rows[n].e.kind == 4)=false:=by rw [hk]; rfl
 have hk5:(rows[n].e.kind == 5)=false:=by rw [hk]; rfl
 have hk6:(rows[n].e.kind == 6)=true:=by rw [hk]; rfl
 have hn1:=bn n;have hn2:(n:Int) < (rows.length:Int):=by omega
 unfold rT at hW0;rw [SL] at HA Ud ⊢;clear SL hex hk hA hB hok z0 z1 Tz h0k YO;go_enter func58,ntmps58;go_wp2_with fail;rw [← hW0];clear hW0 t0 t1 t2 t3 t4 hk1 hk2 hk3 hk4 hk5 hk6 hkl' hcK;have HAA:Hid (∀ d os,Calls prog 58 #[v0,vT,.slice (some ⟨b,off,none⟩) rows.length capE,.int .i64 i0,vK,vR,.agg #[.string f.a,.string f.b,.string f.r,.string f.c,.string f.d]] (grow (redrawn W0 d) os) fun e w''=>e=.returned (.bool b0)∧∃ p:Regrown,w''=grow (redrawn W0 p.d) p.os):=by
  refine cz fun W' hb=>?_;exact HA.out _ (HB0.out.trans (hb.mono HB0.out.size))
 have HBQ:Hid (∀ d os,Calls prog 58 #[v0,vT,.slice (some ⟨b,off,none⟩) rows.length capE,.int .i64 i1,vR,vR,.agg #[.string f.a,.string f.b,.string f.r,.string f.c,.string f.d]] (grow (redrawn W0 d) os) fun e w''=>e=.returned (.bool b1)∧∃ p:Regrown,w''=grow (redrawn W0 p.d) p.os):=by
  refine cz fun W' hb=>?_;exact Ud.out _ (HB0.out.trans (hb.mono HB0.out.size))
 have c0:=cell_regrown Vp.out.f0;have c1:=cell_regrown Vp.out.f1;have c2:=cell_regrown Vp.out.f2;have c3:=cell_regrown Vp.out.f3;have c4:=cell_regrown Vp.out.f4;have x4:=cell_regrown HX4.out;have z0:=cell_regrown HZ.out.1;have z1:=cell_regrown HZ.out.2.1;clear HA Ud Vp;cases b0 with
 | true =>
  refine wp_region_quiet_below (by kernel_rfl) (by kernel_rfl) ?_
  iterate 11 (go_big_quiet_step (exact HAA.out _ _))
  repeat (go_big_quiet_step (exact HBQ.out _ _))
  refine wpQuiet_nil ?_;rintro _ ⟨⟨dq,osq⟩,rfl⟩;go_wp2;go_ret;exact ⟨rfl,HB0.out.trans ((below_regrown W0 dq osq).mono HB0.out.size)⟩
 | false =>
  refine wp_region_quiet_below (by kernel_rfl) (by kernel_rfl) ?_
  repeat (go_big_quiet_step (exact HAA.out _ _))
  refine wpQuiet_nil ?_;rintro _ ⟨⟨dq,osq⟩,rfl⟩;go_wp2;go_ret;exact ⟨rfl,HB0.out.trans ((below_regrown W0 dq osq).mono HB0.out.size)⟩
structure UM (rows:List ER):Prop where
 len:rows.length≤1000
 kids:∀ q ∈ rows,q.e.kids.length≤1000
 low:I1 (ah rows)
 two:∀ e ∈ ah rows,e.kind=6→2≤e.kids.length
theorem UM.kid {rows:List ER} (h:UM rows) {n:Nat} (hn:n < rows.length) {i:Int} (hi:i ∈ rows[n].e.kids):0≤i∧i < (n:Int):=by
 have:=h.low n (by rw [aJ]; exact hn) i;have e:(ah rows)[n]'(by rw [aJ]; exact hn)=rows[n].e:=by simp [ah]
 rw [e] at this;exact this hi
theorem oU (v0:Value) (UR:Option Addr) (Um:Nat) (ts:List Tp) (SN:Option Addr) (capE:Nat) (rows:List ER) (TE:Option Addr) (Tk:Nat) (truth:List Fc) (f:Fc) (htl:ts.length≤1048576) (hN:UM rows) (htr:truth.length≤1048576) :
  ∀ (k n:Nat) (adK:Option Addr) (capK:Nat) (known:List Fc) (w:World),n < k→n < rows.length→known.length≤1048576→HW w UR ts SN rows adK known TE truth →
  Calls prog 58 #[v0,.slice UR ts.length Um,.slice SN rows.length capE,.int .i64 (n:Int),.slice adK known.length capK,.slice TE truth.length Tk,.agg #[.string f.a,.string f.b,.string f.r,.string f.c,.string f.d]] w fun e w'=>e=.returned (.bool (cO ts (ah rows) truth f k known n))∧Below w.heap.size w w'
 | 0,_,_,_,_,_,h,_,_,_=>absurd h (SE _)
 | k + 1,n,adK,capK,known,w,hk,hn,hkn,hW=>by
  have e:(ah rows)[n]?=some rows[n].e:=by simp [ah,hn]
  have TB:∀ (V8:Option Addr) (U3:Nat) (known':List Fc),known'.length≤1048576→HW w UR ts SN rows V8 known' TE truth→∀ i ∈ rows[n].e.kids,Nj v0 (.slice UR ts.length Um) (.slice SN rows.length capE) (.slice V8 known'.length U3) (.slice TE truth.length Tk) f w i (cO ts (ah rows) truth f k known' i.toNat):=fun V8 U3 known' hl hW' i hi w1 hb1=>by
   have h1:=hN.kid hn hi;have h2:=oU v0 UR Um ts SN capE rows TE Tk truth f htl hN htr k i.toNat V8 U3 known' w1 (by omega) (by omega) hl (hW'.below hb1);have e2:((i.toNat:Nat):Int)=i:=by omega
   rw [e2] at h2;exact h2
  unfold cO;rw [e];have hm:rows[n] ∈ rows:=RY hn;have hme:rows[n].e ∈ ah rows:=Sa.2 ⟨_,hm,rfl⟩;by_cases k1:rows[n].e.kind=1
  ·simp only [if_pos k1];exact CS v0 UR Um ts SN capE rows n adK capK known TE Tk truth f w hW hn hN.len hkn htl k1
  by_cases k2:rows[n].e.kind=2
  ·simp only [if_neg k1,if_pos k2];exact E8 v0 UR Um ts SN capE rows n adK capK known TE Tk truth f w hW hn hN.len hkn k2
  by_cases k3:rows[n].e.kind=3
  ·simp only [if_neg k1,if_neg k2,if_pos k3];exact CU v0 UR Um ts SN capE rows n adK capK known TE Tk truth f w hW hn hN.len hkn htl k3
  by_cases k4:rows[n].e.kind=4
  ·simp only [if_neg k1,if_neg k2,if_neg k3,if_pos k4];exact zW (fun i=>cO ts (ah rows) truth f k known i.toNat) v0 _ SN capE rows n _ _ f w hW.ex hn hN.len (hN.kids _ hm) k4 (TB adK capK known hkn hW)
  by_cases k5:rows[n].e.kind=5
  ·simp only [if_neg k1,if_neg k2,if_neg k3,if_neg k4,if_pos k5];exact CW (fun i=>cO ts (ah rows) truth f k known i.toNat) v0 _ SN capE rows n _ _ f w hW.ex hn hN.len (hN.kids _ hm) k5 (TB adK capK known hkn hW)
  by_cases k6:rows[n].e.kind=6
  ·simp only [if_neg k1,if_neg k2,if_neg k3,if_neg k4,if_neg k5,if_pos k6];have h2:=hN.two _ hme k6;have hg:∀ q,q < 2→rows[n].e.kids.getD q 0 ∈ rows[n].e.kids:=fun q hq=>by
    rw [List.getD_eq_getElem?_getD,R8 (by omega)];exact RY _
   exact E9 _ _ v0 _ SN capE rows n _ _ f w hW.ex hn hN.len (hN.kids _ hm) h2 k6 (TB adK capK known hkn hW _ (hg 0 (by omega))) (TB TE Tk truth htr ⟨hW.tup,hW.ex,hW.tr,hW.tr⟩ _ (hg 1 (by omega)))
  simp only [if_neg k1,if_neg k2,if_neg k3,if_neg k4,if_neg k5,if_neg k6];exact Hy v0 UR Um ts SN capE rows n _ _ f w hW.ex hn hN.len k1 k2 k3 k4 k5 k6
def wu (B:Nat):Value:=.func (Fn.func 132) #[] #[.pointer (some ⟨B,0,none⟩),.pointer (some ⟨B + 1,0,none⟩),.pointer (some ⟨B + 1 + 1,0,none⟩),.pointer (some ⟨B + 1 + 1 + 1,0,none⟩)]
def F5 (w:World) (D:Nat) (vE:Value) (f:Fc) (bK:Nat) (x:ER):World :=
 (((((w.alloc (.cells #[.pointer (some ⟨D,0,none⟩)] 93)).alloc (.cells #[vE] 105)).alloc (.cells #[.string f.a,.string f.b,.string f.r,.string f.c,.string f.d] 42)).alloc (.cells #[.map (some bK)] 84)).alloc (.cells #[.int .i64 x.e.kind,.slice x.adA x.e.allow.length x.capA,.string x.e.over,.string x.e.name,.slice x.adK x.e.kids.length x.capK] 166)).alloc (.cells #[wu w.heap.size] 223)
structure NdB (w:World) (B D:Nat) (vE:Value) (f:Fc) (bK:Nat) (x:ER):Prop where
 lt:B + 1 + 1 + 1 + 1 + 1 < w.heap.size
 d:w.cell? ⟨B,0,none⟩=some (.pointer (some ⟨D,0,none⟩))
 e:w.cell? ⟨B + 1,0,none⟩=some vE
 f0:w.cell? ⟨B + 1 + 1,0,none⟩=some (.string f.a)
 f1:w.cell? ⟨B + 1 + 1,1,none⟩=some (.string f.b)
 f2:w.cell? ⟨B + 1 + 1,2,none⟩=some (.string f.r)
 f3:w.cell? ⟨B + 1 + 1,3,none⟩=some (.string f.c)
 f4:w.cell? ⟨B + 1 + 1,4,none⟩=some (.string f.d)
 k:w.cell? ⟨B + 1 + 1 + 1,0,none⟩=some (.map (some bK))
 x0:w.cell? ⟨B + 1 + 1 + 1 + 1,0,none⟩=some (.int .i64 x.e.kind)
 x1:w.cell? ⟨B + 1 + 1 + 1 + 1,1,none⟩=some (.slice x.adA x.e.allow.length x.capA)
 x2:w.cell? ⟨B + 1 + 1 + 1 + 1,2,none⟩=some (.string x.e.over)
 x3:w.cell? ⟨B + 1 + 1 + 1 + 1,3,none⟩=some (.string x.e.name)
 x4:w.cell? ⟨B + 1 + 1 + 1 + 1,4,none⟩=some (.slice x.adK x.e.kids.length x.capK)
 v:w.cell? ⟨B + 1 + 1 + 1 + 1 + 1,0,none⟩=some (wu B)
theorem NdB.below {w w':World} {B D:Nat} {vE:Value} {f:Fc} {bK:Nat} {x:ER} (h:NdB w B D vE f bK x) (hB:Below w.heap.size w w'):NdB w' B D vE f bK x:=by
 have hl:=h.lt;have c:∀ i o,i≤5→w'.cell? ⟨B + i,o,none⟩=w.cell? ⟨B + i,o,none⟩:=fun i o hi=>hB.cell (p:=⟨B + i,o,none⟩) (show B + i < _ by omega);have c0:∀ o,w'.cell? ⟨B,o,none⟩=w.cell? ⟨B,o,none⟩:=fun o=>hB.cell (p:=⟨B,o,none⟩) (show B < _ by omega);exact ⟨RZ hl hB.size,(c0 _).trans h.d,(c 1 _ (by omega)).trans h.e,(c 2 _ (by omega)).trans h.f0,(c 2 _ (by omega)).trans h.f1,(c 2 _ (by omega)).trans h.f2,(c 2 _ (by omega)).trans h.f3,(c 2 _ (by omega)).trans h.f4,(c 3 _ (by omega)).trans h.k,(c 4 _ (by omega)).trans h.x0,(c 4 _ (by omega)).trans h.x1,(c 4 _ (by omega)).trans h.x2,(c 4 _ (by omega)).trans h.x3,(c 4 _ (by omega)).trans h.x4,(c 5 _ (by omega)).trans h.v⟩
theorem kr (w:World) (D:Nat) (vE:Value) (f:Fc) (bK:Nat) (x:ER):Below w.heap.size w (F5 w D vE f bK x):=by
 unfold F5;exact ((((((R3 _ _).alloc (R4 _) _).alloc (by simp) _).alloc (by simp; omega) _).alloc (by simp; omega) _).alloc (by simp; omega) _).alloc (by simp; omega) _
theorem l5 (w:World) (cs:Array Value) (T:TypeId) (o:Nat):(w.alloc (.cells cs T)).cell? ⟨w.heap.size,o,none⟩=cs[o]?:=World.cell?_alloc_mark w cs T (0,0) o
theorem ku (w:World) (D:Nat) (vE:Value) (f:Fc) (bK:Nat) (x:ER):NdB (F5 w D vE f bK x) w.heap.size D vE f bK x:=by
 unfold F5;obtain ⟨w1,h1⟩:∃ u,u=w.alloc (.cells #[.pointer (some ⟨D,0,none⟩)] 93):=⟨_,rfl⟩;have s1:w1.heap.size=w.heap.size + 1:=by rw [h1,World.size_alloc]
 have b1:Below w.heap.size w w1:=by rw [h1]; exact (R3 _ _).alloc (R4 _) _
 obtain ⟨w2,h2⟩:∃ u,u=w1.alloc (.cells #[vE] 105):=⟨_,rfl⟩;have s2:w2.heap.size=w.heap.size + 1 + 1:=by rw [h2,World.size_alloc,s1]
 have b2:Below w1.heap.size w1 w2:=by rw [h2]; exact (R3 _ _).alloc (R4 _) _
 obtain ⟨w3,h3⟩:∃ u,u=w2.alloc (.cells #[.string f.a,.string f.b,.string f.r,.string f.c,.string f.d] 42):=⟨_,rfl⟩;have s3:w3.heap.size=w.heap.size + 1 + 1 + 1:=by rw [h3,World.size_alloc,s2]
 have b3:Below w2.heap.size w2 w3:=by rw [h3]; exact (R3 _ _).alloc (R4 _) _
 obtain ⟨w4,h4⟩:∃ u,u=w3.alloc (.cells #[.map (some bK)] 84):=⟨_,rfl⟩;have s4:w4.heap.size=w.heap.size + 1 + 1 + 1 + 1:=by rw [h4,World.size_alloc,s3]
 have b4:Below w3.heap.size w3 w4:=by rw [h4]; exact (R3 _ _).alloc (R4 _) _
 obtain ⟨w5,h5⟩:∃ u,u=w4.alloc (.cells #[.int .i64 x.e.kind,.slice x.adA x.e.allow.length x.capA,.string x.e.over,.string x.e.name,.slice x.adK x.e.kids.length x.capK] 166):=⟨_,rfl⟩;have s5:w5.heap.size=w.heap.size + 1 + 1 + 1 + 1 + 1:=by rw [h5,World.size_alloc,s4]
 have b5:Below w4.heap.size w4 w5:=by rw [h5]; exact (R3 _ _).alloc (R4 _) _
 obtain ⟨w6,h6⟩:∃ u,u=w5.alloc (.cells #[wu w.heap.size] 223):=⟨_,rfl⟩;have s6:w6.heap.size=w.heap.size + 1 + 1 + 1 + 1 + 1 + 1:=by rw [h6,World.size_alloc,s5]
 have b6:Below w5.heap.size w5 w6:=by rw [h6]; exact (R3 _ _).alloc (R4 _) _
 rw [← h1,← h2,← h3,← h4,← h5,← h6];have c0:∀ o,w6.cell? ⟨w.heap.size,o,none⟩=(#[.pointer (some ⟨D,0,none⟩)]:Array Value)[o]?:=fun o=>by
  have e:w1.cell? ⟨w.heap.size,o,none⟩=(#[.pointer (some ⟨D,0,none⟩)]:Array Value)[o]?:=by rw [h1]; exact l5 _ _ _ o
  rw [b6.cell (p:=⟨w.heap.size,o,none⟩) (show w.heap.size < _ by omega),b5.cell (p:=⟨w.heap.size,o,none⟩) (show w.heap.size < _ by omega),b4.cell (p:=⟨w.heap.size,o,none⟩) (show w.heap.size < _ by omega),b3.cell (p:=⟨w.heap.size,o,none⟩) (show w.heap.size < _ by omega),b2.cell (p:=⟨w.heap.size,o,none⟩) (show w.heap.size < _ by omega)]; exact e
 have c1:∀ o,w6.cell? ⟨w.heap.size + 1,o,none⟩=(#[vE]:Array Value)[o]?:=fun o=>by
  have e:w2.cell? ⟨w.heap.size + 1,o,none⟩=(#[vE]:Array Value)[o]?:=by rw [h2,← s1]; exact l5 _ _ _ o
  rw [b6.cell (p:=⟨w.heap.size + 1,o,none⟩) (show w.heap.size + 1 < _ by omega),b5.cell (p:=⟨w.heap.size + 1,o,none⟩) (show w.heap.size + 1 < _ by omega),b4.cell (p:=⟨w.heap.size + 1,o,none⟩) (show w.heap.size + 1 < _ by omega),b3.cell (p:=⟨w.heap.size + 1,o,none⟩) (show w.heap.size + 1 < _ by omega)]; exact e
 have c2:∀ o,w6.cell? ⟨w.heap.size + 1 + 1,o,none⟩=(#[.string f.a,.string f.b,.string f.r,.string f.c,.string f.d]:Array Value)[o]?:=fun o=>by
  have e:w3.cell? ⟨w.heap.size + 1 + 1,o,none⟩=(#[.string f.a,.string f.b,.string f.r,.string f.c,.string f.d]:Array Value)[o]?:=by rw [h3,← s2]; exact l5 _ _ _ o
  rw [b6.cell (p:=⟨w.heap.size + 1 + 1,o,none⟩) (show w.heap.size + 1 + 1 < _ by omega),b5.cell (p:=⟨w.heap.size + 1 + 1,o,none⟩) (show w.heap.size + 1 + 1 < _ by omega),b4.cell (p:=⟨w.heap.size + 1 + 1,o,none⟩) (show w.heap.size + 1 + 1 < _ by omega)]; exact e
 have c3:∀ o,w6.cell? ⟨w.heap.size + 1 + 1 + 1,o,none⟩=(#[.map (some bK)]:Array Value)[o]?:=fun o=>by
  have e:w4.cell? ⟨w.heap.size + 1 + 1 + 1,o,none⟩=(#[.map (some bK)]:Array Value)[o]?:=by rw [h4,← s3]; exact l5 _ _ _ o
  rw [b6.cell (p:=⟨w.heap.size + 1 + 1 + 1,o,none⟩) (show w.heap.size + 1 + 1 + 1 < _ by omega),b5.cell (p:=⟨w.heap.size + 1 + 1 + 1,o,none⟩) (show w.heap.size + 1 + 1 + 1 < _ by omega)]; exact e
 have c4:∀ o,w6.cell? ⟨w.heap.size + 1 + 1 + 1 + 1,o,none⟩=(#[.int .i64 x.e.kind,.slice x.adA x.e.allow.length x.capA,.string x.e.over,.string x.e.name,.slice x.adK x.e.kids.length x.capK]:Array Value)[o]?:=fun o=>by
  have e:w5.cell? ⟨w.heap.size + 1 + 1 + 1 + 1,o,none⟩=(#[.int .i64 x.e.kind,.slice x.adA x.e.allow.length x.capA,.string x.e.over,.string x.e.name,.slice x.adK x.e.kids.length x.capK]:Array Value)[o]?:=by rw [h5,← s4]; exact l5 _ _ _ o
  rw [b6.cell (p:=⟨w.heap.size + 1 + 1 + 1 + 1,o,none⟩) (show w.heap.size + 1 + 1 + 1 + 1 < _ by omega)]; exact e
 have c5:∀ o,w6.cell? ⟨w.heap.size + 1 + 1 + 1 + 1 + 1,o,none⟩=(#[wu w.heap.size]:Array Value)[o]?:=fun o=>by
  have e:w6.cell? ⟨w.heap.size + 1 + 1 + 1 + 1 + 1,o,none⟩=(#[wu w.heap.size]:Array Value)[o]?:=by rw [h6,← s5]; exact l5 _ _ _ o
  exact e
 exact ⟨by omega,c0 0,c1 0,c2 0,c2 1,c2 2,c2 3,c2 4,c3 0,c4 0,c4 1,c4 2,c4 3,c4 4,c5 0⟩
def CX (D:Nat) (vE:Value) (f:Fc) (bK:Nat) (w:World) (i:Int) (b:Bool):Prop:=∀ w1:World,Below w.heap.size w w1→Calls prog 100 #[.pointer (some ⟨D,0,none⟩),vE,.int .i64 i,.agg #[.string f.a,.string f.b,.string f.r,.string f.c,.string f.d],.map (some bK)] w1 fun e w'=>e=.returned (.bool b)∧Below w1.heap.size w1 w'
theorem mU {w w1:World} {B D:Nat} {vE:Value} {f:Fc} {bK:Nat} {x:ER} {i:Int} {b:Bool} (hK:CX D vE f bK w i b) (hb:Below w.heap.size w w1) (hB:NdB w1 B D vE f bK x) :
  Calls prog 132 #[.int .i64 i,.pointer (some ⟨B,0,none⟩),.pointer (some ⟨B + 1,0,none⟩),.pointer (some ⟨B + 1 + 1,0,none⟩),.pointer (some ⟨B + 1 + 1 + 1,0,none⟩)] w1 fun e w'=>e=.returned (.bool b)∧Below w1.heap.size w1 w':=by
 have HC:=ag (hK w1 hb);obtain ⟨-,d,e,f0,f1,f2,f3,f4,k,-⟩:=hB;clear hK;go_enter func132,ntmps132;go_wp2_with fail;refine HC.out.mono ?_;rintro e w2 ⟨rfl,hb2⟩;have HB:=ag hb2;clear hb2;go_wp2;go_ret;exact ⟨rfl,HB.out⟩
theorem rY {w w1:World} {B D:Nat} {vE:Value} {f:Fc} {bK:Nat} {x:ER} {i:Int} {b:Bool} (hK:CX D vE f bK w i b) (hb:Below w.heap.size w w1) (hB:NdB w1 B D vE f bK x) :
  Calls prog 133 #[.int .i64 i,.pointer (some ⟨B + 1 + 1 + 1 + 1 + 1,0,none⟩)] w1 fun e w'=>e=.returned (.bool (!b))∧Below w1.heap.size w1 w':=by
 have HC:=ag (mU hK hb hB);have hv:=hB.v;unfold wu at hv;clear hK hB;go_enter func133,ntmps133;go_wp2_with fail;refine HC.out.mono ?_;rintro e w2 ⟨rfl,hb2⟩;have HB:=ag hb2;clear hb2;go_wp2;go_ret;exact ⟨rfl,HB.out⟩
theorem Qv (xs:Array Value) (u:World):(callFunc 132 xs).run prog u=.ok (.enter 132 xs) u:=by kernel_rfl
theorem Qw (xs:Array Value) (u:World):(callFunc 133 xs).run prog u=.ok (.enter 133 xs) u:=by kernel_rfl
theorem Kt (p:Int→Bool) {zs:List Int} {k:Nat} (h:k < zs.length):(zs.drop k).any p=(p zs[k] || (zs.drop (k + 1)).any p):=by rw [Sr h]; rfl
theorem Hz (FC:Nat) (rc cp:Array Value) (p:Int→Bool) (ad:Option Addr) (cap:Nat) (xs:List Int) (w:World) (hlen:xs.length≤1048576) (hs:lF w ad xs)
  (hrun:∀ (ys:Array Value) (u:World),(callFunc FC ys).run prog u=.ok (.enter FC ys) u) (hp:∀ x ∈ xs,∀ w1:World,Below w.heap.size w w1→Calls prog FC (rc.push (.int .i64 x) ++ cp) w1 fun e w'=>e=.returned (.bool (p x))∧Below w1.heap.size w1 w') :
  Calls prog 154 #[.slice ad xs.length cap,.func (Fn.func FC) rc cp] w fun e w'=>(∃ r:Int,e=.returned (.int .i64 r)∧decide (0≤r)=xs.any p)∧Below w.heap.size w w':=by
 have HS:=ag hs;have Ux:=ag hrun;have HP:=ag hp;clear hs hrun hp;have HD:Hid (∀ k (h:k < xs.length),(xs.drop k).any p=(p xs[k] || (xs.drop (k + 1)).any p)):=fun k h=>Kt p h;go_enter func154,ntmps154;go_wp2_with fail;go_loopw [8] (fun i wr=>∃ k:Nat,k≤xs.length∧i=.int .i64 k∧Hid ((xs.drop k).any p=xs.any p)∧Hid (Below w.heap.size w wr)) (fun i _=>xs.length - (intOf i).toNat);case atStart=>exact ⟨0,R6 _,rfl,rfl,R3 _ _⟩
 case round =>
  obtain ⟨k,hk,rfl,HQ,HB⟩:=hrel;by_cases hlt:k < xs.length
  ·obtain ⟨b,off,SL,t0,hbl⟩:=lF.at0 (HS.out.below HB.out) hlt;have HM:Hid (xs[k] ∈ xs):=RY hlt;have hk1:=bn k;have hk2:(k:Int) < (xs.length:Int):=by omega
   have HD2:=ag (HD.out k hlt);subst SL;go_wp2_with fail;rw [Ux.out,Oper.upon_enter];refine (HP.out _ HM.out _ HB.out).mono ?_;rintro e w1 ⟨rfl,hb1⟩;have HB1:=gY HB hb1;clear hb1 t0;cases he:p xs[k] with
   | true =>
    have HN:Hid (xs.any p=true):=by show _=_; rw [← HQ.out,HD2.out,he]; rfl
    go_wp2;go_ret;exact ⟨⟨k,rfl,by rw [HN.out]; simp⟩,HB1.out⟩
   | false =>
    have XR:Hid ((xs.drop (k + 1)).any p=xs.any p):=by show _=_; rw [← HQ.out,HD2.out,he]; rfl
    go_wp2;go_roundw;case rel=>exact ⟨k + 1,by omega,by go_num,XR,HB1⟩
    case measure=>simp [intOf] <;> omega
  ·have HN:Hid (xs.any p=false):=by show _=_; rw [← HQ.out,List.drop_of_length_le (by omega)]; rfl
   go_wp2;go_ret;exact ⟨⟨-1,rfl,by rw [HN.out]; simp⟩,HB.out⟩
theorem qi (FC:Nat) (rc cp:Array Value) (p:Int→Bool) (ad:Option Addr) (cap:Nat) (xs:List Int) (w:World) (hlen:xs.length≤1048576) (hs:lF w ad xs)
  (hrun:∀ (ys:Array Value) (u:World),(callFunc FC ys).run prog u=.ok (.enter FC ys) u) (hp:∀ x ∈ xs,∀ w1:World,Below w.heap.size w w1→Calls prog FC (rc.push (.int .i64 x) ++ cp) w1 fun e w'=>e=.returned (.bool (p x))∧Below w1.heap.size w1 w') :
  Calls prog 136 #[.slice ad xs.length cap,.func (Fn.func FC) rc cp] w fun e w'=>e=.returned (.bool (xs.any p))∧Below w.heap.size w w':=by
 have HC:=ag (Hz FC rc cp p ad cap xs w hlen hs hrun hp);clear hs hrun hp;go_enter func136,ntmps136;go_wp2_with fail;refine HC.out.mono ?_;rintro e w' ⟨⟨r,rfl,hr⟩,hbx⟩;have HR:=ag hr;clear hr;go_wp2;go_ret;exact ⟨by rw [← HR.out]; rfl,hbx⟩
end Go.Proofs.YtdaoiceeidoehaaGreat
