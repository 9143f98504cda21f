/- The document's question of a node with kids: one of them, all of them. -/
import Derived.Test.YtdaoiceeidoehaaGreatJ19
open Go.Proofs.Tryz
set_option maxHeartbeats 80000000
namespace Go.Proofs.YtdaoiceeidoehaaGreat
set_option linter.unusedVariables false
set_option maxRecDepth 100000
open Go.ChangeShapes Go.WideShapes Go.ChangeAt Go.RowKit Go.Maps
open Pl
theorem Gc (p:Int→Bool) {zs:List Int} {k:Nat} (h:k < zs.length):(zs.drop k).any p=(p zs[k] || (zs.drop (k + 1)).any p):=by rw [List.drop_eq_getElem_cons h]; rfl
theorem Gd (p:Int→Bool) {zs:List Int} {k:Nat} (h:k < zs.length):(zs.drop k).all p=(p zs[k] && (zs.drop (k + 1)).all p):=by rw [List.drop_eq_getElem_cons h]; rfl
def I4 (v0 vT vE vK vR:Value) (f:Fc) (w:World) (i:Int) (b:Bool):Prop:=∀ w1:World,Below w.heap.size w w1→Calls prog 58 #[v0,vT,vE,.int .i64 i,vK,vR,.agg #[.string f.a,.string f.b,.string f.r,.string f.c,.string f.d]] w1 fun e w'=>e=.returned (.bool b)∧Below w1.heap.size w1 w'
theorem zG {w W w':World} {B bK:Nat} {y x0 x1 x2 x3 x4 z:Value} {o4 oK:Nat} (h:W.cell? ⟨B + 1,o4,none⟩=some y∧W.cell? ⟨B,0,none⟩=some x0∧W.cell? ⟨B,1,none⟩=some x1∧W.cell? ⟨B,2,none⟩=some x2∧W.cell? ⟨B,3,none⟩=some x3∧W.cell? ⟨B,4,none⟩=some x4∧W.cell? ⟨bK,oK,none⟩=some z∧B + 1 < W.heap.size∧bK < W.heap.size∧Below w.heap.size w W) (hb:Below W.heap.size W w'):w'.cell? ⟨B + 1,o4,none⟩=some y∧w'.cell? ⟨B,0,none⟩=some x0∧w'.cell? ⟨B,1,none⟩=some x1∧w'.cell? ⟨B,2,none⟩=some x2∧w'.cell? ⟨B,3,none⟩=some x3∧w'.cell? ⟨B,4,none⟩=some x4∧w'.cell? ⟨bK,oK,none⟩=some z∧B + 1 < w'.heap.size∧bK < w'.heap.size∧Below w.heap.size w w':=by
 obtain ⟨h0,g0,g1,g2,g3,g4,g5,hn,hm,hB⟩:=h;have hl:B < W.heap.size:=by omega
 have hc:∀ o,w'.cell? ⟨B,o,none⟩=W.cell? ⟨B,o,none⟩:=fun o=>hb.cell (p:=⟨B,o,none⟩) hl;exact ⟨(hb.cell (p:=⟨B + 1,o4,none⟩) hn).trans h0,(hc _).trans g0,(hc _).trans g1,(hc _).trans g2,(hc _).trans g3,(hc _).trans g4,(hb.cell (p:=⟨bK,oK,none⟩) hm).trans g5,Nat.lt_of_lt_of_le hn hb.size,Nat.lt_of_lt_of_le hm hb.size,hB.trans (hb.mono hB.size)⟩
theorem wO (H:Int→Bool) (v0 vT:Value) (adE:Option Addr) (capE:Nat) (rows:List ER) (n:Nat) (vK vR:Value) (f:Fc) (w:World) (hex:dw w adE rows) (hn:n < rows.length) (hre:rows.length≤1000) (hkl:rows[n].e.kids.length≤1000) (hk:rows[n].e.kind=4) (hIH:∀ i ∈ rows[n].e.kids,I4 v0 vT (.slice adE rows.length capE) vK vR f w i (H i)) :
  Calls prog 58 #[v0,vT,.slice adE rows.length capE,.int .i64 (n:Int),vK,vR,.agg #[.string f.a,.string f.b,.string f.r,.string f.c,.string f.d]] w fun e w'=>e=.returned (.bool (rows[n].e.kids.any H))∧Below w.heap.size w w':=by
 obtain ⟨b,off,hadr,⟨t0,t1,t2,t3,t4⟩,hbl,hok⟩:=dw.at0 hex hn;have HK:=ag hok.2;have HIH:=ag hIH;obtain ⟨W0,hW0⟩:∃ W0,W0=p9 w f rows[n]:=⟨_,rfl⟩;have HB0:Hid (Below w.heap.size w W0):=by show Below _ _ _; rw [hW0]; exact dm _ _ _
 have HE0:Hid (EnB W0 w.heap.size f rows[n]):=by show EnB _ _ _ _; rw [hW0]; exact dY _ _ _
 have hk1:(rows[n].e.kind == 1)=false:=by rw [hk]; rfl
 have hk2:(rows[n].e.kind == 2)=false:=by rw [hk]; rfl
 have hk3:(rows[n].e.kind == 3)=false:=by rw [hk]; rfl
 have hk4:(rows[n].e.kind == 4)=true:=by rw [hk]; rfl
 have hn1:=aY n;have hn2:(n:Int) < (rows.length:Int):=by omega
 unfold p9 at hW0;rw [hadr] at HIH ⊢;clear hadr hex hk hIH hok;go_enter func58,ntmps58;go_wp2_with fail;rw [← hW0];clear hW0 t0 t1 t2 t3 t4;go_loopw [20] (fun i wr=>∃ k:Nat,k≤rows[n].e.kids.length∧i=.int .i64 k∧Hid ((rows[n].e.kids.drop k).any H=rows[n].e.kids.any H)∧Hid (Below W0.heap.size W0 wr)) (fun i _=>rows[n].e.kids.length - (intOf i).toNat);case atStart=>exact ⟨0,Nat.zero_le _,rfl,rfl,Below.refl _ _⟩
 case round =>
  obtain ⟨k,hk,rfl,HP,HB⟩:=hrel;have HBW:Hid (Below w.heap.size w wr):=HB0.out.trans (HB.out.mono HB0.out.size);have hE:=HE0.out.below HB.out;have e0:=hE.f0;have e1:=hE.f1;have e2:=hE.f2;have e3:=hE.f3;have e4:=hE.f4;have y4:=hE.x4;have el2:w.heap.size + 1 < wr.heap.size:=hE.lt;clear hE;by_cases hlt:k < rows[n].e.kids.length
  ·obtain ⟨bK,offK,hadK,z0,hbK⟩:=nA.at0 (HK.out.below HBW.out) hlt;rw [hadK] at y4;have hi1:=aY k;have hi2:(k:Int) < (rows[n].e.kids.length:Int):=by omega
   have HD:Hid (rows[n].e.kids.any H=(H rows[n].e.kids[k] || (rows[n].e.kids.drop (k + 1)).any H)):=by show _=_; rw [← HP.out]; exact Gc H hlt
   have HC:=ag (HIH.out _ (List.getElem_mem hlt));have HCALL:∀ v:Bool,H rows[n].e.kids[k]=v→Hid (∀ W':World,(W'.cell? ⟨w.heap.size + 1,4,none⟩=some (.slice (some ⟨bK,offK,none⟩) rows[n].e.kids.length rows[n].capK)∧W'.cell? ⟨w.heap.size,0,none⟩=some (.string f.a)∧W'.cell? ⟨w.heap.size,1,none⟩=some (.string f.b)∧W'.cell? ⟨w.heap.size,2,none⟩=some (.string f.r)∧W'.cell? ⟨w.heap.size,3,none⟩=some (.string f.c)∧W'.cell? ⟨w.heap.size,4,none⟩=some (.string f.d)∧W'.cell? ⟨bK,offK + k,none⟩=some (.int .i64 rows[n].e.kids[k])∧w.heap.size + 1 < W'.heap.size∧bK < W'.heap.size∧Below wr.heap.size wr W')→Calls prog 58 #[v0,vT,.slice (some ⟨b,off,none⟩) rows.length capE,.int .i64 rows[n].e.kids[k],vK,vR,.agg #[.string f.a,.string f.b,.string f.r,.string f.c,.string f.d]] W' fun e w'=>e=.returned (.bool v)∧Below W'.heap.size W' w'):=fun v hv W' h=>by
    have hb':=h.2.2.2.2.2.2.2.2.2;rw [← hv];exact HC.out W' (HBW.out.trans (hb'.mono HBW.out.size))
   clear hadK;cases hh:H rows[n].e.kids[k] with
   | true =>
    have HN:Hid (rows[n].e.kids.any H=true):=by show _=_; rw [HD.out,hh]; rfl
    have HCL:=HCALL _ hh;clear hh HC HCALL;go_wp2_with fail
    go_region_held3 (fun w'=>w'.cell? ⟨w.heap.size + 1,4,none⟩=some (.slice (some ⟨bK,offK,none⟩) rows[n].e.kids.length rows[n].capK)∧w'.cell? ⟨w.heap.size,0,none⟩=some (.string f.a)∧w'.cell? ⟨w.heap.size,1,none⟩=some (.string f.b)∧w'.cell? ⟨w.heap.size,2,none⟩=some (.string f.r)∧w'.cell? ⟨w.heap.size,3,none⟩=some (.string f.c)∧w'.cell? ⟨w.heap.size,4,none⟩=some (.string f.d)∧w'.cell? ⟨bK,offK + k,none⟩=some (.int .i64 rows[n].e.kids[k])∧w.heap.size + 1 < w'.heap.size∧bK < w'.heap.size∧Below wr.heap.size wr w')
     (first | assumption | exact zG (by assumption) hbx | exact ⟨y4,e0,e1,e2,e3,e4,z0,el2,hbK,(Below.refl _ _).drew⟩)
     (first | (go_at_call 58; refine (HCL.out _ (by assumption)).mono ?_; rintro e w' ⟨rfl,hbx⟩))
    rename_i hH;have HG:=ag hH.2.2.2.2.2.2.2.2.2;clear hH hbx y4 e0 e1 e2 e3 e4 z0 el2;go_wp2;go_ret;exact ⟨by rw [HN.out]; rfl,HBW.out.trans (HG.out.mono HBW.out.size)⟩
   | false =>
    have HP2:Hid ((rows[n].e.kids.drop (k + 1)).any H=rows[n].e.kids.any H):=by show _=_; rw [HD.out,hh]; rfl
    have HCL:=HCALL _ hh;clear hh HC HCALL;go_wp2_with fail
    go_region_held3 (fun w'=>w'.cell? ⟨w.heap.size + 1,4,none⟩=some (.slice (some ⟨bK,offK,none⟩) rows[n].e.kids.length rows[n].capK)∧w'.cell? ⟨w.heap.size,0,none⟩=some (.string f.a)∧w'.cell? ⟨w.heap.size,1,none⟩=some (.string f.b)∧w'.cell? ⟨w.heap.size,2,none⟩=some (.string f.r)∧w'.cell? ⟨w.heap.size,3,none⟩=some (.string f.c)∧w'.cell? ⟨w.heap.size,4,none⟩=some (.string f.d)∧w'.cell? ⟨bK,offK + k,none⟩=some (.int .i64 rows[n].e.kids[k])∧w.heap.size + 1 < w'.heap.size∧bK < w'.heap.size∧Below wr.heap.size wr w')
     (first | assumption | exact zG (by assumption) hbx | exact ⟨y4,e0,e1,e2,e3,e4,z0,el2,hbK,(Below.refl _ _).drew⟩)
     (first | (go_at_call 58; refine (HCL.out _ (by assumption)).mono ?_; rintro e w' ⟨rfl,hbx⟩))
    rename_i hH;have HG:=ag hH.2.2.2.2.2.2.2.2.2;have HB2:=ag (HB.out.trans (HG.out.mono HB.out.size));clear hH hbx y4 e0 e1 e2 e3 e4 z0 el2;go_wp2;go_roundw;case rel=>exact ⟨k + 1,by omega,by go_num,HP2,HB2⟩
    case measure=>simp [intOf] <;> omega
  ·have HN:Hid (rows[n].e.kids.any H=false):=by show _=_; rw [← HP.out,List.drop_of_length_le (by omega)]; rfl
   go_wp2;go_ret;exact ⟨by rw [HN.out]; rfl,HBW.out⟩
theorem zH (H:Int→Bool) (v0 vT:Value) (adE:Option Addr) (capE:Nat) (rows:List ER) (n:Nat) (vK vR:Value) (f:Fc) (w:World) (hex:dw w adE rows) (hn:n < rows.length) (hre:rows.length≤1000) (hkl:rows[n].e.kids.length≤1000) (hk:rows[n].e.kind=5) (hIH:∀ i ∈ rows[n].e.kids,I4 v0 vT (.slice adE rows.length capE) vK vR f w i (H i)) :
  Calls prog 58 #[v0,vT,.slice adE rows.length capE,.int .i64 (n:Int),vK,vR,.agg #[.string f.a,.string f.b,.string f.r,.string f.c,.string f.d]] w fun e w'=>e=.returned (.bool (rows[n].e.kids.all H))∧Below w.heap.size w w':=by
 obtain ⟨b,off,hadr,⟨t0,t1,t2,t3,t4⟩,hbl,hok⟩:=dw.at0 hex hn;have HK:=ag hok.2;have HIH:=ag hIH;obtain ⟨W0,hW0⟩:∃ W0,W0=p9 w f rows[n]:=⟨_,rfl⟩;have HB0:Hid (Below w.heap.size w W0):=by show Below _ _ _; rw [hW0]; exact dm _ _ _
 have HE0:Hid (EnB W0 w.heap.size f rows[n]):=by show EnB _ _ _ _; rw [hW0]; exact dY _ _ _
 have hk1:(rows[n].e.kind == 1)=false:=by rw [hk]; rfl
 have hk2:(rows[n].e.kind == 2)=false:=by rw [hk]; rfl
 have hk3:(rows[n].e.kind == 3)=false:=by rw [hk]; rfl
 have hk4:(rows[n].e.kind == 4)=false:=by rw [hk]; rfl
 have hk5:(rows[n].e.kind == 5)=true:=by rw [hk]; rfl
 have hn1:=aY n;have hn2:(n:Int) < (rows.length:Int):=by omega
 unfold p9 at hW0;rw [hadr] at HIH ⊢;clear hadr hex hk hIH hok;go_enter func58,ntmps58;go_wp2_with fail;rw [← hW0];clear hW0 t0 t1 t2 t3 t4;go_loopw [21] (fun i wr=>∃ k:Nat,k≤rows[n].e.kids.length∧i=.int .i64 k∧Hid ((rows[n].e.kids.drop k).all H=rows[n].e.kids.all H)∧Hid (Below W0.heap.size W0 wr)) (fun i _=>rows[n].e.kids.length - (intOf i).toNat);case atStart=>exact ⟨0,Nat.zero_le _,rfl,rfl,Below.refl _ _⟩
 case round =>
  obtain ⟨k,hk,rfl,HP,HB⟩:=hrel;have HBW:Hid (Below w.heap.size w wr):=HB0.out.trans (HB.out.mono HB0.out.size);have hE:=HE0.out.below HB.out;have e0:=hE.f0;have e1:=hE.f1;have e2:=hE.f2;have e3:=hE.f3;have e4:=hE.f4;have y4:=hE.x4;have el2:w.heap.size + 1 < wr.heap.size:=hE.lt;clear hE;by_cases hlt:k < rows[n].e.kids.length
  ·obtain ⟨bK,offK,hadK,z0,hbK⟩:=nA.at0 (HK.out.below HBW.out) hlt;rw [hadK] at y4;have hi1:=aY k;have hi2:(k:Int) < (rows[n].e.kids.length:Int):=by omega
   have HD:Hid (rows[n].e.kids.all H=(H rows[n].e.kids[k] && (rows[n].e.kids.drop (k + 1)).all H)):=by show _=_; rw [← HP.out]; exact Gd H hlt
   have HC:=ag (HIH.out _ (List.getElem_mem hlt));have HCALL:∀ v:Bool,H rows[n].e.kids[k]=v→Hid (∀ W':World,(W'.cell? ⟨w.heap.size + 1,4,none⟩=some (.slice (some ⟨bK,offK,none⟩) rows[n].e.kids.length rows[n].capK)∧W'.cell? ⟨w.heap.size,0,none⟩=some (.string f.a)∧W'.cell? ⟨w.heap.size,1,none⟩=some (.string f.b)∧W'.cell? ⟨w.heap.size,2,none⟩=some (.string f.r)∧W'.cell? ⟨w.heap.size,3,none⟩=some (.string f.c)∧W'.cell? ⟨w.heap.size,4,none⟩=some (.string f.d)∧W'.cell? ⟨bK,offK + k,none⟩=some (.int .i64 rows[n].e.kids[k])∧w.heap.size + 1 < W'.heap.size∧bK < W'.heap.size∧Below wr.heap.size wr W')→Calls prog 58 #[v0,vT,.slice (some ⟨b,off,none⟩) rows.length capE,.int .i64 rows[n].e.kids[k],vK,vR,.agg #[.string f.a,.string f.b,.string f.r,.string f.c,.string f.d]] W' fun e w'=>e=.returned (.bool v)∧Below W'.heap.size W' w'):=fun v hv W' h=>by
    have hb':=h.2.2.2.2.2.2.2.2.2;rw [← hv];exact HC.out W' (HBW.out.trans (hb'.mono HBW.out.size))
   clear hadK;cases hh:H rows[n].e.kids[k] with
   | false =>
    have HN:Hid (rows[n].e.kids.all H=false):=by show _=_; rw [HD.out,hh]; rfl
    have HCL:=HCALL _ hh;clear hh HC HCALL;go_wp2_with fail
    go_region_held3 (fun w'=>w'.cell? ⟨w.heap.size + 1,4,none⟩=some (.slice (some ⟨bK,offK,none⟩) rows[n].e.kids.length rows[n].capK)∧w'.cell? ⟨w.heap.size,0,none⟩=some (.string f.a)∧w'.cell? ⟨w.heap.size,1,none⟩=some (.string f.b)∧w'.cell? ⟨w.heap.size,2,none⟩=some (.string f.r)∧w'.cell? ⟨w.heap.size,3,none⟩=some (.string f.c)∧w'.cell? ⟨w.heap.size,4,none⟩=some (.string f.d)∧w'.cell? ⟨bK,offK + k,none⟩=some (.int .i64 rows[n].e.kids[k])∧w.heap.size + 1 < w'.heap.size∧bK < w'.heap.size∧Below wr.heap.size wr w')
     (first | assumption | exact zG (by assumption) hbx | exact ⟨y4,e0,e1,e2,e3,e4,z0,el2,hbK,(Below.refl _ _).drew⟩)
     (first | (go_at_call 58; refine (HCL.out _ (by assumption)).mono ?_; rintro e w' ⟨rfl,hbx⟩))
    rename_i hH;have HG:=ag hH.2.2.2.2.2.2.2.2.2;clear hH hbx y4 e0 e1 e2 e3 e4 z0 el2;go_wp2;go_ret;exact ⟨by rw [HN.out]; rfl,HBW.out.trans (HG.out.mono HBW.out.size)⟩
   | true =>
    have HP2:Hid ((rows[n].e.kids.drop (k + 1)).all H=rows[n].e.kids.all H):=by show _=_; rw [HD.out,hh]; rfl
    have HCL:=HCALL _ hh;clear hh HC HCALL;go_wp2_with fail
    go_region_held3 (fun w'=>w'.cell? ⟨w.heap.size + 1,4,none⟩=some (.slice (some ⟨bK,offK,none⟩) rows[n].e.kids.length rows[n].capK)∧w'.cell? ⟨w.heap.size,0,none⟩=some (.string f.a)∧w'.cell? ⟨w.heap.size,1,none⟩=some (.string f.b)∧w'.cell? ⟨w.heap.size,2,none⟩=some (.string f.r)∧w'.cell? ⟨w.heap.size,3,none⟩=some (.string f.c)∧w'.cell? ⟨w.heap.size,4,none⟩=some (.string f.d)∧w'.cell? ⟨bK,offK + k,none⟩=some (.int .i64 rows[n].e.kids[k])∧w.heap.size + 1 < w'.heap.size∧bK < w'.heap.size∧Below wr.heap.size wr w')
     (first | assumption | exact zG (by assumption) hbx | exact ⟨y4,e0,e1,e2,e3,e4,z0,el2,hbK,(Below.refl _ _).drew⟩)
     (first | (go_at_call 58; refine (HCL.out _ (by assumption)).mono ?_; rintro e w' ⟨rfl,hbx⟩))
    rename_i hH;have HG:=ag hH.2.2.2.2.2.2.2.2.2;have HB2:=ag (HB.out.trans (HG.out.mono HB.out.size));clear hH hbx y4 e0 e1 e2 e3 e4 z0 el2;go_wp2;go_roundw;case rel=>exact ⟨k + 1,by omega,by go_num,HP2,HB2⟩
    case measure=>simp [intOf] <;> omega
  ·have HN:Hid (rows[n].e.kids.all H=true):=by show _=_; rw [← HP.out,List.drop_of_length_le (by omega)]; rfl
   go_wp2;go_ret;exact ⟨by rw [HN.out]; rfl,HBW.out⟩
theorem Bz (b0 b1:Bool) (v0 vT:Value) (adE:Option Addr) (capE:Nat) (rows:List ER) (n:Nat) (vK vR:Value) (f:Fc) (w:World) (hex:dw w adE rows) (hn:n < rows.length) (hre:rows.length≤1000) (hkl:rows[n].e.kids.length≤1000) (hk2:2≤rows[n].e.kids.length) (hk:rows[n].e.kind=6) (hA:I4 v0 vT (.slice adE rows.length capE) vK vR f w (rows[n].e.kids.getD 0 0) b0) (hB:I4 v0 vT (.slice adE rows.length capE) vR vR f w (rows[n].e.kids.getD 1 0) b1) :
  Calls prog 58 #[v0,vT,.slice adE rows.length capE,.int .i64 (n:Int),vK,vR,.agg #[.string f.a,.string f.b,.string f.r,.string f.c,.string f.d]] w fun e w'=>e=.returned (.bool (b0 && !b1))∧Below w.heap.size w w':=by
 obtain ⟨b,off,hadr,⟨t0,t1,t2,t3,t4⟩,hbl,hok⟩:=dw.at0 hex hn;have h0k:0 < rows[n].e.kids.length:=by omega
 have h1k:1 < rows[n].e.kids.length:=by omega
 obtain ⟨bK,offK,hadK,z0,hbK⟩:=nA.at0 hok.2 h0k;have z1:w.cell? ⟨bK,offK + 1,none⟩=some (.int .i64 rows[n].e.kids[1]):=by
  obtain ⟨b',off',hadK',z1,-⟩:=nA.at0 hok.2 h1k;rw [hadK] at hadK'; injection hadK' with e; injection e with e1 e2;rw [e1,e2]; exact z1
 obtain ⟨i0,hi0⟩:∃ i,i=rows[n].e.kids[0]:=⟨_,rfl⟩;obtain ⟨i1,hi1⟩:∃ i,i=rows[n].e.kids[1]:=⟨_,rfl⟩;have g0:rows[n].e.kids.getD 0 0=i0:=by rw [hi0,List.getD_eq_getElem?_getD,List.getElem?_eq_getElem h0k]; rfl
 have g1:rows[n].e.kids.getD 1 0=i1:=by rw [hi1,List.getD_eq_getElem?_getD,List.getElem?_eq_getElem h1k]; rfl
 rw [g0] at hA;rw [g1] at hB;rw [← hi0,Nat.add_zero] at z0;rw [← hi1] at z1;clear hi0 hi1 g0 g1;obtain ⟨kl,hkl'⟩:∃ kl,kl=rows[n].e.kids.length:=⟨_,rfl⟩;obtain ⟨cK,hcK⟩:∃ c,c=rows[n].capK:=⟨_,rfl⟩;have hl0:(0:Int) < (kl:Int):=by omega
 have hl1:(1:Int) < (kl:Int):=by omega
 have h0k':0 < kl:=by omega
 have h1k':1 < kl:=by omega
 have HA:=ag hA;have HBB:=ag hB;obtain ⟨W0,hW0⟩:∃ W0,W0=p9 w f rows[n]:=⟨_,rfl⟩;have HB0:Hid (Below w.heap.size w W0):=by show Below _ _ _; rw [hW0]; exact dm _ _ _
 have HE0:Hid (EnB W0 w.heap.size f rows[n]):=by show EnB _ _ _ _; rw [hW0]; exact dY _ _ _
 have HZ:Hid (W0.cell? ⟨bK,offK,none⟩=some (.int .i64 i0)∧W0.cell? ⟨bK,offK + 1,none⟩=some (.int .i64 i1)∧bK < W0.heap.size):=⟨(HB0.out.cell (p:=⟨bK,offK,none⟩) hbK).trans z0,(HB0.out.cell (p:=⟨bK,offK + 1,none⟩) hbK).trans z1,Nat.lt_of_lt_of_le hbK HB0.out.size⟩;have HX4:Hid (W0.cell? ⟨w.heap.size + 1,4,none⟩=some (.slice (some ⟨bK,offK,none⟩) kl cK)):=by show _=_; rw [HE0.out.x4,hadK,← hkl',← hcK]
 have hk1:(rows[n].e.kind == 1)=false:=by rw [hk]; rfl
 have hk2:(rows[n].e.kind == 2)=false:=by rw [hk]; rfl
 have hk3:(rows[n].e.kind == 3)=false:=by rw [hk]; rfl
 have hk4:(rows[n].e.kind == 4)=false:=by rw [hk]; rfl
 have hk5:(rows[n].e.kind == 5)=false:=by rw [hk]; rfl
 have hk6:(rows[n].e.kind == 6)=true:=by rw [hk]; rfl
 have hn1:=aY n;have hn2:(n:Int) < (rows.length:Int):=by omega
 unfold p9 at hW0;rw [hadr] at HA HBB ⊢;clear hadr hex hk hA hB hok z0 z1 hadK h0k h1k;go_enter func58,ntmps58;go_wp2_with fail;rw [← hW0];clear hW0 t0 t1 t2 t3 t4 hk1 hk2 hk3 hk4 hk5 hk6 hkl' hcK;cases b0 with
 | true =>
  refine bY 25 (fun n=>(undef::undef::undef::undef::undef::undef::undef::undef::undef::undef::undef::undef::undef::undef::undef::undef::undef::undef::undef::undef::undef::undef::undef::undef::undef::[]).getD n undef) (fun fq=>{ tmps:=List.toArray (v0::vT::.slice (some ⟨b,off,none⟩) rows.length capE::.int .i64 n::vK::vR::.agg #[.string f.a,.string f.b,.string f.r,.string f.c,.string f.d]::undef::undef::undef::undef::undef::undef::.pointer (some ⟨w.heap.size,0,none⟩)::.bool false::.pointer (some ⟨w.heap.size + 1,0,none⟩)::undef::undef::undef::undef::undef::undef::.slice (some ⟨b,off,none⟩) rows.length capE::.int .i64 n::.pointer (some ⟨b,off + n * 5,none⟩)::.agg #[.int .i64 rows[n].e.kind,.slice rows[n].adA rows[n].e.allow.length rows[n].capA,.string rows[n].e.over,.string rows[n].e.name,.slice rows[n].adK rows[n].e.kids.length rows[n].capK]::.pointer (some ⟨w.heap.size + 1,0,none⟩)::.int .i64 rows[n].e.kind::.bool false::.bool false::undef::undef::undef::undef::undef::undef::undef::undef::undef::undef::undef::undef::undef::undef::undef::undef::undef::undef::undef::undef::undef::undef::undef::undef::undef::undef::undef::undef::undef::undef::undef::undef::undef::undef::undef::undef::undef::undef::undef::undef::undef::undef::undef::undef::undef::undef::undef::undef::.bool false::.bool false::undef::undef::undef::undef::undef::undef::undef::undef::undef::.bool false::.bool false::undef::undef::undef::undef::undef::undef::undef::undef::undef::undef::undef::undef::undef::undef::undef::undef::undef::undef::undef::undef::undef::undef::undef::undef::undef::undef::undef::undef::undef::undef::undef::undef::undef::.bool false::.bool false::undef::undef::undef::undef::undef::undef::undef::undef::undef::undef::undef::undef::undef::undef::undef::undef::undef::undef::undef::.bool false::.bool false::undef::undef::undef::undef::undef::undef::undef::undef::undef::undef::undef::undef::undef::undef::undef::undef::undef::undef::undef::undef::.bool true::.bool true::fq 0::fq 1::fq 2::fq 3::fq 4::fq 5::fq 6::fq 7::fq 8::fq 9::fq 10::fq 11::fq 12::fq 13::fq 14::fq 15::fq 16::fq 17::fq 18::fq 19::fq 20::fq 21::fq 22::fq 23::fq 24::[]),defers:=[] }) (fun n v _=>v=(v0::vT::.slice (some ⟨b,off,none⟩) rows.length capE::.pointer (some ⟨w.heap.size + 1,4,none⟩)::.slice (some ⟨bK,offK,none⟩) kl cK::.pointer (some ⟨bK,offK,none⟩)::.int .i64 i0::vK::vR::.agg #[.string f.a,.string f.b,.string f.r,.string f.c,.string f.d]::.bool true::.bool true::v0::vT::.slice (some ⟨b,off,none⟩) rows.length capE::.pointer (some ⟨w.heap.size + 1,4,none⟩)::.slice (some ⟨bK,offK,none⟩) kl cK::.pointer (some ⟨bK,offK + 1,none⟩)::.int .i64 i1::vR::vR::.agg #[.string f.a,.string f.b,.string f.r,.string f.c,.string f.d]::.bool b1::.bool (!b1)::.bool (!b1)::[]).getD n undef) (fun w'=>Below W0.heap.size W0 w') (by kernel_rfl) rfl (by kernel_rfl) (by kernel_rfl) rfl (Below.refl _ _).drew ?stepT ?finT;case stepT =>
   rintro i hi o ho fq w' hG hpre;have HG:Hid (Below W0.heap.size W0 w'):=hG;have hEw:=HE0.out.below HG.out;have c0:=hEw.f0;have c1:=hEw.f1;have c2:=hEw.f2;have c3:=hEw.f3;have c4:=hEw.f4;have x4:=(HG.out.cell (p:=⟨w.heap.size + 1,4,none⟩) HE0.out.lt).trans HX4.out;have z0:=(HG.out.cell (p:=⟨bK,offK,none⟩) HZ.out.2.2).trans HZ.out.1;have z1:=(HG.out.cell (p:=⟨bK,offK + 1,none⟩) HZ.out.2.2).trans HZ.out.2.1;have lx:=hEw.lt;have lk:=Nat.lt_of_lt_of_le HZ.out.2.2 HG.out.size;clear hEw;have HM:Hid (∀ e ∈ o.after,Region.binds .any e=true→_):=hpre;clear hG hpre;have hc:=nz (i:=i) (by omega);clear hi
   repeat' rcases hc with rfl | hc
   iterate 10
    ·obtain rfl:=Option.some.inj ho;have hm:=HM.out
     try simp [Region.binds] at hm
     clear ho HM;refine wpOp_step rfl (fun K hK=>?_);have HK:Hid (∀ a w,_→K a w):=hK;clear hK
     try simp only [hm]
     go_simp;exact HK.out _ _ ⟨_,by simp [upd, *],HG.out,rfl,fun k u hu=>hu⟩
   ·obtain rfl:=Option.some.inj ho;have e0:fq 0=v0:=HM.out ⟨0,.data⟩ (by simp) rfl;have e1:fq 1=vT:=HM.out ⟨1,.data⟩ (by simp) rfl;have e2:fq 2=.slice (some ⟨b,off,none⟩) rows.length capE:=HM.out ⟨2,.data⟩ (by simp) rfl;have e6:fq 6=.int .i64 i0:=HM.out ⟨6,.data⟩ (by simp) rfl;have e7:fq 7=vK:=HM.out ⟨7,.data⟩ (by simp) rfl;have e8:fq 8=vR:=HM.out ⟨8,.data⟩ (by simp) rfl;have e9:fq 9=.agg #[.string f.a,.string f.b,.string f.r,.string f.c,.string f.d]:=HM.out ⟨9,.data⟩ (by simp) rfl;clear ho HM;refine wpOp_step rfl (fun K hK=>?_);have HK:Hid (∀ a w,_→K a w):=hK;clear hK;simp only [e0,e1,e2,e6,e7,e8,e9];go_simp;refine (HA.out _ (HB0.out.trans (HG.out.mono HB0.out.size))).mono ?_;rintro e w9 ⟨rfl,hb9⟩;have HG9:=fK HG hb9;clear hb9 c0 c1 c2 c3 c4 x4 z0 z1;go_wp2_with fail;exact HK.out _ _ ⟨Value.bool true,by simp [upd,e0,e1,e2,e6,e7,e8,e9],HG9.out,rfl,fun k u hu=>hu⟩
   iterate 11
    ·obtain rfl:=Option.some.inj ho;have hm:=HM.out
     try simp [Region.binds] at hm
     clear ho HM;refine wpOp_step rfl (fun K hK=>?_);have HK:Hid (∀ a w,_→K a w):=hK;clear hK
     try simp only [hm]
     go_simp;exact HK.out _ _ ⟨_,by simp [upd, *],HG.out,rfl,fun k u hu=>hu⟩
   ·obtain rfl:=Option.some.inj ho;have e12:fq 12=v0:=HM.out ⟨12,.data⟩ (by simp) rfl;have e13:fq 13=vT:=HM.out ⟨13,.data⟩ (by simp) rfl;have e14:fq 14=.slice (some ⟨b,off,none⟩) rows.length capE:=HM.out ⟨14,.data⟩ (by simp) rfl;have e18:fq 18=.int .i64 i1:=HM.out ⟨18,.data⟩ (by simp) rfl;have e19:fq 19=vR:=HM.out ⟨19,.data⟩ (by simp) rfl;have e20:fq 20=vR:=HM.out ⟨20,.data⟩ (by simp) rfl;have e21:fq 21=.agg #[.string f.a,.string f.b,.string f.r,.string f.c,.string f.d]:=HM.out ⟨21,.data⟩ (by simp) rfl;have e11:fq 11=.bool true:=HM.out ⟨11,.guard⟩ (by simp) rfl;clear ho HM;refine wpOp_step rfl (fun K hK=>?_);have HK:Hid (∀ a w,_→K a w):=hK;clear hK;simp only [e12,e13,e14,e18,e19,e20,e21,e11];go_simp;refine (HBB.out _ (HB0.out.trans (HG.out.mono HB0.out.size))).mono ?_;rintro e w9 ⟨rfl,hb9⟩;have HG9:=fK HG hb9;clear hb9 c0 c1 c2 c3 c4 x4 z0 z1;go_wp2_with fail;exact HK.out _ _ ⟨Value.bool b1,by simp [upd,e12,e13,e14,e18,e19,e20,e21,e11],HG9.out,rfl,fun k u hu=>hu⟩
   iterate 2
    ·obtain rfl:=Option.some.inj ho;have hm:=HM.out
     try simp [Region.binds] at hm
     clear ho HM;refine wpOp_step rfl (fun K hK=>?_);have HK:Hid (∀ a w,_→K a w):=hK;clear hK
     try simp only [hm]
     go_simp;exact HK.out _ _ ⟨_,by simp [upd, *],HG.out,rfl,fun k u hu=>hu⟩
  case finT =>
   rintro o ho fq w' hG hall;have e24:fq 24=.bool (!b1):=hall 24 (by omega);have HG:Hid (Below W0.heap.size W0 w'):=hG;clear hG hall;obtain rfl:=Option.some.inj ho;clear ho;refine wpOp_step rfl (fun K hK=>?_);have HK:Hid (∀ a w,_→K a w):=hK;clear hK;simp only [e24];go_simp;refine HK.out _ _ ?_;clear HK;go_wp2;go_ret;exact ⟨rfl,HB0.out.trans (HG.out.mono HB0.out.size)⟩
 | false =>
  refine bY 25 (fun n=>(undef::undef::undef::undef::undef::undef::undef::undef::undef::undef::undef::undef::undef::undef::undef::undef::undef::undef::undef::undef::undef::undef::undef::undef::undef::[]).getD n undef) (fun fq=>{ tmps:=List.toArray (v0::vT::.slice (some ⟨b,off,none⟩) rows.length capE::.int .i64 n::vK::vR::.agg #[.string f.a,.string f.b,.string f.r,.string f.c,.string f.d]::undef::undef::undef::undef::undef::undef::.pointer (some ⟨w.heap.size,0,none⟩)::.bool false::.pointer (some ⟨w.heap.size + 1,0,none⟩)::undef::undef::undef::undef::undef::undef::.slice (some ⟨b,off,none⟩) rows.length capE::.int .i64 n::.pointer (some ⟨b,off + n * 5,none⟩)::.agg #[.int .i64 rows[n].e.kind,.slice rows[n].adA rows[n].e.allow.length rows[n].capA,.string rows[n].e.over,.string rows[n].e.name,.slice rows[n].adK rows[n].e.kids.length rows[n].capK]::.pointer (some ⟨w.heap.size + 1,0,none⟩)::.int .i64 rows[n].e.kind::.bool false::.bool false::undef::undef::undef::undef::undef::undef::undef::undef::undef::undef::undef::undef::undef::undef::undef::undef::undef::undef::undef::undef::undef::undef::undef::undef::undef::undef::undef::undef::undef::undef::undef::undef::undef::undef::undef::undef::undef::undef::undef::undef::undef::undef::undef::undef::undef::undef::undef::undef::.bool false::.bool false::undef::undef::undef::undef::undef::undef::undef::undef::undef::.bool false::.bool false::undef::undef::undef::undef::undef::undef::undef::undef::undef::undef::undef::undef::undef::undef::undef::undef::undef::undef::undef::undef::undef::undef::undef::undef::undef::undef::undef::undef::undef::undef::undef::undef::undef::.bool false::.bool false::undef::undef::undef::undef::undef::undef::undef::undef::undef::undef::undef::undef::undef::undef::undef::undef::undef::undef::undef::.bool false::.bool false::undef::undef::undef::undef::undef::undef::undef::undef::undef::undef::undef::undef::undef::undef::undef::undef::undef::undef::undef::undef::.bool true::.bool true::fq 0::fq 1::fq 2::fq 3::fq 4::fq 5::fq 6::fq 7::fq 8::fq 9::fq 10::fq 11::fq 12::fq 13::fq 14::fq 15::fq 16::fq 17::fq 18::fq 19::fq 20::fq 21::fq 22::fq 23::fq 24::[]),defers:=[] }) (fun n v _=>v=(v0::vT::.slice (some ⟨b,off,none⟩) rows.length capE::.pointer (some ⟨w.heap.size + 1,4,none⟩)::.slice (some ⟨bK,offK,none⟩) kl cK::.pointer (some ⟨bK,offK,none⟩)::.int .i64 i0::vK::vR::.agg #[.string f.a,.string f.b,.string f.r,.string f.c,.string f.d]::.bool false::.bool false::undef::undef::undef::undef::undef::undef::undef::undef::undef::undef::undef::undef::.bool false::[]).getD n undef) (fun w'=>Below W0.heap.size W0 w') (by kernel_rfl) rfl (by kernel_rfl) (by kernel_rfl) rfl (Below.refl _ _).drew ?dG ?finF;case dG =>
   rintro i hi o ho fq w' hG hpre;have HG:Hid (Below W0.heap.size W0 w'):=hG;have hEw:=HE0.out.below HG.out;have c0:=hEw.f0;have c1:=hEw.f1;have c2:=hEw.f2;have c3:=hEw.f3;have c4:=hEw.f4;have x4:=(HG.out.cell (p:=⟨w.heap.size + 1,4,none⟩) HE0.out.lt).trans HX4.out;have z0:=(HG.out.cell (p:=⟨bK,offK,none⟩) HZ.out.2.2).trans HZ.out.1;have z1:=(HG.out.cell (p:=⟨bK,offK + 1,none⟩) HZ.out.2.2).trans HZ.out.2.1;have lx:=hEw.lt;have lk:=Nat.lt_of_lt_of_le HZ.out.2.2 HG.out.size;clear hEw;have HM:Hid (∀ e ∈ o.after,Region.binds .any e=true→_):=hpre;clear hG hpre;have hc:=nz (i:=i) (by omega);clear hi
   repeat' rcases hc with rfl | hc
   iterate 10
    ·obtain rfl:=Option.some.inj ho;have hm:=HM.out
     try simp [Region.binds] at hm
     clear ho HM;refine wpOp_step rfl (fun K hK=>?_);have HK:Hid (∀ a w,_→K a w):=hK;clear hK
     try simp only [hm]
     go_simp;exact HK.out _ _ ⟨_,by simp [upd, *],HG.out,rfl,fun k u hu=>hu⟩
   ·obtain rfl:=Option.some.inj ho;have e0:fq 0=v0:=HM.out ⟨0,.data⟩ (by simp) rfl;have e1:fq 1=vT:=HM.out ⟨1,.data⟩ (by simp) rfl;have e2:fq 2=.slice (some ⟨b,off,none⟩) rows.length capE:=HM.out ⟨2,.data⟩ (by simp) rfl;have e6:fq 6=.int .i64 i0:=HM.out ⟨6,.data⟩ (by simp) rfl;have e7:fq 7=vK:=HM.out ⟨7,.data⟩ (by simp) rfl;have e8:fq 8=vR:=HM.out ⟨8,.data⟩ (by simp) rfl;have e9:fq 9=.agg #[.string f.a,.string f.b,.string f.r,.string f.c,.string f.d]:=HM.out ⟨9,.data⟩ (by simp) rfl;clear ho HM;refine wpOp_step rfl (fun K hK=>?_);have HK:Hid (∀ a w,_→K a w):=hK;clear hK;simp only [e0,e1,e2,e6,e7,e8,e9];go_simp;refine (HA.out _ (HB0.out.trans (HG.out.mono HB0.out.size))).mono ?_;rintro e w9 ⟨rfl,hb9⟩;have HG9:=fK HG hb9;clear hb9 c0 c1 c2 c3 c4 x4 z0 z1;go_wp2_with fail;exact HK.out _ _ ⟨Value.bool false,by simp [upd,e0,e1,e2,e6,e7,e8,e9],HG9.out,rfl,fun k u hu=>hu⟩
   iterate 14
    ·obtain rfl:=Option.some.inj ho;have hm:=HM.out
     try simp [Region.binds] at hm
     clear ho HM;refine wpOp_step rfl (fun K hK=>?_);have HK:Hid (∀ a w,_→K a w):=hK;clear hK
     try simp only [hm]
     go_simp;exact HK.out _ _ ⟨_,by simp [upd, *],HG.out,rfl,fun k u hu=>hu⟩
  case finF =>
   rintro o ho fq w' hG hall;have e24:fq 24=.bool false:=hall 24 (by omega);have HG:Hid (Below W0.heap.size W0 w'):=hG;clear hG hall;obtain rfl:=Option.some.inj ho;clear ho;refine wpOp_step rfl (fun K hK=>?_);have HK:Hid (∀ a w,_→K a w):=hK;clear hK;simp only [e24];go_simp;refine HK.out _ _ ?_;clear HK;go_wp2;go_ret;exact ⟨rfl,HB0.out.trans (HG.out.mono HB0.out.size)⟩
end Go.Proofs.YtdaoiceeidoehaaGreat
