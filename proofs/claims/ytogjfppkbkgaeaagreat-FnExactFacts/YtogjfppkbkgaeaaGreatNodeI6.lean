/- The program's question of a node that takes away. -/
import Derived.Test.YtogjfppkbkgaeaaGreatJ22
import Derived.Test.YtogjfppkbkgaeaaGreatJ4
import Derived.Laws.EntriesVeiled
namespace Go.Proofs.YtogjfppkbkgaeaaGreat
set_option linter.unusedVariables false
set_option maxRecDepth 100000
open Go.ChangeShapes Go.WideShapes Go.ChangeAt Go.RowKit Go.Maps
open Pl
section
variable {w:World} {rs:List TR} {D br bp bt bK nK:Nat} {n1:Int} {nr:Nat} {Mr:KL→Option Value} {Er:List (KL × RR)} {ts:List Tp} {xo xu:List Al} {np:Nat} {Mp:K3→Option Value} {vo vu:Value} {out:List Fc} {f:Fc} {adE:Option Addr} {capE:Nat} {rows:List ER} {n:Nat}
set_option maxHeartbeats 16000000 in
theorem JL (hn:n < rows.length) (b0 b1:Bool) (hkl:rows[n].e.kids.length≤1000) (hk2l:2≤rows[n].e.kids.length) (hA:Ey D (.slice adE rows.length capE) f bK w (rows[n].e.kids.getD 0 0) b0) (hB:Ey D (.slice adE rows.length capE) f bK w (rows[n].e.kids.getD 1 0) b1) (hex:dU w adE rows) (hre:rows.length≤1000) (hk:rows[n].e.kind=6) :
  Calls Tryz.prog 140 #[.pointer (some ⟨D,0,none⟩),.slice adE rows.length capE,.int .i64 (n:Int),.agg #[.string f.a,.string f.b,.string f.r,.string f.c,.string f.d],.map (some bK)] w fun e w'=>e=.returned (.bool (b0 && !b1))∧Below w.heap.size w w':=by
 obtain ⟨b,off,hadr,⟨t0,t1,t2,t3,t4⟩,hbl,hok⟩:=dU.at0 hex hn;obtain ⟨W0,hW0⟩:∃ W0,W0=Dk w D (.slice adE rows.length capE) f bK rows[n]:=⟨_,rfl⟩;have HB0:Hid (Below w.heap.size w W0):=by show Below _ _ _; rw [hW0]; exact jh _ _ _ _ _ _
 have HN0:Hid (NdB W0 w.heap.size D (.slice adE rows.length capE) f bK rows[n]):=by show NdB _ _ _ _ _ _ _; rw [hW0]; exact ji _ _ _ _ _ _
 have hk1:(rows[n].e.kind == 1)=false:=by rw [hk]; rfl
 have hk2:(rows[n].e.kind == 2)=false:=by rw [hk]; rfl
 have hk3:(rows[n].e.kind == 3)=false:=by rw [hk]; rfl
 have hk4:(rows[n].e.kind == 4)=false:=by rw [hk]; rfl
 have hk5:(rows[n].e.kind == 5)=false:=by rw [hk]; rfl
 have hbl1:b < w.heap.size + 1:=by omega
 have hbl2:b < w.heap.size + 1 + 1:=by omega
 have hbl3:b < w.heap.size + 1 + 1 + 1:=by omega
 have hn1:(0:Int)≤(n:Int):=by omega
 have hn2:(n:Int) < (rows.length:Int):=by omega
 unfold Dk tY at hW0;have h0k:0 < rows[n].e.kids.length:=by omega
 have h1k:1 < rows[n].e.kids.length:=by omega
 obtain ⟨bJ,offJ,hadK,z0,hbK⟩:=kN.at0 hok.2 h0k;have z1:w.cell? ⟨bJ,offJ + 1,none⟩=some (.int .i64 rows[n].e.kids[1]):=by
  obtain ⟨b',off',hadK',z1,-⟩:=kN.at0 hok.2 h1k;rw [hadK] at hadK'; injection hadK' with e; injection e with e1 e2;rw [e1,e2]; exact z1
 obtain ⟨i0,hi0⟩:∃ i,i=rows[n].e.kids[0]:=⟨_,rfl⟩;obtain ⟨i1,hi1⟩:∃ i,i=rows[n].e.kids[1]:=⟨_,rfl⟩;have g0:rows[n].e.kids.getD 0 0=i0:=by rw [hi0,List.getD_eq_getElem?_getD,List.getElem?_eq_getElem h0k]; rfl
 have g1:rows[n].e.kids.getD 1 0=i1:=by rw [hi1,List.getD_eq_getElem?_getD,List.getElem?_eq_getElem h1k]; rfl
 rw [g0] at hA;rw [g1] at hB;rw [← hi0,Nat.add_zero] at z0;rw [← hi1] at z1;obtain ⟨kl,hkl'⟩:∃ kl,kl=rows[n].e.kids.length:=⟨_,rfl⟩;obtain ⟨cK,hcK⟩:∃ c,c=rows[n].capK:=⟨_,rfl⟩;have hl0:(0:Int) < (kl:Int):=by omega
 have hl1:(1:Int) < (kl:Int):=by omega
 have h0k':0 < kl:=by omega
 have h1k':1 < kl:=by omega
 have HA:Hid (∀ w1,Below W0.heap.size W0 w1→_):=fun w1 hb=>lc hA (HB0.out.trans (hb.mono HB0.out.size)) (HN0.out.below hb);have HBB:Hid (∀ w1,Below W0.heap.size W0 w1→_):=fun w1 hb=>qz hB (HB0.out.trans (hb.mono HB0.out.size)) (HN0.out.below hb);have HZ:Hid (W0.cell? ⟨bJ,offJ,none⟩=some (.int .i64 i0)∧W0.cell? ⟨bJ,offJ + 1,none⟩=some (.int .i64 i1)∧bJ < W0.heap.size):=⟨(HB0.out.cell (p:=⟨bJ,offJ,none⟩) hbK).trans z0,(HB0.out.cell (p:=⟨bJ,offJ + 1,none⟩) hbK).trans z1,Nat.lt_of_lt_of_le hbK HB0.out.size⟩;have HX4:Hid (W0.cell? ⟨w.heap.size + 1 + 1 + 1 + 1,4,none⟩=some (.slice (some ⟨bJ,offJ,none⟩) kl cK)):=by show _=_; rw [HN0.out.x4,hadK,← hkl',← hcK]
 have HV5:Hid (W0.cell? ⟨w.heap.size + 1 + 1 + 1 + 1 + 1,0,none⟩=some (.func (Fn.func 162) #[] #[.pointer (some ⟨w.heap.size,0,none⟩),.pointer (some ⟨w.heap.size + 1,0,none⟩),.pointer (some ⟨w.heap.size + 1 + 1,0,none⟩),.pointer (some ⟨w.heap.size + 1 + 1 + 1,0,none⟩)])):=HN0.out.v;clear hA hB hex hk hok z0 z1 hadK h0k h1k g0 g1 hi0 hi1;subst hadr;go_enter Tryz.func140,Tryz.ntmps140;go_wp2_with fail;rw [← hW0];clear hW0 t0 t1 t2 t3 t4;clear hk1 hk2 hk3 hk4 hk5 hkl' hcK;cases b0 with
 | true =>
  refine bQ 14 (fun n=>(undef::undef::undef::undef::undef::undef::undef::undef::undef::undef::undef::undef::undef::undef::[]).getD n undef) (fun fq=>{ tmps:=List.toArray (Value.pointer (some ⟨D,0,none⟩)::Value.slice (some ⟨b,off,none⟩) rows.length capE::Value.int IntKind.i64 (n:Int)::Value.agg #[Value.string f.a,Value.string f.b,Value.string f.r,Value.string f.c,Value.string f.d]::Value.map (some bK)::Value.pointer (some ⟨w.heap.size,0,none⟩)::Value.pointer (some ⟨w.heap.size + 1,0,none⟩)::undef::Value.pointer (some ⟨w.heap.size + 1 + 1,0,none⟩)::Value.pointer (some ⟨w.heap.size + 1 + 1 + 1,0,none⟩)::Value.bool false::Value.pointer (some ⟨w.heap.size + 1 + 1 + 1 + 1,0,none⟩)::Value.pointer (some ⟨w.heap.size + 1 + 1 + 1 + 1 + 1,0,none⟩)::Value.func (Fn.func 163) #[] #[Value.pointer (some ⟨w.heap.size + 1 + 1 + 1 + 1 + 1,0,none⟩)]::Value.slice (some ⟨b,off,none⟩) rows.length capE::Value.int IntKind.i64 (n:Int)::Value.pointer (some ⟨b,off + n * 5,none⟩)::Value.agg #[Value.int IntKind.i64 rows[n].e.kind,Value.slice rows[n].adA rows[n].e.allow.length rows[n].capA,Value.string rows[n].e.over,Value.string rows[n].e.name,Value.slice rows[n].adK rows[n].e.kids.length rows[n].capK]::Value.func (Fn.func 162) #[] #[Value.pointer (some ⟨w.heap.size,0,none⟩),Value.pointer (some ⟨w.heap.size + 1,0,none⟩),Value.pointer (some ⟨w.heap.size + 1 + 1,0,none⟩),Value.pointer (some ⟨w.heap.size + 1 + 1 + 1,0,none⟩)]::Value.func (Fn.func 163) #[] #[Value.pointer (some ⟨w.heap.size + 1 + 1 + 1 + 1 + 1,0,none⟩)]::Value.pointer (some ⟨w.heap.size + 1 + 1 + 1 + 1,0,none⟩)::Value.int IntKind.i64 rows[n].e.kind::Value.bool false::Value.bool false::undef::undef::undef::undef::Value.bool false::Value.bool false::undef::undef::undef::undef::undef::undef::undef::undef::undef::Value.bool false::Value.bool false::undef::undef::undef::undef::undef::Value.bool false::Value.bool false::undef::undef::undef::undef::Value.bool false::Value.bool false::undef::undef::undef::undef::undef::fq 0::fq 1::fq 2::fq 3::fq 4::fq 5::fq 6::fq 7::fq 8::fq 9::fq 10::fq 11::fq 12::fq 13::[]),defers:=[] }) (fun n v _=>v=(Value.func (Fn.func 162) #[] #[Value.pointer (some ⟨w.heap.size,0,none⟩),Value.pointer (some ⟨w.heap.size + 1,0,none⟩),Value.pointer (some ⟨w.heap.size + 1 + 1,0,none⟩),Value.pointer (some ⟨w.heap.size + 1 + 1 + 1,0,none⟩)]::Value.pointer (some ⟨w.heap.size + 1 + 1 + 1 + 1,4,none⟩)::Value.slice (some ⟨bJ,offJ,none⟩) kl cK::Value.pointer (some ⟨bJ,offJ,none⟩)::Value.int IntKind.i64 i0::Value.bool true::Value.bool true::Value.func (Fn.func 163) #[] #[Value.pointer (some ⟨w.heap.size + 1 + 1 + 1 + 1 + 1,0,none⟩)]::Value.pointer (some ⟨w.heap.size + 1 + 1 + 1 + 1,4,none⟩)::Value.slice (some ⟨bJ,offJ,none⟩) kl cK::Value.pointer (some ⟨bJ,offJ + 1,none⟩)::Value.int IntKind.i64 i1::Value.bool (!b1)::Value.bool (!b1)::[]).getD n undef) (fun w'=>Below W0.heap.size W0 w') (by kernel_rfl) rfl (by kernel_rfl) (by kernel_rfl) rfl (Below.refl _ _).drew ?stepT ?finT;case stepT =>
   rintro i hi o ho fq w' hG hpre;have HG:Hid (Below W0.heap.size W0 w'):=hG;have x4:=(HG.out.cell (p:=⟨w.heap.size + 1 + 1 + 1 + 1,4,none⟩) (show w.heap.size + 1 + 1 + 1 + 1 < _ by have:=HN0.out.lt; omega)).trans HX4.out;have v5:=(HG.out.cell (p:=⟨w.heap.size + 1 + 1 + 1 + 1 + 1,0,none⟩) HN0.out.lt).trans HV5.out;have z0:=(HG.out.cell (p:=⟨bJ,offJ,none⟩) HZ.out.2.2).trans HZ.out.1;have z1:=(HG.out.cell (p:=⟨bJ,offJ + 1,none⟩) HZ.out.2.2).trans HZ.out.2.1;have lk:=Nat.lt_of_lt_of_le HZ.out.2.2 HG.out.size;have HM:Hid (∀ e ∈ o.after,Region.binds .any e=true→_):=hpre;clear hG hpre;have hc:i=0 ∨ i=1 ∨ i=2 ∨ i=3 ∨ i=4 ∨ i=5 ∨ i=6 ∨ i=7 ∨ i=8 ∨ i=9 ∨ i=10 ∨ i=11 ∨ i=12 ∨ i=13:=by omega
   clear hi
   repeat' rcases hc with rfl | hc
   iterate 5
    ·obtain rfl:=Option.some.inj ho;have hm:=HM.out
     try simp [Region.binds] at hm
     clear ho HM;refine wpOp_step rfl (fun K hK=>?_);have HK:Hid (∀ a w,_→K a w):=hK;clear hK
     try simp only [hm]
     go_simp;exact HK.out _ _ ⟨_,by simp [upd, *],HG.out,rfl,fun k u hu=>hu⟩
   ·obtain rfl:=Option.some.inj ho;have e0:fq 0=Value.func (Fn.func 162) #[] #[Value.pointer (some ⟨w.heap.size,0,none⟩),Value.pointer (some ⟨w.heap.size + 1,0,none⟩),Value.pointer (some ⟨w.heap.size + 1 + 1,0,none⟩),Value.pointer (some ⟨w.heap.size + 1 + 1 + 1,0,none⟩)]:=HM.out ⟨0,.data⟩ (by simp) rfl;have e4:fq 4=Value.int IntKind.i64 i0:=HM.out ⟨4,.data⟩ (by simp) rfl;clear ho HM;refine wpOp_step rfl (fun K hK=>?_);have HK:Hid (∀ a w,_→K a w):=hK;clear hK;simp only [e0,e4];go_simp;refine (HA.out _ HG.out).mono ?_;rintro e w9 ⟨rfl,hb9⟩;have HG9:Hid (Below W0.heap.size W0 w9):=HG.out.trans (hb9.mono HG.out.size);clear hb9 x4 v5 z0 z1;go_wp2_with fail;exact HK.out _ _ ⟨Value.bool true,by simp [upd,e0,e4],HG9.out,rfl,fun k u hu=>hu⟩
   iterate 6
    ·obtain rfl:=Option.some.inj ho;have hm:=HM.out
     try simp [Region.binds] at hm
     clear ho HM;refine wpOp_step rfl (fun K hK=>?_);have HK:Hid (∀ a w,_→K a w):=hK;clear hK
     try simp only [hm]
     go_simp;exact HK.out _ _ ⟨_,by simp [upd, *],HG.out,rfl,fun k u hu=>hu⟩
   ·obtain rfl:=Option.some.inj ho;have e7:fq 7=Value.func (Fn.func 163) #[] #[Value.pointer (some ⟨w.heap.size + 1 + 1 + 1 + 1 + 1,0,none⟩)]:=HM.out ⟨7,.data⟩ (by simp) rfl;have e11:fq 11=Value.int IntKind.i64 i1:=HM.out ⟨11,.data⟩ (by simp) rfl;have e6:fq 6=Value.bool true:=HM.out ⟨6,.guard⟩ (by simp) rfl;clear ho HM;refine wpOp_step rfl (fun K hK=>?_);have HK:Hid (∀ a w,_→K a w):=hK;clear hK;simp only [e7,e11,e6];go_simp;refine (HBB.out _ HG.out).mono ?_;rintro e w9 ⟨rfl,hb9⟩;have HG9:Hid (Below W0.heap.size W0 w9):=HG.out.trans (hb9.mono HG.out.size);clear hb9 x4 v5 z0 z1;go_wp2_with fail;exact HK.out _ _ ⟨Value.bool (!b1),by simp [upd,e7,e11,e6],HG9.out,rfl,fun k u hu=>hu⟩
   ·obtain rfl:=Option.some.inj ho;have e6:fq 6=Value.bool true:=HM.out ⟨6,.data⟩ (by simp) rfl;have e12:fq 12=Value.bool (!b1):=HM.out ⟨12,.data⟩ (by simp) rfl;clear ho HM;refine wpOp_step rfl (fun K hK=>?_);have HK:Hid (∀ a w,_→K a w):=hK;clear hK;simp only [e6,e12];go_simp;exact HK.out _ _ ⟨Value.bool (!b1),by simp [upd,e6,e12],HG.out,rfl,fun k u hu=>hu⟩
  case finT =>
   rintro o ho fq w' hG hall;have e13:fq 13=Value.bool (!b1):=hall 13 (by omega);have HG:Hid (Below W0.heap.size W0 w'):=hG;clear hG hall;obtain rfl:=Option.some.inj ho;clear ho;refine wpOp_step rfl (fun K hK=>?_);have HK:Hid (∀ a w,_→K a w):=hK;clear hK;simp only [e13];go_simp;refine HK.out _ _ ?_;clear HK;go_wp2;go_ret;exact ⟨rfl,HB0.out.trans (HG.out.mono HB0.out.size)⟩
 | false =>
  refine bQ 14 (fun n=>(undef::undef::undef::undef::undef::undef::undef::undef::undef::undef::undef::undef::undef::undef::[]).getD n undef) (fun fq=>{ tmps:=List.toArray (Value.pointer (some ⟨D,0,none⟩)::Value.slice (some ⟨b,off,none⟩) rows.length capE::Value.int IntKind.i64 (n:Int)::Value.agg #[Value.string f.a,Value.string f.b,Value.string f.r,Value.string f.c,Value.string f.d]::Value.map (some bK)::Value.pointer (some ⟨w.heap.size,0,none⟩)::Value.pointer (some ⟨w.heap.size + 1,0,none⟩)::undef::Value.pointer (some ⟨w.heap.size + 1 + 1,0,none⟩)::Value.pointer (some ⟨w.heap.size + 1 + 1 + 1,0,none⟩)::Value.bool false::Value.pointer (some ⟨w.heap.size + 1 + 1 + 1 + 1,0,none⟩)::Value.pointer (some ⟨w.heap.size + 1 + 1 + 1 + 1 + 1,0,none⟩)::Value.func (Fn.func 163) #[] #[Value.pointer (some ⟨w.heap.size + 1 + 1 + 1 + 1 + 1,0,none⟩)]::Value.slice (some ⟨b,off,none⟩) rows.length capE::Value.int IntKind.i64 (n:Int)::Value.pointer (some ⟨b,off + n * 5,none⟩)::Value.agg #[Value.int IntKind.i64 rows[n].e.kind,Value.slice rows[n].adA rows[n].e.allow.length rows[n].capA,Value.string rows[n].e.over,Value.string rows[n].e.name,Value.slice rows[n].adK rows[n].e.kids.length rows[n].capK]::Value.func (Fn.func 162) #[] #[Value.pointer (some ⟨w.heap.size,0,none⟩),Value.pointer (some ⟨w.heap.size + 1,0,none⟩),Value.pointer (some ⟨w.heap.size + 1 + 1,0,none⟩),Value.pointer (some ⟨w.heap.size + 1 + 1 + 1,0,none⟩)]::Value.func (Fn.func 163) #[] #[Value.pointer (some ⟨w.heap.size + 1 + 1 + 1 + 1 + 1,0,none⟩)]::Value.pointer (some ⟨w.heap.size + 1 + 1 + 1 + 1,0,none⟩)::Value.int IntKind.i64 rows[n].e.kind::Value.bool false::Value.bool false::undef::undef::undef::undef::Value.bool false::Value.bool false::undef::undef::undef::undef::undef::undef::undef::undef::undef::Value.bool false::Value.bool false::undef::undef::undef::undef::undef::Value.bool false::Value.bool false::undef::undef::undef::undef::Value.bool false::Value.bool false::undef::undef::undef::undef::undef::fq 0::fq 1::fq 2::fq 3::fq 4::fq 5::fq 6::fq 7::fq 8::fq 9::fq 10::fq 11::fq 12::fq 13::[]),defers:=[] }) (fun n v _=>v=(Value.func (Fn.func 162) #[] #[Value.pointer (some ⟨w.heap.size,0,none⟩),Value.pointer (some ⟨w.heap.size + 1,0,none⟩),Value.pointer (some ⟨w.heap.size + 1 + 1,0,none⟩),Value.pointer (some ⟨w.heap.size + 1 + 1 + 1,0,none⟩)]::Value.pointer (some ⟨w.heap.size + 1 + 1 + 1 + 1,4,none⟩)::Value.slice (some ⟨bJ,offJ,none⟩) kl cK::Value.pointer (some ⟨bJ,offJ,none⟩)::Value.int IntKind.i64 i0::Value.bool false::Value.bool false::undef::undef::undef::undef::undef::undef::Value.bool false::[]).getD n undef) (fun w'=>Below W0.heap.size W0 w') (by kernel_rfl) rfl (by kernel_rfl) (by kernel_rfl) rfl (Below.refl _ _).drew ?dE ?finF;case dE =>
   rintro i hi o ho fq w' hG hpre;have HG:Hid (Below W0.heap.size W0 w'):=hG;have x4:=(HG.out.cell (p:=⟨w.heap.size + 1 + 1 + 1 + 1,4,none⟩) (show w.heap.size + 1 + 1 + 1 + 1 < _ by have:=HN0.out.lt; omega)).trans HX4.out;have v5:=(HG.out.cell (p:=⟨w.heap.size + 1 + 1 + 1 + 1 + 1,0,none⟩) HN0.out.lt).trans HV5.out;have z0:=(HG.out.cell (p:=⟨bJ,offJ,none⟩) HZ.out.2.2).trans HZ.out.1;have z1:=(HG.out.cell (p:=⟨bJ,offJ + 1,none⟩) HZ.out.2.2).trans HZ.out.2.1;have lk:=Nat.lt_of_lt_of_le HZ.out.2.2 HG.out.size;have HM:Hid (∀ e ∈ o.after,Region.binds .any e=true→_):=hpre;clear hG hpre;have hc:i=0 ∨ i=1 ∨ i=2 ∨ i=3 ∨ i=4 ∨ i=5 ∨ i=6 ∨ i=7 ∨ i=8 ∨ i=9 ∨ i=10 ∨ i=11 ∨ i=12 ∨ i=13:=by omega
   clear hi
   repeat' rcases hc with rfl | hc
   iterate 5
    ·obtain rfl:=Option.some.inj ho;have hm:=HM.out
     try simp [Region.binds] at hm
     clear ho HM;refine wpOp_step rfl (fun K hK=>?_);have HK:Hid (∀ a w,_→K a w):=hK;clear hK
     try simp only [hm]
     go_simp;exact HK.out _ _ ⟨_,by simp [upd, *],HG.out,rfl,fun k u hu=>hu⟩
   ·obtain rfl:=Option.some.inj ho;have e0:fq 0=Value.func (Fn.func 162) #[] #[Value.pointer (some ⟨w.heap.size,0,none⟩),Value.pointer (some ⟨w.heap.size + 1,0,none⟩),Value.pointer (some ⟨w.heap.size + 1 + 1,0,none⟩),Value.pointer (some ⟨w.heap.size + 1 + 1 + 1,0,none⟩)]:=HM.out ⟨0,.data⟩ (by simp) rfl;have e4:fq 4=Value.int IntKind.i64 i0:=HM.out ⟨4,.data⟩ (by simp) rfl;clear ho HM;refine wpOp_step rfl (fun K hK=>?_);have HK:Hid (∀ a w,_→K a w):=hK;clear hK;simp only [e0,e4];go_simp;refine (HA.out _ HG.out).mono ?_;rintro e w9 ⟨rfl,hb9⟩;have HG9:Hid (Below W0.heap.size W0 w9):=HG.out.trans (hb9.mono HG.out.size);clear hb9 x4 v5 z0 z1;go_wp2_with fail;exact HK.out _ _ ⟨Value.bool false,by simp [upd,e0,e4],HG9.out,rfl,fun k u hu=>hu⟩
   iterate 8
    ·obtain rfl:=Option.some.inj ho;have hm:=HM.out
     try simp [Region.binds] at hm
     clear ho HM;refine wpOp_step rfl (fun K hK=>?_);have HK:Hid (∀ a w,_→K a w):=hK;clear hK
     try simp only [hm]
     go_simp;exact HK.out _ _ ⟨_,by simp [upd, *],HG.out,rfl,fun k u hu=>hu⟩
  case finF =>
   rintro o ho fq w' hG hall;have e13:fq 13=Value.bool false:=hall 13 (by omega);have HG:Hid (Below W0.heap.size W0 w'):=hG;clear hG hall;obtain rfl:=Option.some.inj ho;clear ho;refine wpOp_step rfl (fun K hK=>?_);have HK:Hid (∀ a w,_→K a w):=hK;clear hK;simp only [e13];go_simp;refine HK.out _ _ ?_;clear HK;go_wp2;go_ret;exact ⟨rfl,HB0.out.trans (HG.out.mono HB0.out.size)⟩
end
end Go.Proofs.YtogjfppkbkgaeaaGreat
