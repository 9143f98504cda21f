/- The program's question of a node that takes away. -/
import Derived.Test.YtogjfppkbkgaeaaGreatJ24
import Derived.Test.YtogjfppkbkgaeaaGreatJ3
import Derived.Laws.EntriesVeiled
import Derived.Test.YtogjfppkbkgaeaaGreatJ18
import Derived.Test.YtogjfppkbkgaeaaGreatJ20
namespace Go.Proofs.YtogjfppkbkgaeaaGreat
set_option linter.unusedVariables false
set_option maxRecDepth 100000
open Go.ChangeShapes Go.WideShapes Go.ChangeAt Go.RowKit Go.Maps
open Pl
section
variable {w:World} {rs:List TR} {D br bp bt bK nK:Nat} {n1:Int} {nr:Nat} {Mr:KL→Option Value} {Er:List (KL × RR)} {ts:List Tp} {xo xu:List Al} {np:Nat} {Mp:K3→Option Value} {vo vu:Value} {out:List Fc} {f:Fc} {adE:Option Addr} {capE:Nat} {rows:List ER} {n:Nat}
set_option maxHeartbeats 16000000 in
theorem JX (hn:n < rows.length) (b0 b1:Bool) (hkl:rows[n].e.kids.length≤1000) (hk2l:2≤rows[n].e.kids.length) (hA:EQ D (.slice adE rows.length capE) f bK w (rows[n].e.kids.getD 0 0) b0) (hB:EQ D (.slice adE rows.length capE) f bK w (rows[n].e.kids.getD 1 0) b1) (hex:dZ w adE rows) (hre:rows.length≤1000) (hk:rows[n].e.kind=6) :
  Calls Tryz.prog 140 #[.pointer (some ⟨D,0,none⟩),.slice adE rows.length capE,.int .i64 (n:Int),.agg #[.string f.a,.string f.b,.string f.r,.string f.c,.string f.d],.map (some bK)] w fun e w'=>e=.returned (.bool (b0 && !b1))∧Below w.heap.size w w':=by
 obtain ⟨b,off,hadr,⟨t0,t1,t2,t3,t4⟩,hbl,hok⟩:=dZ.at0 hex hn;obtain ⟨W0,hW0⟩:∃ W0,W0=Dr w D (.slice adE rows.length capE) f bK rows[n]:=⟨_,rfl⟩;have HB0:Hid (Below w.heap.size w W0):=by show Below _ _ _; rw [hW0]; exact jo _ _ _ _ _ _
 have HN0:Hid (NdB W0 w.heap.size D (.slice adE rows.length capE) f bK rows[n]):=by show NdB _ _ _ _ _ _ _; rw [hW0]; exact jq _ _ _ _ _ _
 have hk1:(rows[n].e.kind == 1)=false:=by rw [hk]; rfl
 have hk2:(rows[n].e.kind == 2)=false:=by rw [hk]; rfl
 have hk3:(rows[n].e.kind == 3)=false:=by rw [hk]; rfl
 have hk4:(rows[n].e.kind == 4)=false:=by rw [hk]; rfl
 have hk5:(rows[n].e.kind == 5)=false:=by rw [hk]; rfl
 have hbl1:b < w.heap.size + 1:=by omega
 have hbl2:b < w.heap.size + 1 + 1:=by omega
 have hbl3:b < w.heap.size + 1 + 1 + 1:=by omega
 have hn1:(0:Int)≤(n:Int):=by omega
 have hn2:(n:Int) < (rows.length:Int):=by omega
 unfold Dr uk at hW0;have h0k:0 < rows[n].e.kids.length:=by omega
 have h1k:1 < rows[n].e.kids.length:=by omega
 obtain ⟨bJ,offJ,hadK,z0,hbK⟩:=kV.at0 hok.2 h0k;have z1:w.cell? ⟨bJ,offJ + 1,none⟩=some (.int .i64 rows[n].e.kids[1]):=by
  obtain ⟨b',off',hadK',z1,-⟩:=kV.at0 hok.2 h1k;rw [hadK] at hadK'; injection hadK' with e; injection e with e1 e2;rw [e1,e2]; exact z1
 obtain ⟨i0,hi0⟩:∃ i,i=rows[n].e.kids[0]:=⟨_,rfl⟩;obtain ⟨i1,hi1⟩:∃ i,i=rows[n].e.kids[1]:=⟨_,rfl⟩;have g0:rows[n].e.kids.getD 0 0=i0:=by rw [hi0,List.getD_eq_getElem?_getD,List.getElem?_eq_getElem h0k]; rfl
 have g1:rows[n].e.kids.getD 1 0=i1:=by rw [hi1,List.getD_eq_getElem?_getD,List.getElem?_eq_getElem h1k]; rfl
 rw [g0] at hA;rw [g1] at hB;rw [← hi0,Nat.add_zero] at z0;rw [← hi1] at z1;obtain ⟨kl,hkl'⟩:∃ kl,kl=rows[n].e.kids.length:=⟨_,rfl⟩;obtain ⟨cK,hcK⟩:∃ c,c=rows[n].capK:=⟨_,rfl⟩;have hl0:(0:Int) < (kl:Int):=by omega
 have hl1:(1:Int) < (kl:Int):=by omega
 have h0k':0 < kl:=by omega
 have h1k':1 < kl:=by omega
 have HA:Hid (∀ w1,Below W0.heap.size W0 w1→_):=fun w1 hb=>lF hA (HB0.out.trans (hb.mono HB0.out.size)) (HN0.out.below hb);have HBB:Hid (∀ w1,Below W0.heap.size W0 w1→_):=fun w1 hb=>qF hB (HB0.out.trans (hb.mono HB0.out.size)) (HN0.out.below hb);have HZ:Hid (W0.cell? ⟨bJ,offJ,none⟩=some (.int .i64 i0)∧W0.cell? ⟨bJ,offJ + 1,none⟩=some (.int .i64 i1)∧bJ < W0.heap.size):=⟨(HB0.out.cell (p:=⟨bJ,offJ,none⟩) hbK).trans z0,(HB0.out.cell (p:=⟨bJ,offJ + 1,none⟩) hbK).trans z1,Nat.lt_of_lt_of_le hbK HB0.out.size⟩;have HX4:Hid (W0.cell? ⟨w.heap.size + 1 + 1 + 1 + 1,4,none⟩=some (.slice (some ⟨bJ,offJ,none⟩) kl cK)):=by show _=_; rw [HN0.out.x4,hadK,← hkl',← hcK]
 have HV5:Hid (W0.cell? ⟨w.heap.size + 1 + 1 + 1 + 1 + 1,0,none⟩=some (.func (Fn.func 162) #[] #[.pointer (some ⟨w.heap.size,0,none⟩),.pointer (some ⟨w.heap.size + 1,0,none⟩),.pointer (some ⟨w.heap.size + 1 + 1,0,none⟩),.pointer (some ⟨w.heap.size + 1 + 1 + 1,0,none⟩)])):=HN0.out.v;clear hA hB hex hk hok z0 z1 hadK h0k h1k g0 g1 hi0 hi1;subst hadr;go_enter Tryz.func140,Tryz.ntmps140;go_wp2_with fail;rw [← hW0];clear hW0 t0 t1 t2 t3 t4;clear hk1 hk2 hk3 hk4 hk5 hkl' hcK;cases b0 with
 | true =>
  refine bW 14 (fun n=>(undef::undef::undef::undef::undef::undef::undef::undef::undef::undef::undef::undef::undef::undef::[]).getD n undef) (fun fq=>{ tmps:=List.toArray (Value.pointer (some ⟨D,0,none⟩)::Value.slice (some ⟨b,off,none⟩) rows.length capE::Value.int IntKind.i64 (n:Int)::Value.agg #[Value.string f.a,Value.string f.b,Value.string f.r,Value.string f.c,Value.string f.d]::Value.map (some bK)::Value.pointer (some ⟨w.heap.size,0,none⟩)::Value.pointer (some ⟨w.heap.size + 1,0,none⟩)::undef::Value.pointer (some ⟨w.heap.size + 1 + 1,0,none⟩)::Value.pointer (some ⟨w.heap.size + 1 + 1 + 1,0,none⟩)::Value.bool false::Value.pointer (some ⟨w.heap.size + 1 + 1 + 1 + 1,0,none⟩)::Value.pointer (some ⟨w.heap.size + 1 + 1 + 1 + 1 + 1,0,none⟩)::Value.func (Fn.func 163) #[] #[Value.pointer (some ⟨w.heap.size + 1 + 1 + 1 + 1 + 1,0,none⟩)]::Value.slice (some ⟨b,off,none⟩) rows.length capE::Value.int IntKind.i64 (n:Int)::Value.pointer (some ⟨b,off + n * 5,none⟩)::Value.agg #[Value.int IntKind.i64 rows[n].e.kind,Value.slice rows[n].adA rows[n].e.allow.length rows[n].capA,Value.string rows[n].e.over,Value.string rows[n].e.name,Value.slice rows[n].adK rows[n].e.kids.length rows[n].capK]::Value.func (Fn.func 162) #[] #[Value.pointer (some ⟨w.heap.size,0,none⟩),Value.pointer (some ⟨w.heap.size + 1,0,none⟩),Value.pointer (some ⟨w.heap.size + 1 + 1,0,none⟩),Value.pointer (some ⟨w.heap.size + 1 + 1 + 1,0,none⟩)]::Value.func (Fn.func 163) #[] #[Value.pointer (some ⟨w.heap.size + 1 + 1 + 1 + 1 + 1,0,none⟩)]::Value.pointer (some ⟨w.heap.size + 1 + 1 + 1 + 1,0,none⟩)::Value.int IntKind.i64 rows[n].e.kind::Value.bool false::Value.bool false::undef::undef::undef::undef::Value.bool false::Value.bool false::undef::undef::undef::undef::undef::undef::undef::undef::undef::Value.bool false::Value.bool false::undef::undef::undef::undef::undef::Value.bool false::Value.bool false::undef::undef::undef::undef::Value.bool false::Value.bool false::undef::undef::undef::undef::undef::fq 0::fq 1::fq 2::fq 3::fq 4::fq 5::fq 6::fq 7::fq 8::fq 9::fq 10::fq 11::fq 12::fq 13::[]),defers:=[] }) (fun n v _=>v=(Value.func (Fn.func 162) #[] #[Value.pointer (some ⟨w.heap.size,0,none⟩),Value.pointer (some ⟨w.heap.size + 1,0,none⟩),Value.pointer (some ⟨w.heap.size + 1 + 1,0,none⟩),Value.pointer (some ⟨w.heap.size + 1 + 1 + 1,0,none⟩)]::Value.pointer (some ⟨w.heap.size + 1 + 1 + 1 + 1,4,none⟩)::Value.slice (some ⟨bJ,offJ,none⟩) kl cK::Value.pointer (some ⟨bJ,offJ,none⟩)::Value.int IntKind.i64 i0::Value.bool true::Value.bool true::Value.func (Fn.func 163) #[] #[Value.pointer (some ⟨w.heap.size + 1 + 1 + 1 + 1 + 1,0,none⟩)]::Value.pointer (some ⟨w.heap.size + 1 + 1 + 1 + 1,4,none⟩)::Value.slice (some ⟨bJ,offJ,none⟩) kl cK::Value.pointer (some ⟨bJ,offJ + 1,none⟩)::Value.int IntKind.i64 i1::Value.bool (!b1)::Value.bool (!b1)::[]).getD n undef) (fun w'=>Below W0.heap.size W0 w') (by kernel_rfl) rfl (by kernel_rfl) (by kernel_rfl) rfl (Below.refl _ _).drew ?stepT ?finT;case stepT =>
   rintro i hi o ho fq w' hG hpre;have HG:Hid (Below W0.heap.size W0 w'):=hG;have x4:=(HG.out.cell (p:=⟨w.heap.size + 1 + 1 + 1 + 1,4,none⟩) (show w.heap.size + 1 + 1 + 1 + 1 < _ by have:=HN0.out.lt; omega)).trans HX4.out;have v5:=(HG.out.cell (p:=⟨w.heap.size + 1 + 1 + 1 + 1 + 1,0,none⟩) HN0.out.lt).trans HV5.out;have z0:=(HG.out.cell (p:=⟨bJ,offJ,none⟩) HZ.out.2.2).trans HZ.out.1;have z1:=(HG.out.cell (p:=⟨bJ,offJ + 1,none⟩) HZ.out.2.2).trans HZ.out.2.1;have lk:=Nat.lt_of_lt_of_le HZ.out.2.2 HG.out.size;have HM:Hid (∀ e ∈ o.after,Region.binds .any e=true→_):=hpre;clear hG hpre;have hc:i=0 ∨ i=1 ∨ i=2 ∨ i=3 ∨ i=4 ∨ i=5 ∨ i=6 ∨ i=7 ∨ i=8 ∨ i=9 ∨ i=10 ∨ i=11 ∨ i=12 ∨ i=13:=by omega
   clear hi
   repeat' rcases hc with rfl | hc
   iterate 5
    ·obtain rfl:=Option.some.inj ho;have hm:=HM.out
     try simp [Region.binds] at hm
     clear ho HM;refine wpOp_step rfl (fun K hK=>?_);have HK:Hid (∀ a w,_→K a w):=hK;clear hK
     try simp only [hm]
     go_simp;exact HK.out _ _ ⟨_,by simp [upd, *],HG.out,rfl,fun k u hu=>hu⟩
   ·obtain rfl:=Option.some.inj ho;have e0:fq 0=Value.func (Fn.func 162) #[] #[Value.pointer (some ⟨w.heap.size,0,none⟩),Value.pointer (some ⟨w.heap.size + 1,0,none⟩),Value.pointer (some ⟨w.heap.size + 1 + 1,0,none⟩),Value.pointer (some ⟨w.heap.size + 1 + 1 + 1,0,none⟩)]:=HM.out ⟨0,.data⟩ (by simp) rfl;have e4:fq 4=Value.int IntKind.i64 i0:=HM.out ⟨4,.data⟩ (by simp) rfl;clear ho HM;refine wpOp_step rfl (fun K hK=>?_);have HK:Hid (∀ a w,_→K a w):=hK;clear hK;simp only [e0,e4];go_simp;refine (HA.out _ HG.out).mono ?_;rintro e w9 ⟨rfl,hb9⟩;have HG9:Hid (Below W0.heap.size W0 w9):=HG.out.trans (hb9.mono HG.out.size);clear hb9 x4 v5 z0 z1;go_wp2_with fail;exact HK.out _ _ ⟨Value.bool true,by simp [upd,e0,e4],HG9.out,rfl,fun k u hu=>hu⟩
   iterate 6
    ·obtain rfl:=Option.some.inj ho;have hm:=HM.out
     try simp [Region.binds] at hm
     clear ho HM;refine wpOp_step rfl (fun K hK=>?_);have HK:Hid (∀ a w,_→K a w):=hK;clear hK
     try simp only [hm]
     go_simp;exact HK.out _ _ ⟨_,by simp [upd, *],HG.out,rfl,fun k u hu=>hu⟩
   ·obtain rfl:=Option.some.inj ho;have e7:fq 7=Value.func (Fn.func 163) #[] #[Value.pointer (some ⟨w.heap.size + 1 + 1 + 1 + 1 + 1,0,none⟩)]:=HM.out ⟨7,.data⟩ (by simp) rfl;have e11:fq 11=Value.int IntKind.i64 i1:=HM.out ⟨11,.data⟩ (by simp) rfl;have e6:fq 6=Value.bool true:=HM.out ⟨6,.guard⟩ (by simp) rfl;clear ho HM;refine wpOp_step rfl (fun K hK=>?_);have HK:Hid (∀ a w,_→K a w):=hK;clear hK;simp only [e7,e11,e6];go_simp;refine (HBB.out _ HG.out).mono ?_;rintro e w9 ⟨rfl,hb9⟩;have HG9:Hid (Below W0.heap.size W0 w9):=HG.out.trans (hb9.mono HG.out.size);clear hb9 x4 v5 z0 z1;go_wp2_with fail;exact HK.out _ _ ⟨Value.bool (!b1),by simp [upd,e7,e11,e6],HG9.out,rfl,fun k u hu=>hu⟩
   ·obtain rfl:=Option.some.inj ho;have e6:fq 6=Value.bool true:=HM.out ⟨6,.data⟩ (by simp) rfl;have e12:fq 12=Value.bool (!b1):=HM.out ⟨12,.data⟩ (by simp) rfl;clear ho HM;refine wpOp_step rfl (fun K hK=>?_);have HK:Hid (∀ a w,_→K a w):=hK;clear hK;simp only [e6,e12];go_simp;exact HK.out _ _ ⟨Value.bool (!b1),by simp [upd,e6,e12],HG.out,rfl,fun k u hu=>hu⟩
  case finT =>
   rintro o ho fq w' hG hall;have e13:fq 13=Value.bool (!b1):=hall 13 (by omega);have HG:Hid (Below W0.heap.size W0 w'):=hG;clear hG hall;obtain rfl:=Option.some.inj ho;clear ho;refine wpOp_step rfl (fun K hK=>?_);have HK:Hid (∀ a w,_→K a w):=hK;clear hK;simp only [e13];go_simp;refine HK.out _ _ ?_;clear HK;go_wp2;go_ret;exact ⟨rfl,HB0.out.trans (HG.out.mono HB0.out.size)⟩
 | false =>
  refine bW 14 (fun n=>(undef::undef::undef::undef::undef::undef::undef::undef::undef::undef::undef::undef::undef::undef::[]).getD n undef) (fun fq=>{ tmps:=List.toArray (Value.pointer (some ⟨D,0,none⟩)::Value.slice (some ⟨b,off,none⟩) rows.length capE::Value.int IntKind.i64 (n:Int)::Value.agg #[Value.string f.a,Value.string f.b,Value.string f.r,Value.string f.c,Value.string f.d]::Value.map (some bK)::Value.pointer (some ⟨w.heap.size,0,none⟩)::Value.pointer (some ⟨w.heap.size + 1,0,none⟩)::undef::Value.pointer (some ⟨w.heap.size + 1 + 1,0,none⟩)::Value.pointer (some ⟨w.heap.size + 1 + 1 + 1,0,none⟩)::Value.bool false::Value.pointer (some ⟨w.heap.size + 1 + 1 + 1 + 1,0,none⟩)::Value.pointer (some ⟨w.heap.size + 1 + 1 + 1 + 1 + 1,0,none⟩)::Value.func (Fn.func 163) #[] #[Value.pointer (some ⟨w.heap.size + 1 + 1 + 1 + 1 + 1,0,none⟩)]::Value.slice (some ⟨b,off,none⟩) rows.length capE::Value.int IntKind.i64 (n:Int)::Value.pointer (some ⟨b,off + n * 5,none⟩)::Value.agg #[Value.int IntKind.i64 rows[n].e.kind,Value.slice rows[n].adA rows[n].e.allow.length rows[n].capA,Value.string rows[n].e.over,Value.string rows[n].e.name,Value.slice rows[n].adK rows[n].e.kids.length rows[n].capK]::Value.func (Fn.func 162) #[] #[Value.pointer (some ⟨w.heap.size,0,none⟩),Value.pointer (some ⟨w.heap.size + 1,0,none⟩),Value.pointer (some ⟨w.heap.size + 1 + 1,0,none⟩),Value.pointer (some ⟨w.heap.size + 1 + 1 + 1,0,none⟩)]::Value.func (Fn.func 163) #[] #[Value.pointer (some ⟨w.heap.size + 1 + 1 + 1 + 1 + 1,0,none⟩)]::Value.pointer (some ⟨w.heap.size + 1 + 1 + 1 + 1,0,none⟩)::Value.int IntKind.i64 rows[n].e.kind::Value.bool false::Value.bool false::undef::undef::undef::undef::Value.bool false::Value.bool false::undef::undef::undef::undef::undef::undef::undef::undef::undef::Value.bool false::Value.bool false::undef::undef::undef::undef::undef::Value.bool false::Value.bool false::undef::undef::undef::undef::Value.bool false::Value.bool false::undef::undef::undef::undef::undef::fq 0::fq 1::fq 2::fq 3::fq 4::fq 5::fq 6::fq 7::fq 8::fq 9::fq 10::fq 11::fq 12::fq 13::[]),defers:=[] }) (fun n v _=>v=(Value.func (Fn.func 162) #[] #[Value.pointer (some ⟨w.heap.size,0,none⟩),Value.pointer (some ⟨w.heap.size + 1,0,none⟩),Value.pointer (some ⟨w.heap.size + 1 + 1,0,none⟩),Value.pointer (some ⟨w.heap.size + 1 + 1 + 1,0,none⟩)]::Value.pointer (some ⟨w.heap.size + 1 + 1 + 1 + 1,4,none⟩)::Value.slice (some ⟨bJ,offJ,none⟩) kl cK::Value.pointer (some ⟨bJ,offJ,none⟩)::Value.int IntKind.i64 i0::Value.bool false::Value.bool false::undef::undef::undef::undef::undef::undef::Value.bool false::[]).getD n undef) (fun w'=>Below W0.heap.size W0 w') (by kernel_rfl) rfl (by kernel_rfl) (by kernel_rfl) rfl (Below.refl _ _).drew ?dJ ?finF;case dJ =>
   rintro i hi o ho fq w' hG hpre;have HG:Hid (Below W0.heap.size W0 w'):=hG;have x4:=(HG.out.cell (p:=⟨w.heap.size + 1 + 1 + 1 + 1,4,none⟩) (show w.heap.size + 1 + 1 + 1 + 1 < _ by have:=HN0.out.lt; omega)).trans HX4.out;have v5:=(HG.out.cell (p:=⟨w.heap.size + 1 + 1 + 1 + 1 + 1,0,none⟩) HN0.out.lt).trans HV5.out;have z0:=(HG.out.cell (p:=⟨bJ,offJ,none⟩) HZ.out.2.2).trans HZ.out.1;have z1:=(HG.out.cell (p:=⟨bJ,offJ + 1,none⟩) HZ.out.2.2).trans HZ.out.2.1;have lk:=Nat.lt_of_lt_of_le HZ.out.2.2 HG.out.size;have HM:Hid (∀ e ∈ o.after,Region.binds .any e=true→_):=hpre;clear hG hpre;have hc:i=0 ∨ i=1 ∨ i=2 ∨ i=3 ∨ i=4 ∨ i=5 ∨ i=6 ∨ i=7 ∨ i=8 ∨ i=9 ∨ i=10 ∨ i=11 ∨ i=12 ∨ i=13:=by omega
   clear hi
   repeat' rcases hc with rfl | hc
   iterate 5
    ·obtain rfl:=Option.some.inj ho;have hm:=HM.out
     try simp [Region.binds] at hm
     clear ho HM;refine wpOp_step rfl (fun K hK=>?_);have HK:Hid (∀ a w,_→K a w):=hK;clear hK
     try simp only [hm]
     go_simp;exact HK.out _ _ ⟨_,by simp [upd, *],HG.out,rfl,fun k u hu=>hu⟩
   ·obtain rfl:=Option.some.inj ho;have e0:fq 0=Value.func (Fn.func 162) #[] #[Value.pointer (some ⟨w.heap.size,0,none⟩),Value.pointer (some ⟨w.heap.size + 1,0,none⟩),Value.pointer (some ⟨w.heap.size + 1 + 1,0,none⟩),Value.pointer (some ⟨w.heap.size + 1 + 1 + 1,0,none⟩)]:=HM.out ⟨0,.data⟩ (by simp) rfl;have e4:fq 4=Value.int IntKind.i64 i0:=HM.out ⟨4,.data⟩ (by simp) rfl;clear ho HM;refine wpOp_step rfl (fun K hK=>?_);have HK:Hid (∀ a w,_→K a w):=hK;clear hK;simp only [e0,e4];go_simp;refine (HA.out _ HG.out).mono ?_;rintro e w9 ⟨rfl,hb9⟩;have HG9:Hid (Below W0.heap.size W0 w9):=HG.out.trans (hb9.mono HG.out.size);clear hb9 x4 v5 z0 z1;go_wp2_with fail;exact HK.out _ _ ⟨Value.bool false,by simp [upd,e0,e4],HG9.out,rfl,fun k u hu=>hu⟩
   iterate 8
    ·obtain rfl:=Option.some.inj ho;have hm:=HM.out
     try simp [Region.binds] at hm
     clear ho HM;refine wpOp_step rfl (fun K hK=>?_);have HK:Hid (∀ a w,_→K a w):=hK;clear hK
     try simp only [hm]
     go_simp;exact HK.out _ _ ⟨_,by simp [upd, *],HG.out,rfl,fun k u hu=>hu⟩
  case finF =>
   rintro o ho fq w' hG hall;have e13:fq 13=Value.bool false:=hall 13 (by omega);have HG:Hid (Below W0.heap.size W0 w'):=hG;clear hG hall;obtain rfl:=Option.some.inj ho;clear ho;refine wpOp_step rfl (fun K hK=>?_);have HK:Hid (∀ a w,_→K a w):=hK;clear hK;simp only [e13];go_simp;refine HK.out _ _ ?_;clear HK;go_wp2;go_ret;exact ⟨rfl,HB0.out.trans (HG.out.mono HB0.out.size)⟩
end
theorem Ho (ng:Bool) (xs:List Al):bu ng xs=(bH xs).map fun a=>(⟨a.t,a.s,ng⟩:Dp):=by
 induction xs with
 | nil=>rfl
 | cons a xs ih=>simp only [bu,bH]; split <;> simp [ih]
theorem zy (ts:List Ty) (typ:ByteArray) (ng:Bool) (e:Ex) (hn:ax e=true) (hd:e.kind=3→aW (aF ts typ e.over)=true):bu ng e.allow ++ kz ts typ ng e=(fZ ts typ e).map fun a=>(⟨a.t,a.s,ng⟩:Dp):=by
 by_cases h1:e.kind=1
 ·unfold kz fZ;rw [if_neg (by omega),if_neg (by omega),if_pos h1,List.append_nil,Ho]
 ·rw [pu hn h1];unfold kz fZ;rw [if_neg h1];by_cases h2:e.kind=2
  ·rw [if_pos h2,if_pos h2]; rfl
  ·rw [if_neg h2,if_neg h2];by_cases h3:e.kind=3
   ·rw [if_pos h3,if_pos h3];unfold eH;rw [if_pos (hd h3),List.map_map];rfl
   ·rw [if_neg h3,if_neg h3]; rfl
theorem zz {ts:List Ty} {typ:ByteArray} {es:List Ex} {d:Dp} {i:Nat} (hd:d ∈ iZ ts typ es i):∀ {k:Nat},i < k→d ∈ aH ts typ es k
 | 0,h=>by omega
 | k + 1,h=>by
  simp only [aH];by_cases e:i=k
  ·subst e; exact List.mem_append.2 (.inr hd)
  ·exact List.mem_append.2 (.inl (zz hd (by omega)))
theorem xe {ts:List Ty} {t r:ByteArray} {es:List Ex} {x:Ky × St}:∀ {k:Nat},x ∈ relE ts t r es k ↔ ∃ i,i < k∧∃ e,es[i]?=some e∧x ∈ wM ts t r ((dw es).getD i false) e
 | 0=>by simp [relE]
 | k + 1=>by
  simp only [relE,List.mem_append];rw [xe];constructor
  ·rintro (⟨i,hi,h⟩ | h)
   ·exact ⟨i,by omega,h⟩
   ·cases e:es[k]? with
    | none=>rw [e] at h; cases h
    | some y=>rw [e] at h; exact ⟨k,by omega,y,e,h⟩
  ·rintro ⟨i,hi,e,he,h⟩;by_cases ek:i=k
   ·subst ek; right; rw [he]; exact h
   ·exact .inl ⟨i,by omega,e,he,h⟩
theorem lG {rs:List TR} (h:aT (af rs)=true) {t:TR} (ht:t ∈ rs) {q:RR} (hq:q ∈ t.rows):eF (af rs) t.name q.name=some (ag q.rows):=by
 have hT:=wC h;have hs:=oz (M:=fun _=>none) (rs:=rs) (k:=(t.name,q.name)) (.inr ⟨t,ht,q,hq,rfl⟩);obtain ⟨v,hv⟩:=Option.isSome_iff_exists.1 hs;obtain ⟨t',ht',q',hq',e,-,e2,-⟩:=hT.yes _ v hv;injection e with e3 e4;have h1:t=t':=Co h ht ht' e3;subst h1;obtain ⟨i,hi,rfl⟩:=List.mem_iff_getElem.1 ht;have h2:q=q':=Cq (kK h i hi).2.2 hq hq' e4;subst h2;exact e2
theorem gQ {es:List Ex} (h:aS es=true):∀ e ∈ es,ax e=true:=by
 simp only [aS,Bool.and_eq_true] at h;exact List.all_eq_true.1 h.1.1.1.2
theorem CL (t r:ByteArray) (ng:Bool):stepOf ⟨t,r,ng⟩=l5 ng:=by cases ng <;> rfl
theorem Lb {rs:List TR} (h:aT (af rs)=true) (hr:iL (af rs)=true):Edge (af rs) (gP (af rs) rs):=by
 have hnode:∀ t ∈ rs,∀ q ∈ t.rows,∀ e ∈ ag q.rows,ax e=true∧(e.kind=3→aW (aF (af rs) t.name e.over)=true):=by
  intro t ht q hq e he;have h1:=((bi h).2.2 t ht q hq).1;refine ⟨gQ h1 e he,fun h3=>?_⟩;unfold iL at hr;rw [List.all_eq_true] at hr;have h2:=hr t.p (List.mem_map_of_mem ht);unfold mG at h2;rw [List.all_eq_true] at h2;have h4:aJ (af rs) t.name (ag q.rows)=true:=h2 q.p (List.mem_map_of_mem hq);have h5:=(yK h4 e he).2;unfold jY at h5;rw [if_neg (by omega),if_pos h3,Bool.and_eq_true] at h5;exact h5.1
 intro on t0 r0 s;constructor
 ·intro hm;unfold gP gM at hm;rw [List.mem_flatMap] at hm;obtain ⟨t,ht,hm⟩:=hm;rw [List.mem_flatMap] at hm;obtain ⟨q,hq,hm⟩:=hm;obtain ⟨i,hi,e,he,hm⟩:=xe.1 hm;unfold wM at hm;obtain ⟨a,ha,e1⟩:=List.mem_map.1 hm;injection e1 with e2 e3;injection e3 with e4 e5 e6;subst e4; subst e5;refine ⟨mH.2 ⟨t.p,List.mem_map_of_mem ht,q.p,List.mem_map_of_mem hq,rfl⟩,⟨a.t,a.s,(dw (ag q.rows)).getD i false⟩,?_,e2,by rw [CL]; exact e6⟩;unfold fQ mr;have ero:aF (af rs) t.name q.name=ag q.rows:=by unfold aF; rw [lG h ht hq]; rfl
  simp only [ero];have hi2:i < (ag q.rows).length:=(List.getElem?_eq_some_iff.1 he).1;refine zz (i:=i) ?_ hi2;unfold iZ;rw [he];obtain ⟨n1,n2⟩:=hnode t ht q hq e (List.mem_of_getElem? he);simp only;rw [zy _ _ _ _ n1 n2];exact List.mem_map_of_mem (f:=fun a:Al=>(⟨a.t,a.s,(dw (ag q.rows)).getD i false⟩:Dp)) ha
 ·rintro ⟨hk,d,hd,e1,e2⟩;obtain ⟨t',ht',r',hr',e3⟩:=mH.1 hk;obtain ⟨t,ht,rfl⟩:=List.mem_map.1 ht';obtain ⟨q,hq,rfl⟩:=List.mem_map.1 hr';injection e3 with e4 e5;subst e4; subst e5;unfold fQ mr at hd;have ero:aF (af rs) t.p.name q.p.name=ag q.rows:=by
   have:=lG h ht hq;show aF (af rs) t.name q.name=_;unfold aF; rw [this]; rfl
  simp only [ero] at hd;obtain ⟨i,hi,hd⟩:=oN hd;unfold iZ at hd;split at hd
  ·cases hd
  ·rename_i e he;obtain ⟨n1,n2⟩:=hnode t ht q hq e (List.mem_of_getElem? he);have hdn:bu ((dw (ag q.rows)).getD i false) e.allow ++ kz (af rs) t.p.name ((dw (ag q.rows)).getD i false) e=_:=zy (af rs) t.name _ e n1 n2;rw [hdn] at hd;obtain ⟨a,ha,rfl⟩:=List.mem_map.1 hd;unfold gP gM;rw [List.mem_flatMap];refine ⟨t,ht,?_⟩;rw [List.mem_flatMap];refine ⟨q,hq,xe.2 ⟨i,by rw [aO] at hi; exact hi,e,he,?_⟩⟩;unfold wM;rw [List.mem_map];refine ⟨a,ha,?_⟩;rw [← e1,← e2,CL];rfl
theorem JY {rs:List TR} (h:aT (af rs)=true):∀ r ∈ rs,∀ q ∈ r.rows,∀ e ∈ q.rows,e.e.allow.length≤6:=by
 intro r hr q hq e he;have h1:=gQ ((bi h).2.2 r hr q hq).1 e.e (by unfold ag; exact List.mem_map_of_mem he);by_cases h2:e.e.kind=1
 ·unfold ax at h1;rw [if_pos h2] at h1;simp only [Bool.and_eq_true,fG,decide_eq_true_eq] at h1;exact h1.1.1.1.1.2
 ·rw [pu h1 h2]; simp
theorem nu {α β:Type} (f:α→List β) (B:Nat):∀ (xs:List α),(∀ x ∈ xs,(f x).length≤B)→(xs.flatMap f).length≤xs.length * B
 | [],_=>by simp
 | x::xs,h=>by
  rw [List.flatMap_cons,List.length_append,List.length_cons,Nat.succ_mul];have h1:=h x (by simp);have h2:=nu f B xs fun q hq=>h q (by simp [hq]);omega
theorem Hq (rs:List TR) (h6:∀ r ∈ rs,r.rows.length≤6) (hex:∀ r ∈ rs,∀ q ∈ r.rows,aS (ag q.rows)=true∧q.rows.length≤15∧∀ e ∈ q.rows,bI q.rows.length e.e.kids) (h66:∀ r ∈ rs,∀ q ∈ r.rows,∀ e ∈ q.rows,e.e.allow.length≤6) (hl:rs.length≤6:=by omega):(gP (af rs) rs).length≤100000:=by
 have h1:∀ t ∈ rs,(gM (af rs) t.name t.rows).length≤540:=by
  intro t ht;have h2:∀ q ∈ t.rows,(relE (af rs) t.name q.name (ag q.rows) q.rows.length).length≤90:=by
   intro q hq;have h3:∀ k,k≤q.rows.length→(relE (af rs) t.name q.name (ag q.rows) k).length≤k * 6:=by
    intro k
    induction k with
    | zero=>intro _; simp [relE]
    | succ k ih =>
     intro hk;rw [rH _ _ _ _ _ (by omega) _ rfl,List.length_append];have h4:=ih (by omega);have h5:(wM (af rs) t.name q.name ((dw (ag q.rows)).getD k false) q.rows[k].e).length≤6:=by
      unfold wM;rw [List.length_map];exact rJ rs h66 _ _ (h66 t ht q hq _ (List.getElem_mem (by omega)))
     omega
   have h4:=h3 q.rows.length (Nat.le_refl _);have h5:=(hex t ht q hq).2.1;omega
  have h3:=nu (fun q:RR=>relE (af rs) t.name q.name (ag q.rows) q.rows.length) 90 t.rows h2;have h4:=h6 t ht;unfold gM;omega
 have h2:=nu (fun t:TR=>gM (af rs) t.name t.rows) 540 rs h1;unfold gP;omega
set_option linter.unusedSectionVars false
def iY (sts:List St) (xu:List Al) (n:Int) (o:Al) (k:Nat):List Fc:=((sts.take k).filter fun s=>s.typ.toList == o.t.toList && decide (s.n=n)).flatMap fun s=>iy o s.rel xu
def Mx (sts:List St) (xu:List Al) (n:Int) (o:Al):List Fc:=iY sts xu n o sts.length
def nZ (sts:List St) (xo xu:List Al) (n:Int) (i:Nat):List Fc:=(xo.take i).flatMap (Mx sts xu n)
theorem Hr (sts:List St) (xu:List Al) (n:Int) (o:Al):iY sts xu n o 0=[]:=rfl
theorem Lc {sts:List St} {xu:List Al} {n:Int} {o:Al} {k:Nat} (h:k < sts.length) (hc:(sts[k].typ.toList == o.t.toList && decide (sts[k].n=n))=false):iY sts xu n o (k + 1)=iY sts xu n o k:=by
 unfold iY;rw [List.take_succ_eq_append_getElem h,List.filter_append,List.flatMap_append];simp [hc]
theorem JZ {sts:List St} {xu:List Al} {n:Int} {o:Al} {k:Nat} (h:k < sts.length) (hc:(sts[k].typ.toList == o.t.toList && decide (sts[k].n=n))=true):iY sts xu n o (k + 1)=iY sts xu n o k ++ iy o sts[k].rel xu:=by
 unfold iY;rw [List.take_succ_eq_append_getElem h,List.filter_append,List.flatMap_append];simp [hc]
theorem Ht {sts:List St} {xo xu:List Al} {n:Int} {i:Nat} (h:i < xo.length):nZ sts xo xu n (i + 1)=nZ sts xo xu n i ++ iY sts xu n xo[i] sts.length:=by
 unfold nZ;rw [List.take_succ_eq_append_getElem h,List.flatMap_append];simp [Mx]
theorem J3 {ts:List Ty} {sts:List St} (hk:fT sts=ai ts) (hn:(ai ts).Nodup) (xo xu:List Al) (n:Int):nZ sts xo xu n xo.length=bF ts (dX sts) xo xu n:=by
 unfold nZ bF;rw [List.take_length];congr 1
 funext o
 unfold Mx iY uf;rw [List.take_length,K5 hk hn,List.flatMap_map];rfl
theorem Hu (o:Al) (rel:ByteArray) {xu:List Al} {j:Nat} (h:j < xu.length):iy o rel (xu.take (j + 1))=iy o rel (xu.take j) ++ [⟨o.t,o.s,rel,xu[j].t,xu[j].s⟩]:=by
 unfold iy;rw [List.take_succ_eq_append_getElem h,List.map_append]; rfl
theorem xg {e:Ex} (h:ax e=true):e.kids.length≤5∧(e.kind=6→2≤e.kids.length):=by
 unfold ax at h;by_cases k1:e.kind=1
 ·rw [if_pos k1] at h; simp only [Bool.and_eq_true,decide_eq_true_eq] at h; exact ⟨by omega,fun h6=>by omega⟩
 by_cases k2:e.kind=2
 ·rw [if_neg k1,if_pos k2] at h; simp only [Bool.and_eq_true,decide_eq_true_eq] at h; exact ⟨by omega,fun h6=>by omega⟩
 by_cases k3:e.kind=3
 ·rw [if_neg k1,if_neg k2,if_pos k3] at h; simp only [Bool.and_eq_true,decide_eq_true_eq] at h; exact ⟨by omega,fun h6=>by omega⟩
 by_cases k4:e.kind=4 ∨ e.kind=5
 ·rw [if_neg k1,if_neg k2,if_neg k3,if_pos k4] at h; simp only [Bool.and_eq_true,decide_eq_true_eq] at h; exact ⟨by omega,fun h6=>by omega⟩
 by_cases k6:e.kind=6
 ·rw [if_neg k1,if_neg k2,if_neg k3,if_neg k4,if_pos k6] at h; simp only [Bool.and_eq_true,decide_eq_true_eq] at h; exact ⟨by omega,fun h6=>by omega⟩
 ·rw [if_neg k1,if_neg k2,if_neg k3,if_neg k4,if_neg k6] at h; cases h
theorem FT {rows:List ER} (h:aS (ag rows)=true):NodOk rows∧1≤rows.length:=by
 have hl:1≤rows.length∧rows.length≤15:=by
  unfold aS at h;simp only [Bool.and_eq_true,decide_eq_true_eq,aO] at h;exact ⟨h.1.1.1.1.1,h.1.1.1.1.2⟩
 have hlow:=DF h;have hkl:∀ q ∈ rows,q.e.kids.length≤1000:=fun q hq=>by
  have:=(xg (gQ h q.e (List.mem_map.2 ⟨q,hq,rfl⟩))).1;omega
 refine ⟨⟨by omega,hkl,hlow,fun e he h6=>?_⟩,hl.1⟩;exact (xg (gQ h e he)).2 h6
section
variable [DecidableEq Fc]
theorem nX (H:List Fc→Fc→Bool) (qs:List Fc) (f:Fc) (out:List Fc):aY H (qs ++ [f]) out=dJ H (aY H qs out) f:=by rw [Bt]; rfl
theorem qG {H:List Fc→Fc→Bool} {out:List Fc} {f:Fc} (h:dQ out f=true ∨ H out f=false):dJ H out f=out:=by
 unfold dJ;rw [if_pos];rcases h with h | h
 ·exact .inl (iV.1 h)
 ·exact .inr h
theorem zB {H:List Fc→Fc→Bool} {out:List Fc} {f:Fc} (h1:dQ out f=false) (h2:H out f=true):dJ H out f=out ++ [f]:=by
 unfold dJ;rw [if_neg];rintro (h | h)
 ·rw [iV.2 h] at h1; cases h1
 ·rw [h2] at h; cases h
theorem CO (H:List Fc→Fc→Bool) (qs out:List Fc):out.length≤(aY H qs out).length:=by
 obtain ⟨n,e,-⟩:=iN (H:=H) qs out;rw [e,List.length_append]; omega
theorem EU {H:List Fc→Fc→Bool} {qs out:List Fc} (h:decide (out.length < (aY H qs out).length)=false):aY H qs out=out:=by
 obtain ⟨n,e,-⟩:=iN (H:=H) qs out;rw [e,List.length_append,decide_eq_false_iff_not] at h;have:n=[]:=List.length_eq_zero_iff.1 (by omega);rw [e,this,List.append_nil]
end
theorem EW {e:Ex} (h:ax e=true):(e.kind=2→e.name.size≤maxLen)∧(e.kind=3→e.over.size≤maxLen∧e.name.size≤maxLen)∧(e.kind=1 ∨ e.kind=2 ∨ e.kind=3 ∨ e.kind=4 ∨ e.kind=5 ∨ e.kind=6):=by
 unfold ax at h;have hle:∀ s:ByteArray,aL s=true→s.size≤maxLen:=fun s hs=>by have:=(kE hs).2; unfold maxLen; omega
 by_cases k1:e.kind=1
 ·exact ⟨fun h2=>by omega,fun h3=>by omega,.inl k1⟩
 by_cases k2:e.kind=2
 ·rw [if_neg k1,if_pos k2] at h; simp only [Bool.and_eq_true] at h; exact ⟨fun _=>hle _ h.1.1.1,fun h3=>by omega,.inr (.inl k2)⟩
 by_cases k3:e.kind=3
 ·rw [if_neg k1,if_neg k2,if_pos k3] at h; simp only [Bool.and_eq_true] at h; exact ⟨fun h2=>by omega,fun _=>⟨hle _ h.1.1.1,hle _ h.1.1.2⟩,.inr (.inr (.inl k3))⟩
 refine ⟨fun h2=>absurd h2 k2,fun h3=>absurd h3 k3,?_⟩;by_cases k4:e.kind=4 ∨ e.kind=5
 ·rcases k4 with k4 | k4
  ·exact .inr (.inr (.inr (.inl k4)))
  ·exact .inr (.inr (.inr (.inr (.inl k4))))
 by_cases k6:e.kind=6
 ·exact .inr (.inr (.inr (.inr (.inr k6))))
 ·rw [if_neg k1,if_neg k2,if_neg k3,if_neg k4,if_neg k6] at h; cases h
section
variable {rs:List TR} {D br bp bt bK nK:Nat} {n1:Int} {nr:Nat} {Mr:KL→Option Value} {Er:List (KL × RR)} {ts:List Tp} {xo xu:List Al} {np:Nat} {Mp:K3→Option Value} {vo vu:Value} {out:List Fc} {f:Fc} {adE:Option Addr} {capE:Nat} {rows:List ER}
theorem oD (hN:NodOk rows) (hnb:∀ e ∈ ag rows,ax e=true) (hf:f.fits) (hts:∀ t ∈ ts,t.fits) (htl:ts.length≤1000) :
  ∀ (k n:Nat) (w:World),n < k→n < rows.length→DatA w rs D br bp bt n1 nr Mr Er (cZ ts) xo xu np Mp vo vu→aD j6 Tryz.prog 47 w bK nK (xV out)→dZ w adE rows →
  Calls Tryz.prog 140 #[.pointer (some ⟨D,0,none⟩),.slice adE rows.length capE,.int .i64 (n:Int),.agg #[.string f.a,.string f.b,.string f.r,.string f.c,.string f.d],.map (some bK)] w fun e w'=>e=.returned (.bool (ig ts (ag rows) out f k out n))∧Below w.heap.size w w'
 | 0,_,_,h,_,_,_,_=>absurd h (Nat.not_lt_zero _)
 | k + 1,n,w,hk,hn,hD,hK,hex=>by
  have e:(ag rows)[n]?=some rows[n].e:=by simp [ag,hn]
  have hkid:∀ i ∈ rows[n].e.kids,EQ D (.slice adE rows.length capE) f bK w i (ig ts (ag rows) out f k out i.toNat):=fun i hi w1 hb1=>by
   have h1:=hN.kid hn hi;have h2:=oD hN hnb hf hts htl k i.toNat w1 (by omega) (by omega) (hD.below hb1) (hK.below hb1) (hex.below hb1);have e2:((i.toNat:Nat):Int)=i:=by omega
   rw [e2] at h2;exact h2
  have hm:rows[n] ∈ rows:=List.getElem_mem hn;have hme:rows[n].e ∈ ag rows:=List.mem_map.2 ⟨_,hm,rfl⟩;obtain ⟨hn2,hn3,hkd⟩:=EW (hnb _ hme);unfold ig;rw [e];by_cases k1:rows[n].e.kind=1
  ·simp only [if_pos k1];exact Hg hn hD hK hf hts htl hex hN.len k1
  by_cases k2:rows[n].e.kind=2
  ·simp only [if_neg k1,if_pos k2];exact JW hn hK hf (hn2 k2) hex hN.len k2
  by_cases k3:rows[n].e.kind=3
  ·simp only [if_neg k1,if_neg k2,if_pos k3];exact Hl hn hD hK hf (hn3 k3) hts htl hex hN.len k3
  by_cases k4:rows[n].e.kind=4
  ·simp only [if_neg k1,if_neg k2,if_neg k3,if_pos k4];exact ET hn (fun i=>ig ts (ag rows) out f k out i.toNat) (hN.kids _ hm) hkid hex hN.len k4
  by_cases k5:rows[n].e.kind=5
  ·simp only [if_neg k1,if_neg k2,if_neg k3,if_neg k4,if_pos k5];exact Hm hn (fun i=>ig ts (ag rows) out f k out i.toNat) (hN.kids _ hm) hkid hex hN.len k5
  have k6:rows[n].e.kind=6:=by omega
  simp only [if_neg k1,if_neg k2,if_neg k3,if_neg k4,if_neg k5,if_pos k6];have h2:=hN.two _ hme k6;have hg:∀ q,q < 2→rows[n].e.kids.getD q 0 ∈ rows[n].e.kids:=fun q hq=>by
   rw [List.getD_eq_getElem?_getD,List.getElem?_eq_getElem (by omega)];exact List.getElem_mem _
  exact JX hn _ _ (hN.kids _ hm) h2 (hkid _ (hg 0 (by omega))) (hkid _ (hg 1 (by omega))) hex hN.len k6
theorem Ld {rs:List TR} (h:aT (af rs)=true) {k:ByteArray × ByteArray} (hk:k ∈ ai (af rs)):∃ t ∈ rs,∃ q ∈ t.rows,ma rs k=some q.sl∧ag q.rows=aF (af rs) k.1 k.2∧aS (ag q.rows)=true:=by
 have hk':=hk;unfold ai at hk;obtain ⟨T,hT,hk⟩:=List.mem_flatMap.1 hk;obtain ⟨t,ht,rfl⟩:=List.mem_map.1 hT;unfold iB at hk;obtain ⟨r,hr,rfl⟩:=List.mem_map.1 hk;obtain ⟨q,hq,rfl⟩:=List.mem_map.1 hr;have hrel:=lG h ht hq;cases e:ma rs (t.p.name,q.p.name) with
 | none =>
  have h1:=(wC h).no _ e;have h2:eF (af rs) t.name q.name=none:=h1;rw [hrel] at h2; cases h2
 | some v =>
  obtain ⟨t',ht',q',hq',-,rfl,e1,-⟩:=(wC h).yes _ v e;refine ⟨t',ht',q',hq',rfl,?_,((bi h).2.2 t' ht' q' hq').1⟩;unfold aF; rw [e1]; rfl
set_option maxHeartbeats 4000000 in
theorem Hw {w:World} {ad:Option Addr} (hD:DatA w rs D br bp bt n1 nr Mr Er (cZ ts) xo xu np Mp vo vu) (hK:aD j6 Tryz.prog 47 w bK nK (xV out)) (hf:f.fits) (hts:∀ t ∈ ts,t.fits) (htl:ts.length≤1000) (hsh:aT (af rs)=true) (hkey:(f.a,f.r) ∈ ai (af rs)) (hs:fo w ad rs) :
  Calls Tryz.prog 98 #[.pointer (some ⟨D,0,none⟩),.agg #[.string f.a,.string f.b,.string f.r,.string f.c,.string f.d],.map (some bK)] w fun e w'=>e=.returned (.bool (gm (af rs) ts out f))∧Below w.heap.size w w':=by
 obtain ⟨t,htm,q,hq,htab,hrx,hsp⟩:=Ld hsh hkey;obtain ⟨hN,hr1⟩:=FT hsp;have hnb:=gQ hsp;have HFR:lW rs q.ad q.rows:=.inr ⟨t,htm,q,hq,rfl,rfl⟩;obtain ⟨kl,hkl⟩:=il (f.a,f.r) hf.1 hf.2.2.1;obtain ⟨W0,hW0⟩:∃ W0,W0=w.alloc (.cells #[.string f.a,.string f.b,.string f.r,.string f.c,.string f.d] 47):=⟨_,rfl⟩;have HB0:Hid (Below w.heap.size w W0):=by show Below _ _ _; rw [hW0]; exact (Below.refl _ _).alloc (Nat.le_refl _) _
 have c0:W0.cell? ⟨w.heap.size,0,none⟩=some (.string f.a):=by rw [hW0]; simp
 have c1:W0.cell? ⟨w.heap.size,1,none⟩=some (.string f.b):=by rw [hW0]; simp
 have c2:W0.cell? ⟨w.heap.size,2,none⟩=some (.string f.r):=by rw [hW0]; simp
 have c3:W0.cell? ⟨w.heap.size,3,none⟩=some (.string f.c):=by rw [hW0]; simp
 have c4:W0.cell? ⟨w.heap.size,4,none⟩=some (.string f.d):=by rw [hW0]; simp
 have d0:=HB0.out.cell (p:=⟨D,0,none⟩) hD.dat.lt |>.trans hD.dat.c0;obtain ⟨adE,hadE⟩:∃ a,a=q.ad:=⟨_,rfl⟩;obtain ⟨capE,hcapE⟩:∃ a,a=q.cap:=⟨_,rfl⟩;obtain ⟨rows,hrows⟩:∃ a,a=q.rows:=⟨_,rfl⟩;have hsl:q.sl=.slice adE rows.length capE:=by rw [hadE,hcapE,hrows]; rfl
 rw [← hrows] at hN hnb hr1 hrx;rw [← hrows,← hadE] at HFR;have hlk:∀ m,(Instr.lookup 106 (.map (some bt)) (.agg #[.string f.a,.string f.r]) false).run Tryz.prog (W0.drewN m)=.ok (.slice adE rows.length capE) (W0.drewN m):=fun m=>by
  have h:=((hD.tab.below HB0.out).below (below_drewN (Below.refl _ _) m)).look (t:=106) (e:=98) gG Tryz.underlying106 (nP _) (x:=(f.a,f.r)) hkl;rw [htab,hsl] at h;exact h
 have hr1000:=hN.len;have hwr:IntKind.i64.wrap ((rows.length:Int) - 1)=((rows.length - 1:Nat):Int):=by rw [IntKind.wrap_i64]; omega
 have HC:Hid (∀ nq,Calls Tryz.prog 140 #[.pointer (some ⟨D,0,none⟩),.slice adE rows.length capE,.int .i64 ((rows.length - 1:Nat):Int),.agg #[.string f.a,.string f.b,.string f.r,.string f.c,.string f.d],.map (some bK)] (W0.drewN nq) fun e w'=>e=.returned (.bool (gm (af rs) ts out f))∧Below (W0.drewN nq).heap.size (W0.drewN nq) w'):=fun nq=>by
  have hb:Below w.heap.size w (W0.drewN nq):=below_drewN HB0.out nq;have h:=oD (capE:=capE) hN hnb hf hts htl rows.length (rows.length - 1) (W0.drewN nq) (by omega) (by omega) (hD.below hb) (hK.below hb) (HFR.sl (hs.below hb));unfold gm;rw [← hrx,aO];exact h
 clear hD hK hs hsp hkl htab hsl hN hnb hf hadE hcapE hrows HFR hrx hkey;go_enter Tryz.func98,Tryz.ntmps98;go_wp2_with fail;rw [← hW0];clear hW0;go_quiet (fail);clear d0 hlk;go_wp2_with fail;refine (HC.out _).mono ?_;rintro e w1 ⟨rfl,hb1⟩;have HB1:=az ((below_drewN HB0.out _).trans (hb1.mono HB0.out.size));clear hb1 c0 c1 c2 c3 c4;go_wp2;go_ret;exact ⟨rfl,HB1.out⟩
end
end Go.Proofs.YtogjfppkbkgaeaaGreat
