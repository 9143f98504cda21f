/- The program's question of a node that takes away. -/
import Derived.Test.YtdaoiceeidoehaaGreatJ22
open Go.Proofs.Tryz
set_option maxHeartbeats 80000000
namespace Go.Proofs.YtdaoiceeidoehaaGreat
set_option linter.unusedVariables false
set_option maxRecDepth 100000
open Go.ChangeShapes Go.WideShapes Go.ChangeAt Go.RowKit Go.Maps
open Pl
section
variable {w:World} {rs:List TR} {D br bp bt bK nK:Nat} {n1:Int} {nr:Nat} {Mr:KL→Option Value} {Er:List (KL × RR)} {ts:List Tp} {xo xu:List Al} {np:Nat} {Mp:K3→Option Value} {vo vu:Value} {out:List Fc} {f:Fc} {adE:Option Addr} {capE:Nat} {rows:List ER} {n:Nat}
theorem I6 (hn:n < rows.length) (b0 b1:Bool) (hkl:rows[n].e.kids.length≤1000) (hk2l:2≤rows[n].e.kids.length) (hA:zI D (.slice adE rows.length capE) f bK w (rows[n].e.kids.getD 0 0) b0) (hB:zI D (.slice adE rows.length capE) f bK w (rows[n].e.kids.getD 1 0) b1) (hex:dw w adE rows) (hre:rows.length≤1000) (hk:rows[n].e.kind=6) :
  Calls prog 100 #[.pointer (some ⟨D,0,none⟩),.slice adE rows.length capE,.int .i64 (n:Int),.agg #[.string f.a,.string f.b,.string f.r,.string f.c,.string f.d],.map (some bK)] w fun e w'=>e=.returned (.bool (b0 && !b1))∧Below w.heap.size w w':=by
 obtain ⟨b,off,hadr,⟨t0,t1,t2,t3,t4⟩,hbl,hok⟩:=dw.at0 hex hn;obtain ⟨W0,hW0⟩:∃ W0,W0=Cx w D (.slice adE rows.length capE) f bK rows[n]:=⟨_,rfl⟩;have HB0:Hid (Below w.heap.size w W0):=by show Below _ _ _; rw [hW0]; exact jd _ _ _ _ _ _
 have HN0:Hid (NdB W0 w.heap.size D (.slice adE rows.length capE) f bK rows[n]):=by show NdB _ _ _ _ _ _ _; rw [hW0]; exact je _ _ _ _ _ _
 have hk1:(rows[n].e.kind == 1)=false:=by rw [hk]; rfl
 have hk2:(rows[n].e.kind == 2)=false:=by rw [hk]; rfl
 have hk3:(rows[n].e.kind == 3)=false:=by rw [hk]; rfl
 have hk4:(rows[n].e.kind == 4)=false:=by rw [hk]; rfl
 have hk5:(rows[n].e.kind == 5)=false:=by rw [hk]; rfl
 have hbl1:b < w.heap.size + 1:=by omega
 have hbl2:b < w.heap.size + 1 + 1:=by omega
 have hbl3:b < w.heap.size + 1 + 1 + 1:=by omega
 have hn1:=aY n;have hn2:(n:Int) < (rows.length:Int):=by omega
 unfold Cx sI at hW0;have h0k:0 < rows[n].e.kids.length:=by omega
 have h1k:1 < rows[n].e.kids.length:=by omega
 obtain ⟨bJ,offJ,hadK,z0,hbK⟩:=nA.at0 hok.2 h0k;have z1:w.cell? ⟨bJ,offJ + 1,none⟩=some (.int .i64 rows[n].e.kids[1]):=by
  obtain ⟨b',off',hadK',z1,-⟩:=nA.at0 hok.2 h1k;rw [hadK] at hadK'; injection hadK' with e; injection e with e1 e2;rw [e1,e2]; exact z1
 obtain ⟨i0,hi0⟩:∃ i,i=rows[n].e.kids[0]:=⟨_,rfl⟩;obtain ⟨i1,hi1⟩:∃ i,i=rows[n].e.kids[1]:=⟨_,rfl⟩;have g0:rows[n].e.kids.getD 0 0=i0:=by rw [hi0,List.getD_eq_getElem?_getD,List.getElem?_eq_getElem h0k]; rfl
 have g1:rows[n].e.kids.getD 1 0=i1:=by rw [hi1,List.getD_eq_getElem?_getD,List.getElem?_eq_getElem h1k]; rfl
 rw [g0] at hA;rw [g1] at hB;rw [← hi0,Nat.add_zero] at z0;rw [← hi1] at z1;obtain ⟨kl,hkl'⟩:∃ kl,kl=rows[n].e.kids.length:=⟨_,rfl⟩;obtain ⟨cK,hcK⟩:∃ c,c=rows[n].capK:=⟨_,rfl⟩;have hl0:(0:Int) < (kl:Int):=by omega
 have hl1:(1:Int) < (kl:Int):=by omega
 have h0k':0 < kl:=by omega
 have h1k':1 < kl:=by omega
 have HA:Hid (∀ w1,Below W0.heap.size W0 w1→_):=fun w1 hb=>kJ hA (HB0.out.trans (hb.mono HB0.out.size)) (HN0.out.below hb);have HBB:Hid (∀ w1,Below W0.heap.size W0 w1→_):=fun w1 hb=>qg hB (HB0.out.trans (hb.mono HB0.out.size)) (HN0.out.below hb);have HZ:Hid (W0.cell? ⟨bJ,offJ,none⟩=some (.int .i64 i0)∧W0.cell? ⟨bJ,offJ + 1,none⟩=some (.int .i64 i1)∧bJ < W0.heap.size):=⟨(HB0.out.cell (p:=⟨bJ,offJ,none⟩) hbK).trans z0,(HB0.out.cell (p:=⟨bJ,offJ + 1,none⟩) hbK).trans z1,Nat.lt_of_lt_of_le hbK HB0.out.size⟩;have HX4:Hid (W0.cell? ⟨w.heap.size + 1 + 1 + 1 + 1,4,none⟩=some (.slice (some ⟨bJ,offJ,none⟩) kl cK)):=by show _=_; rw [HN0.out.x4,hadK,← hkl',← hcK]
 have HV5:Hid (W0.cell? ⟨w.heap.size + 1 + 1 + 1 + 1 + 1,0,none⟩=some (.func (Fn.func 132) #[] #[.pointer (some ⟨w.heap.size,0,none⟩),.pointer (some ⟨w.heap.size + 1,0,none⟩),.pointer (some ⟨w.heap.size + 1 + 1,0,none⟩),.pointer (some ⟨w.heap.size + 1 + 1 + 1,0,none⟩)])):=HN0.out.v;clear hA hB hex hk hok z0 z1 hadK h0k h1k g0 g1 hi0 hi1;subst hadr;go_enter func100,ntmps100;go_wp2_with fail;rw [← hW0];clear hW0 t0 t1 t2 t3 t4;clear hk1 hk2 hk3 hk4 hk5 hkl' hcK;cases b0 with
 | true =>
  refine bY 14 (fun n=>(undef::undef::undef::undef::undef::undef::undef::undef::undef::undef::undef::undef::undef::undef::[]).getD n undef) (fun fq=>{ tmps:=List.toArray (Value.pointer (some ⟨D,0,none⟩)::.slice (some ⟨b,off,none⟩) rows.length capE::.int .i64 n::.agg #[.string f.a,.string f.b,.string f.r,.string f.c,.string f.d]::.map (some bK)::.pointer (some ⟨w.heap.size,0,none⟩)::.pointer (some ⟨w.heap.size + 1,0,none⟩)::undef::.pointer (some ⟨w.heap.size + 1 + 1,0,none⟩)::.pointer (some ⟨w.heap.size + 1 + 1 + 1,0,none⟩)::.bool false::.pointer (some ⟨w.heap.size + 1 + 1 + 1 + 1,0,none⟩)::.pointer (some ⟨w.heap.size + 1 + 1 + 1 + 1 + 1,0,none⟩)::.func (Fn.func 133) #[] #[.pointer (some ⟨w.heap.size + 1 + 1 + 1 + 1 + 1,0,none⟩)]::.slice (some ⟨b,off,none⟩) rows.length capE::.int .i64 n::.pointer (some ⟨b,off + n * 5,none⟩)::.agg #[.int .i64 rows[n].e.kind,.slice rows[n].adA rows[n].e.allow.length rows[n].capA,.string rows[n].e.over,.string rows[n].e.name,.slice rows[n].adK rows[n].e.kids.length rows[n].capK]::.func (Fn.func 132) #[] #[.pointer (some ⟨w.heap.size,0,none⟩),.pointer (some ⟨w.heap.size + 1,0,none⟩),.pointer (some ⟨w.heap.size + 1 + 1,0,none⟩),.pointer (some ⟨w.heap.size + 1 + 1 + 1,0,none⟩)]::.func (Fn.func 133) #[] #[.pointer (some ⟨w.heap.size + 1 + 1 + 1 + 1 + 1,0,none⟩)]::.pointer (some ⟨w.heap.size + 1 + 1 + 1 + 1,0,none⟩)::.int .i64 rows[n].e.kind::.bool false::.bool false::undef::undef::undef::undef::.bool false::.bool false::undef::undef::undef::undef::undef::undef::undef::undef::undef::.bool false::.bool false::undef::undef::undef::undef::undef::.bool false::.bool false::undef::undef::undef::undef::.bool false::.bool false::undef::undef::undef::undef::undef::fq 0::fq 1::fq 2::fq 3::fq 4::fq 5::fq 6::fq 7::fq 8::fq 9::fq 10::fq 11::fq 12::fq 13::[]),defers:=[] }) (fun n v _=>v=(Value.func (Fn.func 132) #[] #[.pointer (some ⟨w.heap.size,0,none⟩),.pointer (some ⟨w.heap.size + 1,0,none⟩),.pointer (some ⟨w.heap.size + 1 + 1,0,none⟩),.pointer (some ⟨w.heap.size + 1 + 1 + 1,0,none⟩)]::.pointer (some ⟨w.heap.size + 1 + 1 + 1 + 1,4,none⟩)::.slice (some ⟨bJ,offJ,none⟩) kl cK::.pointer (some ⟨bJ,offJ,none⟩)::.int .i64 i0::.bool true::.bool true::.func (Fn.func 133) #[] #[.pointer (some ⟨w.heap.size + 1 + 1 + 1 + 1 + 1,0,none⟩)]::.pointer (some ⟨w.heap.size + 1 + 1 + 1 + 1,4,none⟩)::.slice (some ⟨bJ,offJ,none⟩) kl cK::.pointer (some ⟨bJ,offJ + 1,none⟩)::.int .i64 i1::.bool (!b1)::.bool (!b1)::[]).getD n undef) (fun w'=>Below W0.heap.size W0 w') (by kernel_rfl) rfl (by kernel_rfl) (by kernel_rfl) rfl (Below.refl _ _).drew ?stepT ?finT;case stepT =>
   rintro i hi o ho fq w' hG hpre;have HG:Hid (Below W0.heap.size W0 w'):=hG;have x4:=(HG.out.cell (p:=⟨w.heap.size + 1 + 1 + 1 + 1,4,none⟩) (show w.heap.size + 1 + 1 + 1 + 1 < _ by have:=HN0.out.lt; omega)).trans HX4.out;have v5:=(HG.out.cell (p:=⟨w.heap.size + 1 + 1 + 1 + 1 + 1,0,none⟩) HN0.out.lt).trans HV5.out;have z0:=(HG.out.cell (p:=⟨bJ,offJ,none⟩) HZ.out.2.2).trans HZ.out.1;have z1:=(HG.out.cell (p:=⟨bJ,offJ + 1,none⟩) HZ.out.2.2).trans HZ.out.2.1;have lk:=Nat.lt_of_lt_of_le HZ.out.2.2 HG.out.size;have HM:Hid (∀ e ∈ o.after,Region.binds .any e=true→_):=hpre;clear hG hpre;have hc:=KN (i:=i) (by omega);clear hi
   repeat' rcases hc with rfl | hc
   iterate 5
    ·obtain rfl:=Option.some.inj ho;have hm:=HM.out
     try simp [Region.binds] at hm
     clear ho HM;refine wpOp_step rfl (fun K hK=>?_);have HK:Hid (∀ a w,_→K a w):=hK;clear hK
     try simp only [hm]
     go_simp;exact HK.out _ _ ⟨_,by simp [upd, *],HG.out,rfl,fun k u hu=>hu⟩
   ·obtain rfl:=Option.some.inj ho;have e0:fq 0=.func (Fn.func 132) #[] #[.pointer (some ⟨w.heap.size,0,none⟩),.pointer (some ⟨w.heap.size + 1,0,none⟩),.pointer (some ⟨w.heap.size + 1 + 1,0,none⟩),.pointer (some ⟨w.heap.size + 1 + 1 + 1,0,none⟩)]:=HM.out ⟨0,.data⟩ (by simp) rfl;have e4:fq 4=.int .i64 i0:=HM.out ⟨4,.data⟩ (by simp) rfl;clear ho HM;refine wpOp_step rfl (fun K hK=>?_);have HK:Hid (∀ a w,_→K a w):=hK;clear hK;simp only [e0,e4];go_simp;refine (HA.out _ HG.out).mono ?_;rintro e w9 ⟨rfl,hb9⟩;have HG9:=fK HG hb9;clear hb9 x4 v5 z0 z1;go_wp2_with fail;exact HK.out _ _ ⟨Value.bool true,by simp [upd,e0,e4],HG9.out,rfl,fun k u hu=>hu⟩
   iterate 6
    ·obtain rfl:=Option.some.inj ho;have hm:=HM.out
     try simp [Region.binds] at hm
     clear ho HM;refine wpOp_step rfl (fun K hK=>?_);have HK:Hid (∀ a w,_→K a w):=hK;clear hK
     try simp only [hm]
     go_simp;exact HK.out _ _ ⟨_,by simp [upd, *],HG.out,rfl,fun k u hu=>hu⟩
   ·obtain rfl:=Option.some.inj ho;have e7:fq 7=.func (Fn.func 133) #[] #[.pointer (some ⟨w.heap.size + 1 + 1 + 1 + 1 + 1,0,none⟩)]:=HM.out ⟨7,.data⟩ (by simp) rfl;have e11:fq 11=.int .i64 i1:=HM.out ⟨11,.data⟩ (by simp) rfl;have e6:fq 6=.bool true:=HM.out ⟨6,.guard⟩ (by simp) rfl;clear ho HM;refine wpOp_step rfl (fun K hK=>?_);have HK:Hid (∀ a w,_→K a w):=hK;clear hK;simp only [e7,e11,e6];go_simp;refine (HBB.out _ HG.out).mono ?_;rintro e w9 ⟨rfl,hb9⟩;have HG9:=fK HG hb9;clear hb9 x4 v5 z0 z1;go_wp2_with fail;exact HK.out _ _ ⟨Value.bool (!b1),by simp [upd,e7,e11,e6],HG9.out,rfl,fun k u hu=>hu⟩
   ·obtain rfl:=Option.some.inj ho;have e6:fq 6=.bool true:=HM.out ⟨6,.data⟩ (by simp) rfl;have e12:fq 12=.bool (!b1):=HM.out ⟨12,.data⟩ (by simp) rfl;clear ho HM;refine wpOp_step rfl (fun K hK=>?_);have HK:Hid (∀ a w,_→K a w):=hK;clear hK;simp only [e6,e12];go_simp;exact HK.out _ _ ⟨Value.bool (!b1),by simp [upd,e6,e12],HG.out,rfl,fun k u hu=>hu⟩
  case finT =>
   rintro o ho fq w' hG hall;have e13:fq 13=.bool (!b1):=hall 13 (by omega);have HG:Hid (Below W0.heap.size W0 w'):=hG;clear hG hall;obtain rfl:=Option.some.inj ho;clear ho;refine wpOp_step rfl (fun K hK=>?_);have HK:Hid (∀ a w,_→K a w):=hK;clear hK;simp only [e13];go_simp;refine HK.out _ _ ?_;clear HK;go_wp2;go_ret;exact ⟨rfl,HB0.out.trans (HG.out.mono HB0.out.size)⟩
 | false =>
  refine bY 14 (fun n=>(undef::undef::undef::undef::undef::undef::undef::undef::undef::undef::undef::undef::undef::undef::[]).getD n undef) (fun fq=>{ tmps:=List.toArray (Value.pointer (some ⟨D,0,none⟩)::.slice (some ⟨b,off,none⟩) rows.length capE::.int .i64 n::.agg #[.string f.a,.string f.b,.string f.r,.string f.c,.string f.d]::.map (some bK)::.pointer (some ⟨w.heap.size,0,none⟩)::.pointer (some ⟨w.heap.size + 1,0,none⟩)::undef::.pointer (some ⟨w.heap.size + 1 + 1,0,none⟩)::.pointer (some ⟨w.heap.size + 1 + 1 + 1,0,none⟩)::.bool false::.pointer (some ⟨w.heap.size + 1 + 1 + 1 + 1,0,none⟩)::.pointer (some ⟨w.heap.size + 1 + 1 + 1 + 1 + 1,0,none⟩)::.func (Fn.func 133) #[] #[.pointer (some ⟨w.heap.size + 1 + 1 + 1 + 1 + 1,0,none⟩)]::.slice (some ⟨b,off,none⟩) rows.length capE::.int .i64 n::.pointer (some ⟨b,off + n * 5,none⟩)::.agg #[.int .i64 rows[n].e.kind,.slice rows[n].adA rows[n].e.allow.length rows[n].capA,.string rows[n].e.over,.string rows[n].e.name,.slice rows[n].adK rows[n].e.kids.length rows[n].capK]::.func (Fn.func 132) #[] #[.pointer (some ⟨w.heap.size,0,none⟩),.pointer (some ⟨w.heap.size + 1,0,none⟩),.pointer (some ⟨w.heap.size + 1 + 1,0,none⟩),.pointer (some ⟨w.heap.size + 1 + 1 + 1,0,none⟩)]::.func (Fn.func 133) #[] #[.pointer (some ⟨w.heap.size + 1 + 1 + 1 + 1 + 1,0,none⟩)]::.pointer (some ⟨w.heap.size + 1 + 1 + 1 + 1,0,none⟩)::.int .i64 rows[n].e.kind::.bool false::.bool false::undef::undef::undef::undef::.bool false::.bool false::undef::undef::undef::undef::undef::undef::undef::undef::undef::.bool false::.bool false::undef::undef::undef::undef::undef::.bool false::.bool false::undef::undef::undef::undef::.bool false::.bool false::undef::undef::undef::undef::undef::fq 0::fq 1::fq 2::fq 3::fq 4::fq 5::fq 6::fq 7::fq 8::fq 9::fq 10::fq 11::fq 12::fq 13::[]),defers:=[] }) (fun n v _=>v=(Value.func (Fn.func 132) #[] #[.pointer (some ⟨w.heap.size,0,none⟩),.pointer (some ⟨w.heap.size + 1,0,none⟩),.pointer (some ⟨w.heap.size + 1 + 1,0,none⟩),.pointer (some ⟨w.heap.size + 1 + 1 + 1,0,none⟩)]::.pointer (some ⟨w.heap.size + 1 + 1 + 1 + 1,4,none⟩)::.slice (some ⟨bJ,offJ,none⟩) kl cK::.pointer (some ⟨bJ,offJ,none⟩)::.int .i64 i0::.bool false::.bool false::undef::undef::undef::undef::undef::undef::.bool false::[]).getD n undef) (fun w'=>Below W0.heap.size W0 w') (by kernel_rfl) rfl (by kernel_rfl) (by kernel_rfl) rfl (Below.refl _ _).drew ?dG ?finF;case dG =>
   rintro i hi o ho fq w' hG hpre;have HG:Hid (Below W0.heap.size W0 w'):=hG;have x4:=(HG.out.cell (p:=⟨w.heap.size + 1 + 1 + 1 + 1,4,none⟩) (show w.heap.size + 1 + 1 + 1 + 1 < _ by have:=HN0.out.lt; omega)).trans HX4.out;have v5:=(HG.out.cell (p:=⟨w.heap.size + 1 + 1 + 1 + 1 + 1,0,none⟩) HN0.out.lt).trans HV5.out;have z0:=(HG.out.cell (p:=⟨bJ,offJ,none⟩) HZ.out.2.2).trans HZ.out.1;have z1:=(HG.out.cell (p:=⟨bJ,offJ + 1,none⟩) HZ.out.2.2).trans HZ.out.2.1;have lk:=Nat.lt_of_lt_of_le HZ.out.2.2 HG.out.size;have HM:Hid (∀ e ∈ o.after,Region.binds .any e=true→_):=hpre;clear hG hpre;have hc:=KN (i:=i) (by omega);clear hi
   repeat' rcases hc with rfl | hc
   iterate 5
    ·obtain rfl:=Option.some.inj ho;have hm:=HM.out
     try simp [Region.binds] at hm
     clear ho HM;refine wpOp_step rfl (fun K hK=>?_);have HK:Hid (∀ a w,_→K a w):=hK;clear hK
     try simp only [hm]
     go_simp;exact HK.out _ _ ⟨_,by simp [upd, *],HG.out,rfl,fun k u hu=>hu⟩
   ·obtain rfl:=Option.some.inj ho;have e0:fq 0=.func (Fn.func 132) #[] #[.pointer (some ⟨w.heap.size,0,none⟩),.pointer (some ⟨w.heap.size + 1,0,none⟩),.pointer (some ⟨w.heap.size + 1 + 1,0,none⟩),.pointer (some ⟨w.heap.size + 1 + 1 + 1,0,none⟩)]:=HM.out ⟨0,.data⟩ (by simp) rfl;have e4:fq 4=.int .i64 i0:=HM.out ⟨4,.data⟩ (by simp) rfl;clear ho HM;refine wpOp_step rfl (fun K hK=>?_);have HK:Hid (∀ a w,_→K a w):=hK;clear hK;simp only [e0,e4];go_simp;refine (HA.out _ HG.out).mono ?_;rintro e w9 ⟨rfl,hb9⟩;have HG9:=fK HG hb9;clear hb9 x4 v5 z0 z1;go_wp2_with fail;exact HK.out _ _ ⟨Value.bool false,by simp [upd,e0,e4],HG9.out,rfl,fun k u hu=>hu⟩
   iterate 8
    ·obtain rfl:=Option.some.inj ho;have hm:=HM.out
     try simp [Region.binds] at hm
     clear ho HM;refine wpOp_step rfl (fun K hK=>?_);have HK:Hid (∀ a w,_→K a w):=hK;clear hK
     try simp only [hm]
     go_simp;exact HK.out _ _ ⟨_,by simp [upd, *],HG.out,rfl,fun k u hu=>hu⟩
  case finF =>
   rintro o ho fq w' hG hall;have e13:fq 13=.bool false:=hall 13 (by omega);have HG:Hid (Below W0.heap.size W0 w'):=hG;clear hG hall;obtain rfl:=Option.some.inj ho;clear ho;refine wpOp_step rfl (fun K hK=>?_);have HK:Hid (∀ a w,_→K a w):=hK;clear hK;simp only [e13];go_simp;refine HK.out _ _ ?_;clear HK;go_wp2;go_ret;exact ⟨rfl,HB0.out.trans (HG.out.mono HB0.out.size)⟩
end
end Go.Proofs.YtdaoiceeidoehaaGreat
