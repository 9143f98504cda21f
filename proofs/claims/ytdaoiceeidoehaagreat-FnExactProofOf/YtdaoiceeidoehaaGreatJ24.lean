/- The program's question of a node: told by tuples, a name, over a relation, one of its kids, all of them. -/
import Derived.Test.YtdaoiceeidoehaaGreatJ23
import Derived.Laws.EntriesVeiled
open Go.Proofs.Tryz
set_option maxHeartbeats 80000000
namespace Go.Proofs.YtdaoiceeidoehaaGreat
set_option linter.unusedVariables false
set_option maxRecDepth 100000
open Go.ChangeShapes Go.WideShapes Go.ChangeAt Go.RowKit Go.Maps
open Pl
section
variable {w:World} {rs:List TR} {D br bp bt bK nK:Nat} {n1:Int} {nr:Nat} {Mr:KL→Option Value} {Er:List (KL × RR)} {ts:List Tp} {xo xu:List Al} {np:Nat} {Mp:K3→Option Value} {vo vu:Value} {out:List Fc} {f:Fc} {SN:Option Addr} {capE:Nat} {rows:List ER} {n:Nat}
theorem Ku (hn:n < rows.length) (hD:DatA w rs D br bp bt n1 nr Mr Er (aW ts) xo xu np Mp vo vu) (hK:aD dH prog 42 w bK nK (uw out)) (hf:f.fits) (hts:∀ t ∈ ts,t.fits) (htl:ts.length≤1000) (hex:eX w SN rows) (hre:rows.length≤1000) (hk:rows[n].e.kind=1) :
  Calls prog 100 #[.pointer (some ⟨D,0,none⟩),.slice SN rows.length capE,.int .i64 (n:Int),.agg #[.string f.a,.string f.b,.string f.r,.string f.c,.string f.d],.map (some bK)] w fun e w'=>e=.returned (.bool (eG ts out f))∧Below w.heap.size w w':=by
 obtain ⟨b,off,SL,⟨t0,t1,t2,t3,t4⟩,hbl,hok⟩:=eX.at0 hex hn;obtain ⟨W0,hW0⟩:∃ W0,W0=F5 w D (.slice SN rows.length capE) f bK rows[n]:=⟨_,rfl⟩;have HB0:Hid (Below w.heap.size w W0):=by show Below _ _ _; rw [hW0]; exact kr _ _ _ _ _ _
 have Ul:Hid (NdB W0 w.heap.size D (.slice SN rows.length capE) f bK rows[n]):=by show NdB _ _ _ _ _ _ _; rw [hW0]; exact ku _ _ _ _ _ _
 have hk1:(rows[n].e.kind == 1)=true:=by rw [hk]; rfl
 have Va:b < w.heap.size + 1:=by omega
 have YP:b < w.heap.size + 1 + 1:=by omega
 have WN:b < w.heap.size + 1 + 1 + 1:=by omega
 have hn1:=bn n;have hn2:(n:Int) < (rows.length:Int):=by omega
 unfold F5 wu at hW0;have HC:=ag (zU (hD.below HB0.out) (hK.below HB0.out) hf hts htl);clear hD hK hts hex hk hok;subst SL;go_enter func100,ntmps100;go_wp2_with fail;rw [← hW0];clear hW0 t0 t1 t2 t3 t4;refine (HC.out).mono ?_;rintro e w1 ⟨rfl,hb1⟩;have HB1:=ag (HB0.out.trans (hb1.mono HB0.out.size));clear hb1;go_wp2;go_ret;exact ⟨rfl,HB1.out⟩
theorem Nk (hn:n < rows.length) (hK:aD dH prog 42 w bK nK (uw out)) (hf:f.fits) (hnm:rows[n].e.name.size≤maxLen) (hex:eX w SN rows) (hre:rows.length≤1000) (hk:rows[n].e.kind=2) :
  Calls prog 100 #[.pointer (some ⟨D,0,none⟩),.slice SN rows.length capE,.int .i64 (n:Int),.agg #[.string f.a,.string f.b,.string f.r,.string f.c,.string f.d],.map (some bK)] w fun e w'=>e=.returned (.bool (aO out ⟨f.a,f.b,rows[n].e.name,f.c,f.d⟩))∧Below w.heap.size w w':=by
 obtain ⟨b,off,SL,⟨t0,t1,t2,t3,t4⟩,hbl,hok⟩:=eX.at0 hex hn;obtain ⟨W0,hW0⟩:∃ W0,W0=F5 w D (.slice SN rows.length capE) f bK rows[n]:=⟨_,rfl⟩;have HB0:Hid (Below w.heap.size w W0):=by show Below _ _ _; rw [hW0]; exact kr _ _ _ _ _ _
 have Ul:Hid (NdB W0 w.heap.size D (.slice SN rows.length capE) f bK rows[n]):=by show NdB _ _ _ _ _ _ _; rw [hW0]; exact ku _ _ _ _ _ _
 have hk1:(rows[n].e.kind == 1)=false:=by rw [hk]; rfl
 have hk2:(rows[n].e.kind == 2)=true:=by rw [hk]; rfl
 have Va:b < w.heap.size + 1:=by omega
 have YP:b < w.heap.size + 1 + 1:=by omega
 have WN:b < w.heap.size + 1 + 1 + 1:=by omega
 have hn1:=bn n;have hn2:(n:Int) < (rows.length:Int):=by omega
 unfold F5 wu at hW0;have HC:=ag (rU bK nK out ⟨f.a,f.b,rows[n].e.name,f.c,f.d⟩ W0 ⟨hf.1,hf.2.1,hnm,hf.2.2.2.1,hf.2.2.2.2⟩ (hK.below HB0.out));clear hK hex hk hok hf;subst SL;go_enter func100,ntmps100;go_wp2_with fail;rw [← hW0];clear hW0 t0 t1 t2 t3 t4;refine (HC.out).mono ?_;rintro e w1 ⟨rfl,hb1⟩;have HB1:=ag (HB0.out.trans (hb1.mono HB0.out.size));clear hb1;go_wp2;go_ret;exact ⟨rfl,HB1.out⟩
theorem Kv (hn:n < rows.length) (hD:DatA w rs D br bp bt n1 nr Mr Er (aW ts) xo xu np Mp vo vu) (hK:aD dH prog 42 w bK nK (uw out)) (hf:f.fits) (XI:rows[n].e.over.size≤maxLen∧rows[n].e.name.size≤maxLen) (hts:∀ t ∈ ts,t.fits) (htl:ts.length≤1000) (hex:eX w SN rows) (hre:rows.length≤1000) (hk:rows[n].e.kind=3) :
  Calls prog 100 #[.pointer (some ⟨D,0,none⟩),.slice SN rows.length capE,.int .i64 (n:Int),.agg #[.string f.a,.string f.b,.string f.r,.string f.c,.string f.d],.map (some bK)] w fun e w'=>e=.returned (.bool (fG ts out rows[n].e.over rows[n].e.name f))∧Below w.heap.size w w':=by
 obtain ⟨b,off,SL,⟨t0,t1,t2,t3,t4⟩,hbl,hok⟩:=eX.at0 hex hn;obtain ⟨W0,hW0⟩:∃ W0,W0=F5 w D (.slice SN rows.length capE) f bK rows[n]:=⟨_,rfl⟩;have HB0:Hid (Below w.heap.size w W0):=by show Below _ _ _; rw [hW0]; exact kr _ _ _ _ _ _
 have Ul:Hid (NdB W0 w.heap.size D (.slice SN rows.length capE) f bK rows[n]):=by show NdB _ _ _ _ _ _ _; rw [hW0]; exact ku _ _ _ _ _ _
 have hk1:(rows[n].e.kind == 1)=false:=by rw [hk]; rfl
 have hk2:(rows[n].e.kind == 2)=false:=by rw [hk]; rfl
 have hk3:(rows[n].e.kind == 3)=true:=by rw [hk]; rfl
 have Va:b < w.heap.size + 1:=by omega
 have YP:b < w.heap.size + 1 + 1:=by omega
 have WN:b < w.heap.size + 1 + 1 + 1:=by omega
 have hn1:=bn n;have hn2:(n:Int) < (rows.length:Int):=by omega
 unfold F5 wu at hW0;have HC:=ag (zV (hD.below HB0.out) (hK.below HB0.out) rows[n] XI hf hts htl);clear hD hK hts hex hk hok XI hf;subst SL;go_enter func100,ntmps100;go_wp2_with fail;rw [← hW0];clear hW0 t0 t1 t2 t3 t4;refine (HC.out).mono ?_;rintro e w1 ⟨rfl,hb1⟩;have HB1:=ag (HB0.out.trans (hb1.mono HB0.out.size));clear hb1;go_wp2;go_ret;exact ⟨rfl,HB1.out⟩
theorem H6 (hn:n < rows.length) (H:Int→Bool) (hkl:rows[n].e.kids.length≤1000) (Ww:∀ i ∈ rows[n].e.kids,CX D (.slice SN rows.length capE) f bK w i (H i)) (hex:eX w SN rows) (hre:rows.length≤1000) (hk:rows[n].e.kind=4) :
  Calls prog 100 #[.pointer (some ⟨D,0,none⟩),.slice SN rows.length capE,.int .i64 (n:Int),.agg #[.string f.a,.string f.b,.string f.r,.string f.c,.string f.d],.map (some bK)] w fun e w'=>e=.returned (.bool (rows[n].e.kids.any H))∧Below w.heap.size w w':=by
 obtain ⟨b,off,SL,⟨t0,t1,t2,t3,t4⟩,hbl,hok⟩:=eX.at0 hex hn;obtain ⟨W0,hW0⟩:∃ W0,W0=F5 w D (.slice SN rows.length capE) f bK rows[n]:=⟨_,rfl⟩;have HB0:Hid (Below w.heap.size w W0):=by show Below _ _ _; rw [hW0]; exact kr _ _ _ _ _ _
 have Ul:Hid (NdB W0 w.heap.size D (.slice SN rows.length capE) f bK rows[n]):=by show NdB _ _ _ _ _ _ _; rw [hW0]; exact ku _ _ _ _ _ _
 have hk1:(rows[n].e.kind == 1)=false:=by rw [hk]; rfl
 have hk2:(rows[n].e.kind == 2)=false:=by rw [hk]; rfl
 have hk3:(rows[n].e.kind == 3)=false:=by rw [hk]; rfl
 have hk4:(rows[n].e.kind == 4)=true:=by rw [hk]; rfl
 have Va:b < w.heap.size + 1:=by omega
 have YP:b < w.heap.size + 1 + 1:=by omega
 have WN:b < w.heap.size + 1 + 1 + 1:=by omega
 have hn1:=bn n;have hn2:(n:Int) < (rows.length:Int):=by omega
 unfold F5 wu at hW0;have HC:=ag (qi 132 #[] #[.pointer (some ⟨w.heap.size,0,none⟩),.pointer (some ⟨w.heap.size + 1,0,none⟩),.pointer (some ⟨w.heap.size + 1 + 1,0,none⟩),.pointer (some ⟨w.heap.size + 1 + 1 + 1,0,none⟩)] H rows[n].adK rows[n].capK rows[n].e.kids W0 (by omega) (hok.2.below HB0.out) Qv (fun i hi w1 hb=>mU (Ww i hi) (HB0.out.trans (hb.mono HB0.out.size)) (Ul.out.below hb)));clear Ww hex hk hok;subst SL;go_enter func100,ntmps100;go_wp2_with fail;rw [← hW0];clear hW0 t0 t1 t2 t3 t4;refine (HC.out).mono ?_;rintro e w1 ⟨rfl,hb1⟩;have HB1:=ag (HB0.out.trans (hb1.mono HB0.out.size));clear hb1;go_wp2;go_ret;exact ⟨rfl,HB1.out⟩
theorem Kw (hn:n < rows.length) (H:Int→Bool) (hkl:rows[n].e.kids.length≤1000) (Ww:∀ i ∈ rows[n].e.kids,CX D (.slice SN rows.length capE) f bK w i (H i)) (hex:eX w SN rows) (hre:rows.length≤1000) (hk:rows[n].e.kind=5) :
  Calls prog 100 #[.pointer (some ⟨D,0,none⟩),.slice SN rows.length capE,.int .i64 (n:Int),.agg #[.string f.a,.string f.b,.string f.r,.string f.c,.string f.d],.map (some bK)] w fun e w'=>e=.returned (.bool (rows[n].e.kids.all H))∧Below w.heap.size w w':=by
 obtain ⟨b,off,SL,⟨t0,t1,t2,t3,t4⟩,hbl,hok⟩:=eX.at0 hex hn;obtain ⟨W0,hW0⟩:∃ W0,W0=F5 w D (.slice SN rows.length capE) f bK rows[n]:=⟨_,rfl⟩;have HB0:Hid (Below w.heap.size w W0):=by show Below _ _ _; rw [hW0]; exact kr _ _ _ _ _ _
 have Ul:Hid (NdB W0 w.heap.size D (.slice SN rows.length capE) f bK rows[n]):=by show NdB _ _ _ _ _ _ _; rw [hW0]; exact ku _ _ _ _ _ _
 have hk1:(rows[n].e.kind == 1)=false:=by rw [hk]; rfl
 have hk2:(rows[n].e.kind == 2)=false:=by rw [hk]; rfl
 have hk3:(rows[n].e.kind == 3)=false:=by rw [hk]; rfl
 have hk4:(rows[n].e.kind == 4)=false:=by rw [hk]; rfl
 have hk5:(rows[n].e.kind == 5)=true:=by rw [hk]; rfl
 have Va:b < w.heap.size + 1:=by omega
 have YP:b < w.heap.size + 1 + 1:=by omega
 have WN:b < w.heap.size + 1 + 1 + 1:=by omega
 have hn1:=bn n;have hn2:(n:Int) < (rows.length:Int):=by omega
 unfold F5 wu at hW0;have HC:=ag (qi 133 #[] #[.pointer (some ⟨w.heap.size + 1 + 1 + 1 + 1 + 1,0,none⟩)] (fun i=>!H i) rows[n].adK rows[n].capK rows[n].e.kids W0 (by omega) (hok.2.below HB0.out) Qw (fun i hi w1 hb=>rY (Ww i hi) (HB0.out.trans (hb.mono HB0.out.size)) (Ul.out.below hb)));have Tm:Hid ((rows[n].e.kids.any fun i=>!H i)=!rows[n].e.kids.all H):=by show _=_; rw [List.not_all_eq_any_not]
 clear Ww hex hk hok;subst SL;go_enter func100,ntmps100;go_wp2_with fail;rw [← hW0];clear hW0 t0 t1 t2 t3 t4;refine (HC.out).mono ?_;rintro e w1 ⟨he,hb1⟩;rw [Tm.out] at he;subst he;have HB1:=ag (HB0.out.trans (hb1.mono HB0.out.size));clear hb1;go_wp2;go_ret;exact ⟨by simp,HB1.out⟩
end
open Go.Sort
section
variable {w:World} {rs:List TR} {D br bp bt bK nK:Nat} {n1:Int} {nr:Nat} {Mr:KL→Option Value} {Er:List (KL × RR)} {ts:List Tp} {xo xu:List Al} {np:Nat} {Mp:K3→Option Value} {vo vu:Value} {out:List Fc} {f:Fc} {SN:Option Addr} {capE:Nat} {rows:List ER} {n:Nat}
theorem Nl (hn:n < rows.length) (b0 b1:Bool) (hkl:rows[n].e.kids.length≤1000) (hk2l:2≤rows[n].e.kids.length) (hA:CX D (.slice SN rows.length capE) f bK w (rows[n].e.kids.getD 0 0) b0) (hB:CX D (.slice SN rows.length capE) f bK w (rows[n].e.kids.getD 1 0) b1) (hex:eX w SN rows) (hre:rows.length≤1000) (hk:rows[n].e.kind=6) :
  Calls prog 100 #[.pointer (some ⟨D,0,none⟩),.slice SN rows.length capE,.int .i64 (n:Int),.agg #[.string f.a,.string f.b,.string f.r,.string f.c,.string f.d],.map (some bK)] w fun e w'=>e=.returned (.bool (b0 && !b1))∧Below w.heap.size w w':=by
 obtain ⟨b,off,SL,⟨t0,t1,t2,t3,t4⟩,hbl,hok⟩:=eX.at0 hex hn;obtain ⟨W0,hW0⟩:∃ W0,W0=F5 w D (.slice SN rows.length capE) f bK rows[n]:=⟨_,rfl⟩;have HB0:Hid (Below w.heap.size w W0):=by show Below _ _ _; rw [hW0]; exact kr _ _ _ _ _ _
 have Ul:Hid (NdB W0 w.heap.size D (.slice SN rows.length capE) f bK rows[n]):=by show NdB _ _ _ _ _ _ _; rw [hW0]; exact ku _ _ _ _ _ _
 have hk1:(rows[n].e.kind == 1)=false:=by rw [hk]; rfl
 have hk2:(rows[n].e.kind == 2)=false:=by rw [hk]; rfl
 have hk3:(rows[n].e.kind == 3)=false:=by rw [hk]; rfl
 have hk4:(rows[n].e.kind == 4)=false:=by rw [hk]; rfl
 have hk5:(rows[n].e.kind == 5)=false:=by rw [hk]; rfl
 have Va:b < w.heap.size + 1:=by omega
 have YP:b < w.heap.size + 1 + 1:=by omega
 have WN:b < w.heap.size + 1 + 1 + 1:=by omega
 have hn1:=bn n;have hn2:(n:Int) < (rows.length:Int):=by omega
 unfold F5 wu at hW0;have h0k:0 < rows[n].e.kids.length:=by omega
 have YO:1 < rows[n].e.kids.length:=by omega
 obtain ⟨bJ,TW,Tz,z0,Wx⟩:=lF.at0 hok.2 h0k;have z1:w.cell? ⟨bJ,TW + 1,none⟩=some (.int .i64 rows[n].e.kids[1]):=by
  obtain ⟨b',off',UL,z1,-⟩:=lF.at0 hok.2 YO;rw [Tz] at UL; injection UL with e; injection e with e1 e2;rw [e1,e2]; exact z1
 obtain ⟨i0,hi0⟩:∃ i,i=rows[n].e.kids[0]:=⟨_,rfl⟩;obtain ⟨i1,hi1⟩:∃ i,i=rows[n].e.kids[1]:=⟨_,rfl⟩;have g0:rows[n].e.kids.getD 0 0=i0:=by rw [hi0,List.getD_eq_getElem?_getD,R8 h0k]; rfl
 have g1:rows[n].e.kids.getD 1 0=i1:=by rw [hi1,List.getD_eq_getElem?_getD,R8 YO]; rfl
 rw [g0] at hA;rw [g1] at hB;rw [← hi0,Nat.add_zero] at z0;rw [← hi1] at z1;obtain ⟨kl,hkl'⟩:∃ kl,kl=rows[n].e.kids.length:=⟨_,rfl⟩;obtain ⟨cK,hcK⟩:∃ c,c=rows[n].capK:=⟨_,rfl⟩;have hl0:(0:Int) < (kl:Int):=by omega
 have hl1:(1:Int) < (kl:Int):=by omega
 have h0k':0 < kl:=by omega
 have h1k':1 < kl:=by omega
 have HA:Hid (∀ w1,Below W0.heap.size W0 w1→_):=fun w1 hb=>mU hA (HB0.out.trans (hb.mono HB0.out.size)) (Ul.out.below hb);have Ud:Hid (∀ w1,Below W0.heap.size W0 w1→_):=fun w1 hb=>rY hB (HB0.out.trans (hb.mono HB0.out.size)) (Ul.out.below hb);have HZ:Hid (W0.cell? ⟨bJ,TW,none⟩=some (.int .i64 i0)∧W0.cell? ⟨bJ,TW + 1,none⟩=some (.int .i64 i1)∧bJ < W0.heap.size):=⟨(HB0.out.cell (p:=⟨bJ,TW,none⟩) Wx).trans z0,(HB0.out.cell (p:=⟨bJ,TW + 1,none⟩) Wx).trans z1,RZ Wx HB0.out.size⟩;have HX4:Hid (W0.cell? ⟨w.heap.size + 1 + 1 + 1 + 1,4,none⟩=some (.slice (some ⟨bJ,TW,none⟩) kl cK)):=by show _=_; rw [Ul.out.x4,Tz,← hkl',← hcK]
 have HV5:Hid (W0.cell? ⟨w.heap.size + 1 + 1 + 1 + 1 + 1,0,none⟩=some (.func (Fn.func 132) #[] #[.pointer (some ⟨w.heap.size,0,none⟩),.pointer (some ⟨w.heap.size + 1,0,none⟩),.pointer (some ⟨w.heap.size + 1 + 1,0,none⟩),.pointer (some ⟨w.heap.size + 1 + 1 + 1,0,none⟩)])):=Ul.out.v;clear hA hB hex hk hok z0 z1 Tz h0k YO g0 g1 hi0 hi1;subst SL;go_enter func100,ntmps100;go_wp2_with fail;rw [← hW0];clear hW0 t0 t1 t2 t3 t4;clear hk1 hk2 hk3 hk4 hk5 hkl' hcK;have HAA:Hid (∀ d os,Calls prog 132 #[.int .i64 i0,.pointer (some ⟨w.heap.size,0,none⟩),.pointer (some ⟨w.heap.size + 1,0,none⟩),.pointer (some ⟨w.heap.size + 1 + 1,0,none⟩),.pointer (some ⟨w.heap.size + 1 + 1 + 1,0,none⟩)] (grow (redrawn W0 d) os) fun e w''=>e=.returned (.bool b0)∧∃ p:Regrown,w''=grow (redrawn W0 p.d) p.os):=by
  refine cz fun W' hb=>?_;exact HA.out _ hb
 have HBQ:Hid (∀ d os,Calls prog 133 #[.int .i64 i1,.pointer (some ⟨w.heap.size + 1 + 1 + 1 + 1 + 1,0,none⟩)] (grow (redrawn W0 d) os) fun e w''=>e=.returned (.bool (!b1))∧∃ p:Regrown,w''=grow (redrawn W0 p.d) p.os):=by
  refine cz fun W' hb=>?_;exact Ud.out _ hb
 have x4:=cell_regrown HX4.out;have v5:=cell_regrown HV5.out;have z0:=cell_regrown HZ.out.1;have z1:=cell_regrown HZ.out.2.1;clear HA Ud Ul;cases b0 with
 | true =>
  refine wp_region_quiet_below (by kernel_rfl) (by kernel_rfl) ?_
  repeat (go_big_quiet_step (first | exact HAA.out _ _ | exact HBQ.out _ _))
  refine wpQuiet_nil ?_;rintro _ ⟨⟨dq,osq⟩,rfl⟩;go_wp2;go_ret;exact ⟨rfl,HB0.out.trans ((below_regrown W0 dq osq).mono HB0.out.size)⟩
 | false =>
  refine wp_region_quiet_below (by kernel_rfl) (by kernel_rfl) ?_
  repeat (go_big_quiet_step (first | exact HAA.out _ _ | exact HBQ.out _ _))
  refine wpQuiet_nil ?_;rintro _ ⟨⟨dq,osq⟩,rfl⟩;go_wp2;go_ret;exact ⟨rfl,HB0.out.trans ((below_regrown W0 dq osq).mono HB0.out.size)⟩
end
theorem Kz (ng:Bool) (xs:List Al):bY ng xs=(dD xs).map fun a=>(⟨a.t,a.s,ng⟩:Dp):=by
 induction xs with
 | nil=>rfl
 | cons a xs ih=>simp only [bY,dD]; split <;> simp [ih]
theorem Br (ts:List Ty) (typ:ByteArray) (ng:Bool) (e:Ex) (hn:az e=true) (hd:e.kind=3→bi (ax ts typ e.over)=true):bY ng e.allow ++ jP ts typ ng e=(gW ts typ e).map fun a=>(⟨a.t,a.s,ng⟩:Dp):=by
 by_cases h1:e.kind=1
 ·unfold jP gW;rw [if_neg (by omega),if_neg (by omega),if_pos h1,List.append_nil,Kz]
 ·rw [qL hn h1];unfold jP gW;rw [if_neg h1];by_cases h2:e.kind=2
  ·rw [if_pos h2,if_pos h2]; rfl
  ·rw [if_neg h2,if_neg h2];by_cases h3:e.kind=3
   ·rw [if_pos h3,if_pos h3];unfold fB;rw [if_pos (hd h3),List.map_map];rfl
   ·rw [if_neg h3,if_neg h3]; rfl
theorem Bt {ts:List Ty} {typ:ByteArray} {es:List Ex} {d:Dp} {i:Nat} (hd:d ∈ fU ts typ es i):∀ {k:Nat},i < k→d ∈ aK ts typ es k
 | 0,h=>by omega
 | k + 1,h=>by
  simp only [aK];by_cases e:i=k
  ·subst e; exact Sd.2 (.inr hd)
  ·exact Sd.2 (.inl (Bt hd (by omega)))
theorem yR {ts:List Ty} {t r:ByteArray} {es:List Ex} {x:Ky × St}:∀ {k:Nat},x ∈ relE ts t r es k ↔ ∃ i,i < k∧∃ e,es[i]?=some e∧x ∈ yF ts t r ((cu es).getD i false) e
 | 0=>by simp [relE]
 | k + 1=>by
  simp only [relE,Sd];rw [yR];constructor
  ·rintro (⟨i,hi,h⟩ | h)
   ·exact ⟨i,by omega,h⟩
   ·cases e:es[k]? with
    | none=>rw [e] at h; cases h
    | some y=>rw [e] at h; exact ⟨k,by omega,y,e,h⟩
  ·rintro ⟨i,hi,e,he,h⟩;by_cases ek:i=k
   ·subst ek; right; rw [he]; exact h
   ·exact .inl ⟨i,by omega,e,he,h⟩
theorem mV {rs:List TR} (h:aV (ae rs)=true) {t:TR} (ht:t ∈ rs) {q:RR} (hq:q ∈ t.rows):dX (ae rs) t.name q.name=some (ah q.rows):=by
 have hT:=mM h;have hs:=qg (M:=fun _=>none) (rs:=rs) (k:=(t.name,q.name)) (.inr ⟨t,ht,q,hq,rfl⟩);obtain ⟨v,hv⟩:=Option.isSome_iff_exists.1 hs;obtain ⟨t',ht',q',hq',e,-,e2,-⟩:=hT.yes _ v hv;injection e with e3 e4;have h1:t=t':=EH h ht ht' e3;subst h1;obtain ⟨i,hi,rfl⟩:=List.mem_iff_getElem.1 ht;have h2:q=q':=EJ (j6 h i hi).2.2 hq hq' e4;subst h2;exact e2
theorem gp {es:List Ex} (h:aU es=true):∀ e ∈ es,az e=true:=by
 simp only [aU,R7] at h;exact Sg.1 h.1.1.1.2
theorem Fa (t r:ByteArray) (ng:Bool):stepOf ⟨t,r,ng⟩=vI ng:=by cases ng <;> rfl
theorem Ph {rs:List TR} (h:aV (ae rs)=true) (hr:gH (ae rs)=true):Edge (ae rs) (iG (ae rs) rs):=by
 have UN:∀ t ∈ rs,∀ q ∈ t.rows,∀ e ∈ ah q.rows,az e=true∧(e.kind=3→bi (ax (ae rs) t.name e.over)=true):=by
  intro t ht q hq e he;have h1:=((bH h).2.2 t ht q hq).1;refine ⟨gp h1 e he,fun h3=>?_⟩;unfold gH at hr;rw [Sg] at hr;have h2:=hr t.p (List.mem_map_of_mem ht);unfold om at h2;rw [Sg] at h2;have h4:aN (ae rs) t.name (ah q.rows)=true:=h2 q.p (List.mem_map_of_mem hq);have h5:=(AA h4 e he).2;unfold jV at h5;rw [if_neg (by omega),if_pos h3,R7] at h5;exact h5.1
 intro on t0 r0 s;constructor
 ·intro hm;unfold iG iE at hm;rw [Sk] at hm;obtain ⟨t,ht,hm⟩:=hm;rw [Sk] at hm;obtain ⟨q,hq,hm⟩:=hm;obtain ⟨i,hi,e,he,hm⟩:=yR.1 hm;unfold yF at hm;obtain ⟨a,ha,e1⟩:=Sa.1 hm;injection e1 with e2 e3;injection e3 with e4 e5 e6;subst e4; subst e5;refine ⟨oo.2 ⟨t.p,List.mem_map_of_mem ht,q.p,List.mem_map_of_mem hq,rfl⟩,⟨a.t,a.s,(cu (ah q.rows)).getD i false⟩,?_,e2,by rw [Fa]; exact e6⟩;unfold gQ nH;have ero:ax (ae rs) t.name q.name=ah q.rows:=by unfold ax; rw [mV h ht hq]; rfl
  simp only [ero];have hi2:i < (ah q.rows).length:=(List.getElem?_eq_some_iff.1 he).1;refine Bt (i:=i) ?_ hi2;unfold fU;rw [he];obtain ⟨n1,n2⟩:=UN t ht q hq e (List.mem_of_getElem? he);simp only;rw [Br _ _ _ _ n1 n2];exact List.mem_map_of_mem (f:=fun a:Al=>(⟨a.t,a.s,(cu (ah q.rows)).getD i false⟩:Dp)) ha
 ·rintro ⟨hk,d,hd,e1,e2⟩;obtain ⟨t',ht',r',hr',e3⟩:=oo.1 hk;obtain ⟨t,ht,rfl⟩:=Sa.1 ht';obtain ⟨q,hq,rfl⟩:=Sa.1 hr';injection e3 with e4 e5;subst e4; subst e5;unfold gQ nH at hd;have ero:ax (ae rs) t.p.name q.p.name=ah q.rows:=by
   have:=mV h ht hq;show ax (ae rs) t.name q.name=_;unfold ax; rw [this]; rfl
  simp only [ero] at hd;obtain ⟨i,hi,hd⟩:=qC hd;unfold fU at hd;split at hd
  ·cases hd
  ·rename_i e he;obtain ⟨n1,n2⟩:=UN t ht q hq e (List.mem_of_getElem? he);have hdn:bY ((cu (ah q.rows)).getD i false) e.allow ++ jP (ae rs) t.p.name ((cu (ah q.rows)).getD i false) e=_:=Br (ae rs) t.name _ e n1 n2;rw [hdn] at hd;obtain ⟨a,ha,rfl⟩:=Sa.1 hd;unfold iG iE;rw [Sk];refine ⟨t,ht,?_⟩;rw [Sk];refine ⟨q,hq,yR.2 ⟨i,by rw [aJ] at hi; exact hi,e,he,?_⟩⟩;unfold yF;rw [Sa];refine ⟨a,ha,?_⟩;rw [← e1,← e2,Fa];rfl
theorem Nn {rs:List TR} (h:aV (ae rs)=true):∀ r ∈ rs,∀ q ∈ r.rows,∀ e ∈ q.rows,e.e.allow.length≤6:=by
 intro r hr q hq e he;have h1:=gp ((bH h).2.2 r hr q hq).1 e.e (by unfold ah; exact List.mem_map_of_mem he);by_cases h2:e.e.kind=1
 ·unfold az at h1;rw [if_pos h2] at h1;simp only [R7,fV,Sj] at h1;exact h1.1.1.1.1.2
 ·rw [qL h1 h2]; simp
theorem oV {α β:Type} (f:α→List β) (B:Nat):∀ (xs:List α),(∀ x ∈ xs,(f x).length≤B)→(xs.flatMap f).length≤xs.length * B
 | [],_=>by simp
 | x::xs,h=>by
  rw [List.flatMap_cons,R9,List.length_cons,Nat.succ_mul];have h1:=h x (by simp);have h2:=oV f B xs fun q hq=>h q (by simp [hq]);omega
theorem KA (rs:List TR) (h6:∀ r ∈ rs,r.rows.length≤6) (hex:∀ r ∈ rs,∀ q ∈ r.rows,aU (ah q.rows)=true∧q.rows.length≤15∧∀ e ∈ q.rows,dU q.rows.length e.e.kids) (h66:∀ r ∈ rs,∀ q ∈ r.rows,∀ e ∈ q.rows,e.e.allow.length≤6) (hl:rs.length≤6:=by omega):(iG (ae rs) rs).length≤100000:=by
 have h1:∀ t ∈ rs,(iE (ae rs) t.name t.rows).length≤540:=by
  intro t ht;have h2:∀ q ∈ t.rows,(relE (ae rs) t.name q.name (ah q.rows) q.rows.length).length≤90:=by
   intro q hq;have h3:∀ k,k≤q.rows.length→(relE (ae rs) t.name q.name (ah q.rows) k).length≤k * 6:=by
    intro k
    induction k with
    | zero=>intro _; simp [relE]
    | succ k ih =>
     intro hk;rw [tX _ _ _ _ _ (by omega) _ rfl,R9];have h4:=ih (by omega);have h5:(yF (ae rs) t.name q.name ((cu (ah q.rows)).getD k false) q.rows[k].e).length≤6:=by
      unfold yF;rw [Sv];exact tY rs h66 _ _ (h66 t ht q hq _ (RY (by omega)))
     omega
   have h4:=h3 q.rows.length (R4 _);have h5:=(hex t ht q hq).2.1;omega
  have h3:=oV (fun q:RR=>relE (ae rs) t.name q.name (ah q.rows) q.rows.length) 90 t.rows h2;have h4:=h6 t ht;unfold iE;omega
 have h2:=oV (fun t:TR=>iE (ae rs) t.name t.rows) 540 rs h1;unfold iG;omega
set_option linter.unusedSectionVars false
def jH (sts:List St) (xu:List Al) (n:Int) (o:Al) (k:Nat):List Fc:=((sts.take k).filter fun s=>s.typ.toList == o.t.toList && decide (s.n=n)).flatMap fun s=>iJ o s.rel xu
def Qx (sts:List St) (xu:List Al) (n:Int) (o:Al):List Fc:=jH sts xu n o sts.length
def pY (sts:List St) (xo xu:List Al) (n:Int) (i:Nat):List Fc:=(xo.take i).flatMap (Qx sts xu n)
theorem KC (sts:List St) (xu:List Al) (n:Int) (o:Al):jH sts xu n o 0=[]:=rfl
theorem Pi {sts:List St} {xu:List Al} {n:Int} {o:Al} {k:Nat} (h:k < sts.length) (hc:(sts[k].typ.toList == o.t.toList && decide (sts[k].n=n))=false):jH sts xu n o (k + 1)=jH sts xu n o k:=by
 unfold jH;rw [R5 h,SI,List.flatMap_append];simp [hc]
theorem Np {sts:List St} {xu:List Al} {n:Int} {o:Al} {k:Nat} (h:k < sts.length) (hc:(sts[k].typ.toList == o.t.toList && decide (sts[k].n=n))=true):jH sts xu n o (k + 1)=jH sts xu n o k ++ iJ o sts[k].rel xu:=by
 unfold jH;rw [R5 h,SI,List.flatMap_append];simp [hc]
theorem KD {sts:List St} {xo xu:List Al} {n:Int} {i:Nat} (h:i < xo.length):pY sts xo xu n (i + 1)=pY sts xo xu n i ++ jH sts xu n xo[i] sts.length:=by
 unfold pY;rw [R5 h,List.flatMap_append];simp [Qx]
theorem Nq {ts:List Ty} {sts:List St} (hk:gT sts=ai ts) (hn:(ai ts).Nodup) (xo xu:List Al) (n:Int):pY sts xo xu n xo.length=bR ts (eP sts) xo xu n:=by
 unfold pY bR;rw [Sc];congr 1
 funext o
 unfold Qx jH sZ;rw [Sc,O7 hk hn,List.flatMap_map];rfl
theorem KE (o:Al) (rel:ByteArray) {xu:List Al} {j:Nat} (h:j < xu.length):iJ o rel (xu.take (j + 1))=iJ o rel (xu.take j) ++ [⟨o.t,o.s,rel,xu[j].t,xu[j].s⟩]:=by
 unfold iJ;rw [R5 h,List.map_append]; rfl
theorem mW {e:Ex} (h:az e=true):e.kids.length≤5∧(e.kind=6→2≤e.kids.length):=by
 unfold az at h;by_cases k1:e.kind=1
 ·rw [if_pos k1] at h; simp only [R7,Sj] at h; exact ⟨by omega,fun h6=>by omega⟩
 by_cases k2:e.kind=2
 ·rw [if_neg k1,if_pos k2] at h; simp only [R7,Sj] at h; exact ⟨by omega,fun h6=>by omega⟩
 by_cases k3:e.kind=3
 ·rw [if_neg k1,if_neg k2,if_pos k3] at h; simp only [R7,Sj] at h; exact ⟨by omega,fun h6=>by omega⟩
 by_cases k4:e.kind=4 ∨ e.kind=5
 ·rw [if_neg k1,if_neg k2,if_neg k3,if_pos k4] at h; simp only [R7,Sj] at h; exact ⟨by omega,fun h6=>by omega⟩
 by_cases k6:e.kind=6
 ·rw [if_neg k1,if_neg k2,if_neg k3,if_neg k4,if_pos k6] at h; simp only [R7,Sj] at h; exact ⟨by omega,fun h6=>by omega⟩
 ·rw [if_neg k1,if_neg k2,if_neg k3,if_neg k4,if_neg k6] at h; cases h
theorem xe {rows:List ER} (h:aU (ah rows)=true):UM rows∧1≤rows.length:=by
 have hl:1≤rows.length∧rows.length≤15:=by
  unfold aU at h;simp only [R7,Sj,aJ] at h;exact ⟨h.1.1.1.1.1,h.1.1.1.1.2⟩
 have hlow:=Gi h;have hkl:∀ q ∈ rows,q.e.kids.length≤1000:=fun q hq=>by
  have:=(mW (gp h q.e (Sa.2 ⟨q,hq,rfl⟩))).1;omega
 refine ⟨⟨by omega,hkl,hlow,fun e he h6=>?_⟩,hl.1⟩;exact (mW (gp h e he)).2 h6
section
variable [DecidableEq Fc]
theorem pQ (H:List Fc→Fc→Bool) (qs:List Fc) (f:Fc) (out:List Fc):bP H (qs ++ [f]) out=dZ H (bP H qs out) f:=by rw [DI]; rfl
theorem rZ {H:List Fc→Fc→Bool} {out:List Fc} {f:Fc} (h:aO out f=true ∨ H out f=false):dZ H out f=out:=by
 unfold dZ;rw [if_pos];rcases h with h | h
 ·exact .inl (aX.1 h)
 ·exact .inr h
theorem Bu {H:List Fc→Fc→Bool} {out:List Fc} {f:Fc} (h1:aO out f=false) (h2:H out f=true):dZ H out f=out ++ [f]:=by
 unfold dZ;rw [if_neg];rintro (h | h)
 ·rw [aX.2 h] at h1; cases h1
 ·rw [h2] at h; cases h
theorem Fb (H:List Fc→Fc→Bool) (qs out:List Fc):out.length≤(bP H qs out).length:=by
 obtain ⟨n,e,-⟩:=jD (H:=H) qs out;rw [e,R9]; omega
theorem H7 {H:List Fc→Fc→Bool} {qs out:List Fc} (h:decide (out.length < (bP H qs out).length)=false):bP H qs out=out:=by
 obtain ⟨n,e,-⟩:=jD (H:=H) qs out;rw [e,R9,decide_eq_false_iff_not] at h;have:n=[]:=Si.1 (by omega);rw [e,this,List.append_nil]
end
theorem yS {e:Ex} (h:az e=true):(e.kind=2→e.name.size≤maxLen)∧(e.kind=3→e.over.size≤maxLen∧e.name.size≤maxLen)∧(e.kind=1 ∨ e.kind=2 ∨ e.kind=3 ∨ e.kind=4 ∨ e.kind=5 ∨ e.kind=6):=by
 unfold az at h;have hle:∀ s:ByteArray,aR s=true→s.size≤maxLen:=fun s hs=>by have:=(oq hs).2; unfold maxLen; omega
 by_cases k1:e.kind=1
 ·exact ⟨fun h2=>by omega,fun h3=>by omega,.inl k1⟩
 by_cases k2:e.kind=2
 ·rw [if_neg k1,if_pos k2] at h; simp only [R7] at h; exact ⟨fun _=>hle _ h.1.1.1,fun h3=>by omega,.inr (.inl k2)⟩
 by_cases k3:e.kind=3
 ·rw [if_neg k1,if_neg k2,if_pos k3] at h; simp only [R7] at h; exact ⟨fun h2=>by omega,fun _=>⟨hle _ h.1.1.1,hle _ h.1.1.2⟩,.inr (.inr (.inl k3))⟩
 refine ⟨fun h2=>absurd h2 k2,fun h3=>absurd h3 k3,?_⟩;by_cases k4:e.kind=4 ∨ e.kind=5
 ·rcases k4 with k4 | k4
  ·exact .inr (.inr (.inr (.inl k4)))
  ·exact .inr (.inr (.inr (.inr (.inl k4))))
 by_cases k6:e.kind=6
 ·exact .inr (.inr (.inr (.inr (.inr k6))))
 ·rw [if_neg k1,if_neg k2,if_neg k3,if_neg k4,if_neg k6] at h; cases h
section
variable {rs:List TR} {D br bp bt bK nK:Nat} {n1:Int} {nr:Nat} {Mr:KL→Option Value} {Er:List (KL × RR)} {ts:List Tp} {xo xu:List Al} {np:Nat} {Mp:K3→Option Value} {vo vu:Value} {out:List Fc} {f:Fc} {SN:Option Addr} {capE:Nat} {rows:List ER}
theorem lq (hN:UM rows) (hnb:∀ e ∈ ah rows,az e=true) (hf:f.fits) (hts:∀ t ∈ ts,t.fits) (htl:ts.length≤1000) :
  ∀ (k n:Nat) (w:World),n < k→n < rows.length→DatA w rs D br bp bt n1 nr Mr Er (aW ts) xo xu np Mp vo vu→aD dH prog 42 w bK nK (uw out)→eX w SN rows →
  Calls prog 100 #[.pointer (some ⟨D,0,none⟩),.slice SN rows.length capE,.int .i64 (n:Int),.agg #[.string f.a,.string f.b,.string f.r,.string f.c,.string f.d],.map (some bK)] w fun e w'=>e=.returned (.bool (cO ts (ah rows) out f k out n))∧Below w.heap.size w w'
 | 0,_,_,h,_,_,_,_=>absurd h (SE _)
 | k + 1,n,w,hk,hn,hD,hK,hex=>by
  have e:(ah rows)[n]?=some rows[n].e:=by simp [ah,hn]
  have TB:∀ i ∈ rows[n].e.kids,CX D (.slice SN rows.length capE) f bK w i (cO ts (ah rows) out f k out i.toNat):=fun i hi w1 hb1=>by
   have h1:=hN.kid hn hi;have h2:=lq hN hnb hf hts htl k i.toNat w1 (by omega) (by omega) (hD.below hb1) (hK.below hb1) (hex.below hb1);have e2:((i.toNat:Nat):Int)=i:=by omega
   rw [e2] at h2;exact h2
  have hm:rows[n] ∈ rows:=RY hn;have hme:rows[n].e ∈ ah rows:=Sa.2 ⟨_,hm,rfl⟩;obtain ⟨hn2,Vi,hkd⟩:=yS (hnb _ hme);unfold cO;rw [e];by_cases k1:rows[n].e.kind=1
  ·simp only [if_pos k1];exact Ku hn hD hK hf hts htl hex hN.len k1
  by_cases k2:rows[n].e.kind=2
  ·simp only [if_neg k1,if_pos k2];exact Nk hn hK hf (hn2 k2) hex hN.len k2
  by_cases k3:rows[n].e.kind=3
  ·simp only [if_neg k1,if_neg k2,if_pos k3];exact Kv hn hD hK hf (Vi k3) hts htl hex hN.len k3
  by_cases k4:rows[n].e.kind=4
  ·simp only [if_neg k1,if_neg k2,if_neg k3,if_pos k4];exact H6 hn (fun i=>cO ts (ah rows) out f k out i.toNat) (hN.kids _ hm) TB hex hN.len k4
  by_cases k5:rows[n].e.kind=5
  ·simp only [if_neg k1,if_neg k2,if_neg k3,if_neg k4,if_pos k5];exact Kw hn (fun i=>cO ts (ah rows) out f k out i.toNat) (hN.kids _ hm) TB hex hN.len k5
  have k6:rows[n].e.kind=6:=by omega
  simp only [if_neg k1,if_neg k2,if_neg k3,if_neg k4,if_neg k5,if_pos k6];have h2:=hN.two _ hme k6;have hg:∀ q,q < 2→rows[n].e.kids.getD q 0 ∈ rows[n].e.kids:=fun q hq=>by
   rw [List.getD_eq_getElem?_getD,R8 (by omega)];exact RY _
  exact Nl hn _ _ (hN.kids _ hm) h2 (TB _ (hg 0 (by omega))) (TB _ (hg 1 (by omega))) hex hN.len k6
theorem Jl {rs:List TR} (h:aV (ae rs)=true) {k:ByteArray × ByteArray} (hk:k ∈ ai (ae rs)):∃ t ∈ rs,∃ q ∈ t.rows,mJ rs k=some q.sl∧ah q.rows=ax (ae rs) k.1 k.2∧aU (ah q.rows)=true:=by
 have hk':=hk;unfold ai at hk;obtain ⟨T,hT,hk⟩:=Sk.1 hk;obtain ⟨t,ht,rfl⟩:=Sa.1 hT;unfold iB at hk;obtain ⟨r,hr,rfl⟩:=Sa.1 hk;obtain ⟨q,hq,rfl⟩:=Sa.1 hr;have hrel:=mV h ht hq;cases e:mJ rs (t.p.name,q.p.name) with
 | none =>
  have h1:=(mM h).no _ e;have h2:dX (ae rs) t.name q.name=none:=h1;rw [hrel] at h2; cases h2
 | some v =>
  obtain ⟨t',ht',q',hq',-,rfl,e1,-⟩:=(mM h).yes _ v e;refine ⟨t',ht',q',hq',rfl,?_,((bH h).2.2 t' ht' q' hq').1⟩;unfold ax; rw [e1]; rfl
theorem KF {w:World} {ad:Option Addr} (hD:DatA w rs D br bp bt n1 nr Mr Er (aW ts) xo xu np Mp vo vu) (hK:aD dH prog 42 w bK nK (uw out)) (hf:f.fits) (hts:∀ t ∈ ts,t.fits) (htl:ts.length≤1000) (hsh:aV (ae rs)=true) (hkey:(f.a,f.r) ∈ ai (ae rs)) (hs:jd w ad rs) :
  Calls prog 126 #[.pointer (some ⟨D,0,none⟩),.agg #[.string f.a,.string f.b,.string f.r,.string f.c,.string f.d],.map (some bK)] w fun e w'=>e=.returned (.bool (fH (ae rs) ts out f))∧Below w.heap.size w w':=by
 obtain ⟨t,Yb,q,hq,htab,hrx,hsp⟩:=Jl hsh hkey;obtain ⟨hN,hr1⟩:=xe hsp;have hnb:=gp hsp;have TD:lH rs q.ad q.rows:=.inr ⟨t,Yb,q,hq,rfl,rfl⟩;obtain ⟨kl,hkl⟩:=ik (f.a,f.r) hf.1 hf.2.2.1;obtain ⟨W0,hW0⟩:∃ W0,W0=w.alloc (.cells #[.string f.a,.string f.b,.string f.r,.string f.c,.string f.d] 42):=⟨_,rfl⟩;have HB0:=pu hW0;have c0:W0.cell? ⟨w.heap.size,0,none⟩=some (.string f.a):=by rw [hW0]; simp
 have c1:W0.cell? ⟨w.heap.size,1,none⟩=some (.string f.b):=by rw [hW0]; simp
 have c2:W0.cell? ⟨w.heap.size,2,none⟩=some (.string f.r):=by rw [hW0]; simp
 have c3:W0.cell? ⟨w.heap.size,3,none⟩=some (.string f.c):=by rw [hW0]; simp
 have c4:W0.cell? ⟨w.heap.size,4,none⟩=some (.string f.d):=by rw [hW0]; simp
 have d0:=HB0.out.cell (p:=⟨D,0,none⟩) hD.dat.lt |>.trans hD.dat.c0;obtain ⟨SN,U7⟩:∃ a,a=q.ad:=⟨_,rfl⟩;obtain ⟨capE,Wy⟩:∃ a,a=q.cap:=⟨_,rfl⟩;obtain ⟨rows,hrows⟩:∃ a,a=q.rows:=⟨_,rfl⟩;have hsl:q.sl=.slice SN rows.length capE:=by rw [U7,Wy,hrows]; rfl
 rw [← hrows] at hN hnb hr1 hrx;rw [← hrows,← U7] at TD;have hlk:∀ m,(Instr.lookup 124 (.map (some bt)) (.agg #[.string f.a,.string f.r]) false).run prog (W0.drewN m)=.ok (.slice SN rows.length capE) (W0.drewN m):=fun m=>by
  have h:=((hD.tab.below HB0.out).below (below_drewN (R3 _ _) m)).look (t:=124) (e:=105) ib underlying124 (lV _) (x:=(f.a,f.r)) hkl;rw [htab,hsl] at h;exact h
 have WS:=hN.len;have hwr:IntKind.i64.wrap ((rows.length:Int) - 1)=((rows.length - 1:Nat):Int):=by rw [IntKind.wrap_i64]; omega
 have HC:Hid (∀ nq,Calls prog 100 #[.pointer (some ⟨D,0,none⟩),.slice SN rows.length capE,.int .i64 ((rows.length - 1:Nat):Int),.agg #[.string f.a,.string f.b,.string f.r,.string f.c,.string f.d],.map (some bK)] (W0.drewN nq) fun e w'=>e=.returned (.bool (fH (ae rs) ts out f))∧Below (W0.drewN nq).heap.size (W0.drewN nq) w'):=fun nq=>by
  have hb:Below w.heap.size w (W0.drewN nq):=below_drewN HB0.out nq;have h:=lq (capE:=capE) hN hnb hf hts htl rows.length (rows.length - 1) (W0.drewN nq) (by omega) (by omega) (hD.below hb) (hK.below hb) (TD.sl (hs.below hb));unfold fH;rw [← hrx,aJ];exact h
 clear hD hK hs hsp hkl htab hsl hN hnb hf U7 Wy hrows TD hrx hkey;go_enter func126,ntmps126;go_wp2_with fail;rw [← hW0];clear hW0;go_quiet (fail);clear d0 hlk;go_wp2_with fail;refine (HC.out _).mono ?_;rintro e w1 ⟨rfl,hb1⟩;have HB1:=ag ((below_drewN HB0.out _).trans (hb1.mono HB0.out.size));clear hb1 c0 c1 c2 c3 c4;go_wp2;go_ret;exact ⟨rfl,HB1.out⟩
end
end Go.Proofs.YtdaoiceeidoehaaGreat
