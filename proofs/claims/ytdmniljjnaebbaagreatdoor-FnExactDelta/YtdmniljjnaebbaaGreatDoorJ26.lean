/- The program's question of a node: told by tuples, a name, over a relation, one of its kids, all of them. -/
import Derived.Test.YtdmniljjnaebbaaGreatDoorSq
import Derived.Test.YtdmniljjnaebbaaGreatDoorJ24
import Derived.Laws.EntriesVeiled
open Go.Proofs.Tryz
set_option maxHeartbeats 80000000
namespace Go.Proofs.YtdmniljjnaebbaaGreatDoor
set_option linter.unusedVariables false
set_option maxRecDepth 100000
open Go.ChangeShapes Go.WideShapes Go.ChangeAt Go.RowKit Go.Maps
open Pl
section
variable {w:World} {rs:List TR} {D br bp bt bK nK:Nat} {n1:Int} {nr:Nat} {Mr:KL→Option Value} {Er:List (KL × RR)} {ts:List Tp} {xo xu:List Al} {np:Nat} {Mp:K3→Option Value} {vo vu:Value} {out:List Fc} {f:Fc} {Tm:Option Addr} {capE:Nat} {rows:List ER} {n:Nat}
theorem KX (hn:n < rows.length) (hD:DatA w rs D br bp bt n1 nr Mr Er (dm ts) xo xu np Mp vo vu) (hK:aJ jJ prog 63 w bK nK (vS out)) (hf:f.fits) (hts:∀ t ∈ ts,t.fits) (htl:ts.length≤1000) (hex:fQ w Tm rows) (hre:rows.length≤1000) (hk:rows[n].e.kind=1) :
  Calls prog 175 #[.pointer (some ⟨D,0,none⟩),.slice Tm rows.length capE,.int .i64 (n:Int),.agg #[.string f.a,.string f.b,.string f.r,.string f.c,.string f.d],.map (some bK)] w fun e w'=>e=.returned (.bool (eu ts out f))∧aa w w':=by
 obtain ⟨b,off,Tq,⟨t0,t1,t2,t3,t4⟩,hbl,hok⟩:=fQ.at0 hex hn;obtain ⟨W0,hW0⟩:∃ W0,W0=Gc w D (.slice Tm rows.length capE) f bK rows[n]:=⟨_,rfl⟩;have HB0:Hid (aa w W0):=by show Below _ _ _; rw [hW0]; exact ku _ _ _ _ _ _
 have Vd:Hid (NdB W0 w.heap.size D (.slice Tm rows.length capE) f bK rows[n]):=by show NdB _ _ _ _ _ _ _; rw [hW0]; exact kw _ _ _ _ _ _
 have hk1:(rows[n].e.kind == 1)=true:=by rw [hk]; rfl
 have YV:b < w.heap.size + 1:=by omega
 have VE:b < w.heap.size + 1 + 1:=by omega
 have UD:b < w.heap.size + 1 + 1 + 1:=by omega
 have hn1:=bH n;have hn2:(n:Int) < (rows.length:Int):=by omega
 unfold Gc wM at hW0;have HC:=aj (Am (hD.below HB0.out) (hK.below HB0.out) hf hts htl);clear hD hK hts hex hk hok;subst Tq;go_enter func175,ntmps175;go_wp2_with fail;rw [← hW0];clear hW0 t0 t1 t2 t3 t4;refine (HC.out).mono ?_;rintro e w1 ⟨rfl,hb1⟩;have HB1:=aj (HB0.out.trans (hb1.mono HB0.out.size));clear hb1;go_wp2;go_ret;exact ⟨rfl,HB1.out⟩
theorem NH (hn:n < rows.length) (hK:aJ jJ prog 63 w bK nK (vS out)) (hf:f.fits) (hnm:rows[n].e.name.size≤maxLen) (hex:fQ w Tm rows) (hre:rows.length≤1000) (hk:rows[n].e.kind=2) :
  Calls prog 175 #[.pointer (some ⟨D,0,none⟩),.slice Tm rows.length capE,.int .i64 (n:Int),.agg #[.string f.a,.string f.b,.string f.r,.string f.c,.string f.d],.map (some bK)] w fun e w'=>e=.returned (.bool (dG out ⟨f.a,f.b,rows[n].e.name,f.c,f.d⟩))∧aa w w':=by
 obtain ⟨b,off,Tq,⟨t0,t1,t2,t3,t4⟩,hbl,hok⟩:=fQ.at0 hex hn;obtain ⟨W0,hW0⟩:∃ W0,W0=Gc w D (.slice Tm rows.length capE) f bK rows[n]:=⟨_,rfl⟩;have HB0:Hid (aa w W0):=by show Below _ _ _; rw [hW0]; exact ku _ _ _ _ _ _
 have Vd:Hid (NdB W0 w.heap.size D (.slice Tm rows.length capE) f bK rows[n]):=by show NdB _ _ _ _ _ _ _; rw [hW0]; exact kw _ _ _ _ _ _
 have hk1:(rows[n].e.kind == 1)=false:=by rw [hk]; rfl
 have hk2:(rows[n].e.kind == 2)=true:=by rw [hk]; rfl
 have YV:b < w.heap.size + 1:=by omega
 have VE:b < w.heap.size + 1 + 1:=by omega
 have UD:b < w.heap.size + 1 + 1 + 1:=by omega
 have hn1:=bH n;have hn2:(n:Int) < (rows.length:Int):=by omega
 unfold Gc wM at hW0;have HC:=aj (pE bK nK out ⟨f.a,f.b,rows[n].e.name,f.c,f.d⟩ W0 ⟨hf.1,hf.2.1,hnm,hf.2.2.2.1,hf.2.2.2.2⟩ (hK.below HB0.out));clear hK hex hk hok hf;subst Tq;go_enter func175,ntmps175;go_wp2_with fail;rw [← hW0];clear hW0 t0 t1 t2 t3 t4;refine (HC.out).mono ?_;rintro e w1 ⟨rfl,hb1⟩;have HB1:=aj (HB0.out.trans (hb1.mono HB0.out.size));clear hb1;go_wp2;go_ret;exact ⟨rfl,HB1.out⟩
theorem KY (hn:n < rows.length) (hD:DatA w rs D br bp bt n1 nr Mr Er (dm ts) xo xu np Mp vo vu) (hK:aJ jJ prog 63 w bK nK (vS out)) (hf:f.fits) (Xw:rows[n].e.over.size≤maxLen∧rows[n].e.name.size≤maxLen) (hts:∀ t ∈ ts,t.fits) (htl:ts.length≤1000) (hex:fQ w Tm rows) (hre:rows.length≤1000) (hk:rows[n].e.kind=3) :
  Calls prog 175 #[.pointer (some ⟨D,0,none⟩),.slice Tm rows.length capE,.int .i64 (n:Int),.agg #[.string f.a,.string f.b,.string f.r,.string f.c,.string f.d],.map (some bK)] w fun e w'=>e=.returned (.bool (fI ts out rows[n].e.over rows[n].e.name f))∧aa w w':=by
 obtain ⟨b,off,Tq,⟨t0,t1,t2,t3,t4⟩,hbl,hok⟩:=fQ.at0 hex hn;obtain ⟨W0,hW0⟩:∃ W0,W0=Gc w D (.slice Tm rows.length capE) f bK rows[n]:=⟨_,rfl⟩;have HB0:Hid (aa w W0):=by show Below _ _ _; rw [hW0]; exact ku _ _ _ _ _ _
 have Vd:Hid (NdB W0 w.heap.size D (.slice Tm rows.length capE) f bK rows[n]):=by show NdB _ _ _ _ _ _ _; rw [hW0]; exact kw _ _ _ _ _ _
 have hk1:(rows[n].e.kind == 1)=false:=by rw [hk]; rfl
 have hk2:(rows[n].e.kind == 2)=false:=by rw [hk]; rfl
 have hk3:(rows[n].e.kind == 3)=true:=by rw [hk]; rfl
 have YV:b < w.heap.size + 1:=by omega
 have VE:b < w.heap.size + 1 + 1:=by omega
 have UD:b < w.heap.size + 1 + 1 + 1:=by omega
 have hn1:=bH n;have hn2:(n:Int) < (rows.length:Int):=by omega
 unfold Gc wM at hW0;have HC:=aj (Ao (hD.below HB0.out) (hK.below HB0.out) rows[n] Xw hf hts htl);clear hD hK hts hex hk hok Xw hf;subst Tq;go_enter func175,ntmps175;go_wp2_with fail;rw [← hW0];clear hW0 t0 t1 t2 t3 t4;refine (HC.out).mono ?_;rintro e w1 ⟨rfl,hb1⟩;have HB1:=aj (HB0.out.trans (hb1.mono HB0.out.size));clear hb1;go_wp2;go_ret;exact ⟨rfl,HB1.out⟩
theorem Iz (hn:n < rows.length) (H:Int→Bool) (hkl:rows[n].e.kids.length≤1000) (YU:∀ i ∈ rows[n].e.kids,Iq D (.slice Tm rows.length capE) f bK w i (H i)) (hex:fQ w Tm rows) (hre:rows.length≤1000) (hk:rows[n].e.kind=4) :
  Calls prog 175 #[.pointer (some ⟨D,0,none⟩),.slice Tm rows.length capE,.int .i64 (n:Int),.agg #[.string f.a,.string f.b,.string f.r,.string f.c,.string f.d],.map (some bK)] w fun e w'=>e=.returned (.bool (rows[n].e.kids.any H))∧aa w w':=by
 obtain ⟨b,off,Tq,⟨t0,t1,t2,t3,t4⟩,hbl,hok⟩:=fQ.at0 hex hn;obtain ⟨W0,hW0⟩:∃ W0,W0=Gc w D (.slice Tm rows.length capE) f bK rows[n]:=⟨_,rfl⟩;have HB0:Hid (aa w W0):=by show Below _ _ _; rw [hW0]; exact ku _ _ _ _ _ _
 have Vd:Hid (NdB W0 w.heap.size D (.slice Tm rows.length capE) f bK rows[n]):=by show NdB _ _ _ _ _ _ _; rw [hW0]; exact kw _ _ _ _ _ _
 have hk1:(rows[n].e.kind == 1)=false:=by rw [hk]; rfl
 have hk2:(rows[n].e.kind == 2)=false:=by rw [hk]; rfl
 have hk3:(rows[n].e.kind == 3)=false:=by rw [hk]; rfl
 have hk4:(rows[n].e.kind == 4)=true:=by rw [hk]; rfl
 have YV:b < w.heap.size + 1:=by omega
 have VE:b < w.heap.size + 1 + 1:=by omega
 have UD:b < w.heap.size + 1 + 1 + 1:=by omega
 have hn1:=bH n;have hn2:(n:Int) < (rows.length:Int):=by omega
 unfold Gc wM at hW0;have HC:=aj (qC 199 #[] #[.pointer (some ⟨w.heap.size,0,none⟩),.pointer (some ⟨w.heap.size + 1,0,none⟩),.pointer (some ⟨w.heap.size + 1 + 1,0,none⟩),.pointer (some ⟨w.heap.size + 1 + 1 + 1,0,none⟩)] H rows[n].adK rows[n].capK rows[n].e.kids W0 (by omega) (hok.2.below HB0.out) QP (fun i hi w1 hb=>nX (YU i hi) (HB0.out.trans (hb.mono HB0.out.size)) (Vd.out.below hb)));clear YU hex hk hok;subst Tq;go_enter func175,ntmps175;go_wp2_with fail;rw [← hW0];clear hW0 t0 t1 t2 t3 t4;refine (HC.out).mono ?_;rintro e w1 ⟨rfl,hb1⟩;have HB1:=aj (HB0.out.trans (hb1.mono HB0.out.size));clear hb1;go_wp2;go_ret;exact ⟨rfl,HB1.out⟩
theorem KZ (hn:n < rows.length) (H:Int→Bool) (hkl:rows[n].e.kids.length≤1000) (YU:∀ i ∈ rows[n].e.kids,Iq D (.slice Tm rows.length capE) f bK w i (H i)) (hex:fQ w Tm rows) (hre:rows.length≤1000) (hk:rows[n].e.kind=5) :
  Calls prog 175 #[.pointer (some ⟨D,0,none⟩),.slice Tm rows.length capE,.int .i64 (n:Int),.agg #[.string f.a,.string f.b,.string f.r,.string f.c,.string f.d],.map (some bK)] w fun e w'=>e=.returned (.bool (rows[n].e.kids.all H))∧aa w w':=by
 obtain ⟨b,off,Tq,⟨t0,t1,t2,t3,t4⟩,hbl,hok⟩:=fQ.at0 hex hn;obtain ⟨W0,hW0⟩:∃ W0,W0=Gc w D (.slice Tm rows.length capE) f bK rows[n]:=⟨_,rfl⟩;have HB0:Hid (aa w W0):=by show Below _ _ _; rw [hW0]; exact ku _ _ _ _ _ _
 have Vd:Hid (NdB W0 w.heap.size D (.slice Tm rows.length capE) f bK rows[n]):=by show NdB _ _ _ _ _ _ _; rw [hW0]; exact kw _ _ _ _ _ _
 have hk1:(rows[n].e.kind == 1)=false:=by rw [hk]; rfl
 have hk2:(rows[n].e.kind == 2)=false:=by rw [hk]; rfl
 have hk3:(rows[n].e.kind == 3)=false:=by rw [hk]; rfl
 have hk4:(rows[n].e.kind == 4)=false:=by rw [hk]; rfl
 have hk5:(rows[n].e.kind == 5)=true:=by rw [hk]; rfl
 have YV:b < w.heap.size + 1:=by omega
 have VE:b < w.heap.size + 1 + 1:=by omega
 have UD:b < w.heap.size + 1 + 1 + 1:=by omega
 have hn1:=bH n;have hn2:(n:Int) < (rows.length:Int):=by omega
 unfold Gc wM at hW0;have HC:=aj (qC 200 #[] #[.pointer (some ⟨w.heap.size + 1 + 1 + 1 + 1 + 1,0,none⟩)] (fun i=>!H i) rows[n].adK rows[n].capK rows[n].e.kids W0 (by omega) (hok.2.below HB0.out) QQ (fun i hi w1 hb=>sV (YU i hi) (HB0.out.trans (hb.mono HB0.out.size)) (Vd.out.below hb)));have TB:Hid ((rows[n].e.kids.any fun i=>!H i)=!rows[n].e.kids.all H):=by show _=_; rw [List.not_all_eq_any_not]
 clear YU hex hk hok;subst Tq;go_enter func175,ntmps175;go_wp2_with fail;rw [← hW0];clear hW0 t0 t1 t2 t3 t4;refine (HC.out).mono ?_;rintro e w1 ⟨he,hb1⟩;rw [TB.out] at he;subst he;have HB1:=aj (HB0.out.trans (hb1.mono HB0.out.size));clear hb1;go_wp2;go_ret;exact ⟨by simp,HB1.out⟩
end
open Go.Sort
section
variable {w:World} {rs:List TR} {D br bp bt bK nK:Nat} {n1:Int} {nr:Nat} {Mr:KL→Option Value} {Er:List (KL × RR)} {ts:List Tp} {xo xu:List Al} {np:Nat} {Mp:K3→Option Value} {vo vu:Value} {out:List Fc} {f:Fc} {Tm:Option Addr} {capE:Nat} {rows:List ER} {n:Nat}
theorem NI (hn:n < rows.length) (b0 b1:Bool) (hkl:rows[n].e.kids.length≤1000) (hk2l:2≤rows[n].e.kids.length) (hA:Iq D (.slice Tm rows.length capE) f bK w (rows[n].e.kids.getD 0 0) b0) (hB:Iq D (.slice Tm rows.length capE) f bK w (rows[n].e.kids.getD 1 0) b1) (hex:fQ w Tm rows) (hre:rows.length≤1000) (hk:rows[n].e.kind=6) :
  Calls prog 175 #[.pointer (some ⟨D,0,none⟩),.slice Tm rows.length capE,.int .i64 (n:Int),.agg #[.string f.a,.string f.b,.string f.r,.string f.c,.string f.d],.map (some bK)] w fun e w'=>e=.returned (.bool (b0 && !b1))∧aa w w':=by
 obtain ⟨b,off,Tq,⟨t0,t1,t2,t3,t4⟩,hbl,hok⟩:=fQ.at0 hex hn;obtain ⟨W0,hW0⟩:∃ W0,W0=Gc w D (.slice Tm rows.length capE) f bK rows[n]:=⟨_,rfl⟩;have HB0:Hid (aa w W0):=by show Below _ _ _; rw [hW0]; exact ku _ _ _ _ _ _
 have Vd:Hid (NdB W0 w.heap.size D (.slice Tm rows.length capE) f bK rows[n]):=by show NdB _ _ _ _ _ _ _; rw [hW0]; exact kw _ _ _ _ _ _
 have hk1:(rows[n].e.kind == 1)=false:=by rw [hk]; rfl
 have hk2:(rows[n].e.kind == 2)=false:=by rw [hk]; rfl
 have hk3:(rows[n].e.kind == 3)=false:=by rw [hk]; rfl
 have hk4:(rows[n].e.kind == 4)=false:=by rw [hk]; rfl
 have hk5:(rows[n].e.kind == 5)=false:=by rw [hk]; rfl
 have YV:b < w.heap.size + 1:=by omega
 have VE:b < w.heap.size + 1 + 1:=by omega
 have UD:b < w.heap.size + 1 + 1 + 1:=by omega
 have hn1:=bH n;have hn2:(n:Int) < (rows.length:Int):=by omega
 unfold Gc wM at hW0;have h0k:0 < rows[n].e.kids.length:=by omega
 have h1k:1 < rows[n].e.kids.length:=by omega
 obtain ⟨bJ,XJ,TU,z0,Zq⟩:=mZ.at0 hok.2 h0k;have z1:w.cell? ⟨bJ,XJ + 1,none⟩=some (.int .i64 rows[n].e.kids[1]):=by
  obtain ⟨b',off',Wp,z1,-⟩:=mZ.at0 hok.2 h1k;rw [TU] at Wp; injection Wp with e; injection e with e1 e2;rw [e1,e2]; exact z1
 obtain ⟨i0,hi0⟩:∃ i,i=rows[n].e.kids[0]:=⟨_,rfl⟩;obtain ⟨i1,hi1⟩:∃ i,i=rows[n].e.kids[1]:=⟨_,rfl⟩;have g0:rows[n].e.kids.getD 0 0=i0:=by rw [hi0,List.getD_eq_getElem?_getD,Sw h0k]; rfl
 have g1:rows[n].e.kids.getD 1 0=i1:=by rw [hi1,List.getD_eq_getElem?_getD,Sw h1k]; rfl
 rw [g0] at hA;rw [g1] at hB;rw [← hi0,Nat.add_zero] at z0;rw [← hi1] at z1;obtain ⟨kl,hkl'⟩:∃ kl,kl=rows[n].e.kids.length:=⟨_,rfl⟩;obtain ⟨cK,hcK⟩:∃ c,c=rows[n].capK:=⟨_,rfl⟩;have hl0:(0:Int) < (kl:Int):=by omega
 have hl1:(1:Int) < (kl:Int):=by omega
 have h0k':0 < kl:=by omega
 have h1k':1 < kl:=by omega
 have HA:Hid (∀ w1,aa W0 w1→_):=fun w1 hb=>nX hA (HB0.out.trans (hb.mono HB0.out.size)) (Vd.out.below hb);have U3:Hid (∀ w1,aa W0 w1→_):=fun w1 hb=>sV hB (HB0.out.trans (hb.mono HB0.out.size)) (Vd.out.below hb);have HZ:Hid (W0.cell? ⟨bJ,XJ,none⟩=some (.int .i64 i0)∧W0.cell? ⟨bJ,XJ + 1,none⟩=some (.int .i64 i1)∧bJ < W0.heap.size):=⟨(HB0.out.cell (p:=⟨bJ,XJ,none⟩) Zq).trans z0,(HB0.out.cell (p:=⟨bJ,XJ + 1,none⟩) Zq).trans z1,Sg Zq HB0.out.size⟩;have Zl:Hid (W0.cell? ⟨w.heap.size + 1 + 1 + 1 + 1,4,none⟩=some (.slice (some ⟨bJ,XJ,none⟩) kl cK)):=by show _=_; rw [Vd.out.x4,TU,← hkl',← hcK]
 have HV5:Hid (W0.cell? ⟨w.heap.size + 1 + 1 + 1 + 1 + 1,0,none⟩=some (.func (Fn.func 199) #[] #[.pointer (some ⟨w.heap.size,0,none⟩),.pointer (some ⟨w.heap.size + 1,0,none⟩),.pointer (some ⟨w.heap.size + 1 + 1,0,none⟩),.pointer (some ⟨w.heap.size + 1 + 1 + 1,0,none⟩)])):=Vd.out.v;clear hA hB hex hk hok z0 z1 TU h0k h1k g0 g1 hi0 hi1;subst Tq;go_enter func175,ntmps175;go_wp2_with fail;rw [← hW0];clear hW0 t0 t1 t2 t3 t4;clear hk1 hk2 hk3 hk4 hk5 hkl' hcK;have HAA:Hid (∀ d os,Calls prog 199 #[.int .i64 i0,.pointer (some ⟨w.heap.size,0,none⟩),.pointer (some ⟨w.heap.size + 1,0,none⟩),.pointer (some ⟨w.heap.size + 1 + 1,0,none⟩),.pointer (some ⟨w.heap.size + 1 + 1 + 1,0,none⟩)] (grow (redrawn W0 d) os) fun e w''=>e=.returned (.bool b0)∧∃ p:Regrown,w''=grow (redrawn W0 p.d) p.os):=by
  refine bP fun W' hb=>?_;exact HA.out _ hb
 have HBQ:Hid (∀ d os,Calls prog 200 #[.int .i64 i1,.pointer (some ⟨w.heap.size + 1 + 1 + 1 + 1 + 1,0,none⟩)] (grow (redrawn W0 d) os) fun e w''=>e=.returned (.bool (!b1))∧∃ p:Regrown,w''=grow (redrawn W0 p.d) p.os):=by
  refine bP fun W' hb=>?_;exact U3.out _ hb
 have x4:=cell_regrown Zl.out;have v5:=cell_regrown HV5.out;have z0:=cell_regrown HZ.out.1;have z1:=cell_regrown HZ.out.2.1;clear HA U3 Vd;cases b0
 case' true =>
  skip
 case' false =>
  skip
 all_goals
  refine wp_region_quiet_below (by kernel_rfl) (by kernel_rfl) ?_
  repeat (go_big_quiet_step (first | exact HAA.out _ _ | exact HBQ.out _ _))
  refine wpQuiet_nil ?_;rintro _ ⟨⟨dq,osq⟩,rfl⟩;go_wp2;go_ret;exact ⟨rfl,HB0.out.trans ((below_regrown W0 dq osq).mono HB0.out.size)⟩
end
end Go.Proofs.YtdmniljjnaebbaaGreatDoor
