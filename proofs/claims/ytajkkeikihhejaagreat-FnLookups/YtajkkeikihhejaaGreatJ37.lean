/- The program's question of a node: told by tuples, a name, over a relation, one of its kids, all of them. -/
import Derived.Test.YtajkkeikihhejaaGreatSq
import Derived.Test.YtajkkeikihhejaaGreatJ36
open Go.Proofs.Tryz
set_option maxHeartbeats 80000000
namespace Go.Proofs.YtajkkeikihhejaaGreat
set_option linter.unusedVariables false
set_option maxRecDepth 100000
open Go.ChangeShapes Go.WideShapes Go.ChangeAt Go.RowKit Go.Maps
open Pl
section
variable {w:World} {rs:List TR} {D br bp bt bK nK:Nat} {n1:Int} {nr:Nat} {Mr:KL→Option Value} {Er:List (KL × RR)} {ts:List Tp} {xo xu:List Al} {np:Nat} {Mp:K3→Option Value} {vo vu:Value} {out:List Fc} {f:Fc} {TA:Option Addr} {capE:Nat} {rows:List ER} {n:Nat}
theorem LF (hn:n < rows.length) (hD:DatA w rs D br bp bt n1 nr Mr Er (dJ ts) xo xu np Mp vo vu) (hK:aO nY prog 29 w bK nK (Bt out)) (hf:f.fits) (hts:∀ t ∈ ts,t.fits) (htl:ts.length≤1000) (hex:jk w TA rows) (hre:rows.length≤1000) (hk:rows[n].e.kind=1) :
  Calls prog 167 #[.pointer (some ⟨D,0,none⟩),.slice TA rows.length capE,.int .i64 (n:Int),.agg #[.string f.a,.string f.b,.string f.r,.string f.c,.string f.d],.map (some bK)] w fun e w'=>e=.returned (.bool (fB ts out f))∧af w w':=by
 obtain ⟨b,off,TC,⟨t0,t1,t2,t3,t4⟩,hbl,hok⟩:=jk.at0 hex hn;obtain ⟨W0,hW0⟩:∃ W0,W0=Gu w D (.slice TA rows.length capE) f bK rows[n]:=⟨_,rfl⟩;have HB0:Hid (af w W0):=by show Below _ _ _; rw [hW0]; exact lG _ _ _ _ _ _
 have XH:Hid (NdB W0 w.heap.size D (.slice TA rows.length capE) f bK rows[n]):=by show NdB _ _ _ _ _ _ _; rw [hW0]; exact lH _ _ _ _ _ _
 have hk1:(rows[n].e.kind == 1)=true:=by rw [hk]; rfl
 have YY:b < w.heap.size + 1:=by omega
 have YZ:b < w.heap.size + 1 + 1:=by omega
 have XX:b < w.heap.size + 1 + 1 + 1:=by omega
 have hn1:=bq n;have hn2:(n:Int) < (rows.length:Int):=by omega
 unfold Gu yf at hW0;have HC:=aC (Bu (hD.below HB0.out) (hK.below HB0.out) hf hts htl);clear hD hK hts hex hk hok;subst TC;go_enter func167,ntmps167;go_wp2_with fail;rw [← hW0];clear hW0 t0 t1 t2 t3 t4;refine (HC.out).mono ?_;rintro e w1 ⟨rfl,hb1⟩;have HB1:=aC (HB0.out.trans (hb1.mono HB0.out.size));clear hb1;go_wp2;go_ret;exact ⟨rfl,HB1.out⟩
theorem OP (hn:n < rows.length) (hK:aO nY prog 29 w bK nK (Bt out)) (hf:f.fits) (hnm:rows[n].e.name.size≤maxLen) (hex:jk w TA rows) (hre:rows.length≤1000) (hk:rows[n].e.kind=2) :
  Calls prog 167 #[.pointer (some ⟨D,0,none⟩),.slice TA rows.length capE,.int .i64 (n:Int),.agg #[.string f.a,.string f.b,.string f.r,.string f.c,.string f.d],.map (some bK)] w fun e w'=>e=.returned (.bool (cZ out ⟨f.a,f.b,rows[n].e.name,f.c,f.d⟩))∧af w w':=by
 obtain ⟨b,off,TC,⟨t0,t1,t2,t3,t4⟩,hbl,hok⟩:=jk.at0 hex hn;obtain ⟨W0,hW0⟩:∃ W0,W0=Gu w D (.slice TA rows.length capE) f bK rows[n]:=⟨_,rfl⟩;have HB0:Hid (af w W0):=by show Below _ _ _; rw [hW0]; exact lG _ _ _ _ _ _
 have XH:Hid (NdB W0 w.heap.size D (.slice TA rows.length capE) f bK rows[n]):=by show NdB _ _ _ _ _ _ _; rw [hW0]; exact lH _ _ _ _ _ _
 have hk1:(rows[n].e.kind == 1)=false:=by rw [hk]; rfl
 have hk2:(rows[n].e.kind == 2)=true:=by rw [hk]; rfl
 have YY:b < w.heap.size + 1:=by omega
 have YZ:b < w.heap.size + 1 + 1:=by omega
 have XX:b < w.heap.size + 1 + 1 + 1:=by omega
 have hn1:=bq n;have hn2:(n:Int) < (rows.length:Int):=by omega
 unfold Gu yf at hW0;have HC:=aC (vk bK nK out ⟨f.a,f.b,rows[n].e.name,f.c,f.d⟩ W0 ⟨hf.1,hf.2.1,hnm,hf.2.2.2.1,hf.2.2.2.2⟩ (hK.below HB0.out));clear hK hex hk hok hf;subst TC;go_enter func167,ntmps167;go_wp2_with fail;rw [← hW0];clear hW0 t0 t1 t2 t3 t4;refine (HC.out).mono ?_;rintro e w1 ⟨rfl,hb1⟩;have HB1:=aC (HB0.out.trans (hb1.mono HB0.out.size));clear hb1;go_wp2;go_ret;exact ⟨rfl,HB1.out⟩
theorem LG (hn:n < rows.length) (hD:DatA w rs D br bp bt n1 nr Mr Er (dJ ts) xo xu np Mp vo vu) (hK:aO nY prog 29 w bK nK (Bt out)) (hf:f.fits) (XW:rows[n].e.over.size≤maxLen∧rows[n].e.name.size≤maxLen) (hts:∀ t ∈ ts,t.fits) (htl:ts.length≤1000) (hex:jk w TA rows) (hre:rows.length≤1000) (hk:rows[n].e.kind=3) :
  Calls prog 167 #[.pointer (some ⟨D,0,none⟩),.slice TA rows.length capE,.int .i64 (n:Int),.agg #[.string f.a,.string f.b,.string f.r,.string f.c,.string f.d],.map (some bK)] w fun e w'=>e=.returned (.bool (gM ts out rows[n].e.over rows[n].e.name f))∧af w w':=by
 obtain ⟨b,off,TC,⟨t0,t1,t2,t3,t4⟩,hbl,hok⟩:=jk.at0 hex hn;obtain ⟨W0,hW0⟩:∃ W0,W0=Gu w D (.slice TA rows.length capE) f bK rows[n]:=⟨_,rfl⟩;have HB0:Hid (af w W0):=by show Below _ _ _; rw [hW0]; exact lG _ _ _ _ _ _
 have XH:Hid (NdB W0 w.heap.size D (.slice TA rows.length capE) f bK rows[n]):=by show NdB _ _ _ _ _ _ _; rw [hW0]; exact lH _ _ _ _ _ _
 have hk1:(rows[n].e.kind == 1)=false:=by rw [hk]; rfl
 have hk2:(rows[n].e.kind == 2)=false:=by rw [hk]; rfl
 have hk3:(rows[n].e.kind == 3)=true:=by rw [hk]; rfl
 have YY:b < w.heap.size + 1:=by omega
 have YZ:b < w.heap.size + 1 + 1:=by omega
 have XX:b < w.heap.size + 1 + 1 + 1:=by omega
 have hn1:=bq n;have hn2:(n:Int) < (rows.length:Int):=by omega
 unfold Gu yf at hW0;have HC:=aC (Bv (hD.below HB0.out) (hK.below HB0.out) rows[n] XW hf hts htl);clear hD hK hts hex hk hok XW hf;subst TC;go_enter func167,ntmps167;go_wp2_with fail;rw [← hW0];clear hW0 t0 t1 t2 t3 t4;refine (HC.out).mono ?_;rintro e w1 ⟨rfl,hb1⟩;have HB1:=aC (HB0.out.trans (hb1.mono HB0.out.size));clear hb1;go_wp2;go_ret;exact ⟨rfl,HB1.out⟩
theorem I5 (hn:n < rows.length) (H:Int→Bool) (hkl:rows[n].e.kids.length≤1000) (YW:∀ i ∈ rows[n].e.kids,I1 D (.slice TA rows.length capE) f bK w i (H i)) (hex:jk w TA rows) (hre:rows.length≤1000) (hk:rows[n].e.kind=4) :
  Calls prog 167 #[.pointer (some ⟨D,0,none⟩),.slice TA rows.length capE,.int .i64 (n:Int),.agg #[.string f.a,.string f.b,.string f.r,.string f.c,.string f.d],.map (some bK)] w fun e w'=>e=.returned (.bool (rows[n].e.kids.any H))∧af w w':=by
 obtain ⟨b,off,TC,⟨t0,t1,t2,t3,t4⟩,hbl,hok⟩:=jk.at0 hex hn;obtain ⟨W0,hW0⟩:∃ W0,W0=Gu w D (.slice TA rows.length capE) f bK rows[n]:=⟨_,rfl⟩;have HB0:Hid (af w W0):=by show Below _ _ _; rw [hW0]; exact lG _ _ _ _ _ _
 have XH:Hid (NdB W0 w.heap.size D (.slice TA rows.length capE) f bK rows[n]):=by show NdB _ _ _ _ _ _ _; rw [hW0]; exact lH _ _ _ _ _ _
 have hk1:(rows[n].e.kind == 1)=false:=by rw [hk]; rfl
 have hk2:(rows[n].e.kind == 2)=false:=by rw [hk]; rfl
 have hk3:(rows[n].e.kind == 3)=false:=by rw [hk]; rfl
 have hk4:(rows[n].e.kind == 4)=true:=by rw [hk]; rfl
 have YY:b < w.heap.size + 1:=by omega
 have YZ:b < w.heap.size + 1 + 1:=by omega
 have XX:b < w.heap.size + 1 + 1 + 1:=by omega
 have hn1:=bq n;have hn2:(n:Int) < (rows.length:Int):=by omega
 unfold Gu yf at hW0;have HC:=aC (su 211 #[] #[.pointer (some ⟨w.heap.size,0,none⟩),.pointer (some ⟨w.heap.size + 1,0,none⟩),.pointer (some ⟨w.heap.size + 1 + 1,0,none⟩),.pointer (some ⟨w.heap.size + 1 + 1 + 1,0,none⟩)] H rows[n].adK rows[n].capK rows[n].e.kids W0 (by omega) (hok.2.below HB0.out) Rf (fun i hi w1 hb=>o9 (YW i hi) (HB0.out.trans (hb.mono HB0.out.size)) (XH.out.below hb)));clear YW hex hk hok;subst TC;go_enter func167,ntmps167;go_wp2_with fail;rw [← hW0];clear hW0 t0 t1 t2 t3 t4;refine (HC.out).mono ?_;rintro e w1 ⟨rfl,hb1⟩;have HB1:=aC (HB0.out.trans (hb1.mono HB0.out.size));clear hb1;go_wp2;go_ret;exact ⟨rfl,HB1.out⟩
theorem LH (hn:n < rows.length) (H:Int→Bool) (hkl:rows[n].e.kids.length≤1000) (YW:∀ i ∈ rows[n].e.kids,I1 D (.slice TA rows.length capE) f bK w i (H i)) (hex:jk w TA rows) (hre:rows.length≤1000) (hk:rows[n].e.kind=5) :
  Calls prog 167 #[.pointer (some ⟨D,0,none⟩),.slice TA rows.length capE,.int .i64 (n:Int),.agg #[.string f.a,.string f.b,.string f.r,.string f.c,.string f.d],.map (some bK)] w fun e w'=>e=.returned (.bool (rows[n].e.kids.all H))∧af w w':=by
 obtain ⟨b,off,TC,⟨t0,t1,t2,t3,t4⟩,hbl,hok⟩:=jk.at0 hex hn;obtain ⟨W0,hW0⟩:∃ W0,W0=Gu w D (.slice TA rows.length capE) f bK rows[n]:=⟨_,rfl⟩;have HB0:Hid (af w W0):=by show Below _ _ _; rw [hW0]; exact lG _ _ _ _ _ _
 have XH:Hid (NdB W0 w.heap.size D (.slice TA rows.length capE) f bK rows[n]):=by show NdB _ _ _ _ _ _ _; rw [hW0]; exact lH _ _ _ _ _ _
 have hk1:(rows[n].e.kind == 1)=false:=by rw [hk]; rfl
 have hk2:(rows[n].e.kind == 2)=false:=by rw [hk]; rfl
 have hk3:(rows[n].e.kind == 3)=false:=by rw [hk]; rfl
 have hk4:(rows[n].e.kind == 4)=false:=by rw [hk]; rfl
 have hk5:(rows[n].e.kind == 5)=true:=by rw [hk]; rfl
 have YY:b < w.heap.size + 1:=by omega
 have YZ:b < w.heap.size + 1 + 1:=by omega
 have XX:b < w.heap.size + 1 + 1 + 1:=by omega
 have hn1:=bq n;have hn2:(n:Int) < (rows.length:Int):=by omega
 unfold Gu yf at hW0;have HC:=aC (su 212 #[] #[.pointer (some ⟨w.heap.size + 1 + 1 + 1 + 1 + 1,0,none⟩)] (fun i=>!H i) rows[n].adK rows[n].capK rows[n].e.kids W0 (by omega) (hok.2.below HB0.out) Rh (fun i hi w1 hb=>vv (YW i hi) (HB0.out.trans (hb.mono HB0.out.size)) (XH.out.below hb)));have TL:Hid ((rows[n].e.kids.any fun i=>!H i)=!rows[n].e.kids.all H):=by show _=_; rw [List.not_all_eq_any_not]
 clear YW hex hk hok;subst TC;go_enter func167,ntmps167;go_wp2_with fail;rw [← hW0];clear hW0 t0 t1 t2 t3 t4;refine (HC.out).mono ?_;rintro e w1 ⟨he,hb1⟩;rw [TL.out] at he;subst he;have HB1:=aC (HB0.out.trans (hb1.mono HB0.out.size));clear hb1;go_wp2;go_ret;exact ⟨by simp,HB1.out⟩
end
open Go.Sort
section
variable {w:World} {rs:List TR} {D br bp bt bK nK:Nat} {n1:Int} {nr:Nat} {Mr:KL→Option Value} {Er:List (KL × RR)} {ts:List Tp} {xo xu:List Al} {np:Nat} {Mp:K3→Option Value} {vo vu:Value} {out:List Fc} {f:Fc} {TA:Option Addr} {capE:Nat} {rows:List ER} {n:Nat}
theorem OQ (hn:n < rows.length) (b0 b1:Bool) (hkl:rows[n].e.kids.length≤1000) (hk2l:2≤rows[n].e.kids.length) (hA:I1 D (.slice TA rows.length capE) f bK w (rows[n].e.kids.getD 0 0) b0) (hB:I1 D (.slice TA rows.length capE) f bK w (rows[n].e.kids.getD 1 0) b1) (hex:jk w TA rows) (hre:rows.length≤1000) (hk:rows[n].e.kind=6) :
  Calls prog 167 #[.pointer (some ⟨D,0,none⟩),.slice TA rows.length capE,.int .i64 (n:Int),.agg #[.string f.a,.string f.b,.string f.r,.string f.c,.string f.d],.map (some bK)] w fun e w'=>e=.returned (.bool (b0 && !b1))∧af w w':=by
 obtain ⟨b,off,TC,⟨t0,t1,t2,t3,t4⟩,hbl,hok⟩:=jk.at0 hex hn;obtain ⟨W0,hW0⟩:∃ W0,W0=Gu w D (.slice TA rows.length capE) f bK rows[n]:=⟨_,rfl⟩;have HB0:Hid (af w W0):=by show Below _ _ _; rw [hW0]; exact lG _ _ _ _ _ _
 have XH:Hid (NdB W0 w.heap.size D (.slice TA rows.length capE) f bK rows[n]):=by show NdB _ _ _ _ _ _ _; rw [hW0]; exact lH _ _ _ _ _ _
 have hk1:(rows[n].e.kind == 1)=false:=by rw [hk]; rfl
 have hk2:(rows[n].e.kind == 2)=false:=by rw [hk]; rfl
 have hk3:(rows[n].e.kind == 3)=false:=by rw [hk]; rfl
 have hk4:(rows[n].e.kind == 4)=false:=by rw [hk]; rfl
 have hk5:(rows[n].e.kind == 5)=false:=by rw [hk]; rfl
 have YY:b < w.heap.size + 1:=by omega
 have YZ:b < w.heap.size + 1 + 1:=by omega
 have XX:b < w.heap.size + 1 + 1 + 1:=by omega
 have hn1:=bq n;have hn2:(n:Int) < (rows.length:Int):=by omega
 unfold Gu yf at hW0;have h0k:0 < rows[n].e.kids.length:=by omega
 have h1k:1 < rows[n].e.kids.length:=by omega
 obtain ⟨bJ,Ye,Ul,z0,Zo⟩:=vH.at0 hok.2 h0k;have z1:w.cell? ⟨bJ,Ye + 1,none⟩=some (.int .i64 rows[n].e.kids[1]):=by
  obtain ⟨b',off',WY,z1,-⟩:=vH.at0 hok.2 h1k;rw [Ul] at WY; injection WY with e; injection e with e1 e2;rw [e1,e2]; exact z1
 obtain ⟨i0,hi0⟩:∃ i,i=rows[n].e.kids[0]:=⟨_,rfl⟩;obtain ⟨i1,hi1⟩:∃ i,i=rows[n].e.kids[1]:=⟨_,rfl⟩;have g0:rows[n].e.kids.getD 0 0=i0:=by rw [hi0,List.getD_eq_getElem?_getD,SH h0k]; rfl
 have g1:rows[n].e.kids.getD 1 0=i1:=by rw [hi1,List.getD_eq_getElem?_getD,SH h1k]; rfl
 rw [g0] at hA;rw [g1] at hB;rw [← hi0,Nat.add_zero] at z0;rw [← hi1] at z1;obtain ⟨kl,hkl'⟩:∃ kl,kl=rows[n].e.kids.length:=⟨_,rfl⟩;obtain ⟨cK,hcK⟩:∃ c,c=rows[n].capK:=⟨_,rfl⟩;have hl0:(0:Int) < (kl:Int):=by omega
 have hl1:(1:Int) < (kl:Int):=by omega
 have h0k':0 < kl:=by omega
 have h1k':1 < kl:=by omega
 have HA:Hid (∀ w1,af W0 w1→_):=fun w1 hb=>o9 hA (HB0.out.trans (hb.mono HB0.out.size)) (XH.out.below hb);have UR:Hid (∀ w1,af W0 w1→_):=fun w1 hb=>vv hB (HB0.out.trans (hb.mono HB0.out.size)) (XH.out.below hb);have HZ:Hid (W0.cell? ⟨bJ,Ye,none⟩=some (.int .i64 i0)∧W0.cell? ⟨bJ,Ye + 1,none⟩=some (.int .i64 i1)∧bJ < W0.heap.size):=⟨(HB0.out.cell (p:=⟨bJ,Ye,none⟩) Zo).trans z0,(HB0.out.cell (p:=⟨bJ,Ye + 1,none⟩) Zo).trans z1,Sv Zo HB0.out.size⟩;have HX4:Hid (W0.cell? ⟨w.heap.size + 1 + 1 + 1 + 1,4,none⟩=some (.slice (some ⟨bJ,Ye,none⟩) kl cK)):=by show _=_; rw [XH.out.x4,Ul,← hkl',← hcK]
 have HV5:Hid (W0.cell? ⟨w.heap.size + 1 + 1 + 1 + 1 + 1,0,none⟩=some (.func (Fn.func 211) #[] #[.pointer (some ⟨w.heap.size,0,none⟩),.pointer (some ⟨w.heap.size + 1,0,none⟩),.pointer (some ⟨w.heap.size + 1 + 1,0,none⟩),.pointer (some ⟨w.heap.size + 1 + 1 + 1,0,none⟩)])):=XH.out.v;clear hA hB hex hk hok z0 z1 Ul h0k h1k g0 g1 hi0 hi1;subst TC;go_enter func167,ntmps167;go_wp2_with fail;rw [← hW0];clear hW0 t0 t1 t2 t3 t4;clear hk1 hk2 hk3 hk4 hk5 hkl' hcK;have HAA:Hid (∀ d os,Calls prog 211 #[.int .i64 i0,.pointer (some ⟨w.heap.size,0,none⟩),.pointer (some ⟨w.heap.size + 1,0,none⟩),.pointer (some ⟨w.heap.size + 1 + 1,0,none⟩),.pointer (some ⟨w.heap.size + 1 + 1 + 1,0,none⟩)] (grow (redrawn W0 d) os) fun e w''=>e=.returned (.bool b0)∧∃ p:Regrown,w''=grow (redrawn W0 p.d) p.os):=by
  refine bC fun W' hb=>?_;exact HA.out _ hb
 have HBQ:Hid (∀ d os,Calls prog 212 #[.int .i64 i1,.pointer (some ⟨w.heap.size + 1 + 1 + 1 + 1 + 1,0,none⟩)] (grow (redrawn W0 d) os) fun e w''=>e=.returned (.bool (!b1))∧∃ p:Regrown,w''=grow (redrawn W0 p.d) p.os):=by
  refine bC fun W' hb=>?_;exact UR.out _ hb
 have x4:=cell_regrown HX4.out;have v5:=cell_regrown HV5.out;have z0:=cell_regrown HZ.out.1;have z1:=cell_regrown HZ.out.2.1;clear HA UR XH;cases b0;case true=>
  refine wp_region_quiet_below (by kernel_rfl) (by kernel_rfl) ?_
  repeat (go_big_quiet_step (first | exact HAA.out _ _ | exact HBQ.out _ _))
  refine wpQuiet_nil ?_;rintro _ ⟨⟨dq,osq⟩,rfl⟩;go_wp2;go_ret;exact ⟨rfl,HB0.out.trans ((below_regrown W0 dq osq).mono HB0.out.size)⟩
 refine wp_region_quiet_below (by kernel_rfl) (by kernel_rfl) ?_
 repeat (go_big_quiet_step (first | exact HAA.out _ _ | exact HBQ.out _ _))
 refine wpQuiet_nil ?_;rintro _ ⟨⟨dq,osq⟩,rfl⟩;go_wp2;go_ret;exact ⟨rfl,HB0.out.trans ((below_regrown W0 dq osq).mono HB0.out.size)⟩
end
set_option linter.unusedSectionVars false
def kK (sts:List St) (xu:List Al) (n:Int) (o:Al) (k:Nat):List Fc:=((sts.take k).filter fun s=>s.typ.toList == o.t.toList && decide (s.n=n)).flatMap fun s=>jG o s.rel xu
def Ri (sts:List St) (xu:List Al) (n:Int) (o:Al):List Fc:=kK sts xu n o sts.length
def rR (sts:List St) (xo xu:List Al) (n:Int) (i:Nat):List Fc:=(xo.take i).flatMap (Ri sts xu n)
theorem LJ (sts:List St) (xu:List Al) (n:Int) (o:Al):kK sts xu n o 0=[]:=rfl
theorem PZ {sts:List St} {xu:List Al} {n:Int} {o:Al} {k:Nat} (h:k < sts.length) (hc:(sts[k].typ.toList == o.t.toList && decide (sts[k].n=n))=false):kK sts xu n o (k + 1)=kK sts xu n o k:=by
 unfold kK;rw [SA h,Tu,List.flatMap_append];simp [hc]
theorem OT {sts:List St} {xu:List Al} {n:Int} {o:Al} {k:Nat} (h:k < sts.length) (hc:(sts[k].typ.toList == o.t.toList && decide (sts[k].n=n))=true):kK sts xu n o (k + 1)=kK sts xu n o k ++ jG o sts[k].rel xu:=by
 unfold kK;rw [SA h,Tu,List.flatMap_append];simp [hc]
theorem LM {sts:List St} {xo xu:List Al} {n:Int} {i:Nat} (h:i < xo.length):rR sts xo xu n (i + 1)=rR sts xo xu n i ++ kK sts xu n xo[i] sts.length:=by
 unfold rR;rw [SA h,List.flatMap_append];simp [Ri]
theorem OU {ts:List Ty} {sts:List St} (hk:iG sts=au ts) (hn:(au ts).Nodup) (xo xu:List Al) (n:Int):rR sts xo xu n xo.length=dx ts (fH sts) xo xu n:=by
 unfold rR dx;rw [SS];congr 1
 funext o
 unfold Ri kK x9;rw [SS,PV hk hn,List.flatMap_map];rfl
theorem LP (o:Al) (rel:aD) {xu:List Al} {j:Nat} (h:j < xu.length):jG o rel (xu.take (j + 1))=jG o rel (xu.take j) ++ [⟨o.t,o.s,rel,xu[j].t,xu[j].s⟩]:=by
 unfold jG;rw [SA h,List.map_append]; rfl
theorem AQ {e:Ex} (h:ay e=true):e.kids.length≤5∧(e.kind=6→2≤e.kids.length):=by
 unfold ay at h;by_cases k1:e.kind=1
 ·rw [if_pos k1] at h; simp only [SB,SN] at h; exact ⟨by omega,fun h6=>by omega⟩
 by_cases k2:e.kind=2
 ·rw [if_neg k1,if_pos k2] at h; simp only [SB,SN] at h; exact ⟨by omega,fun h6=>by omega⟩
 by_cases k3:e.kind=3
 ·rw [if_neg k1,if_neg k2,if_pos k3] at h; simp only [SB,SN] at h; exact ⟨by omega,fun h6=>by omega⟩
 by_cases k4:e.kind=4 ∨ e.kind=5
 ·rw [if_neg k1,if_neg k2,if_neg k3,if_pos k4] at h; simp only [SB,SN] at h; exact ⟨by omega,fun h6=>by omega⟩
 by_cases k6:e.kind=6
 ·rw [if_neg k1,if_neg k2,if_neg k3,if_neg k4,if_pos k6] at h; simp only [SB,SN] at h; exact ⟨by omega,fun h6=>by omega⟩
 rw [if_neg k1,if_neg k2,if_neg k3,if_neg k4,if_neg k6] at h; cases h
theorem JG {rows:List ER} (h:aN (ak rows)=true):V9 rows∧1≤rows.length:=by
 have hl:1≤rows.length∧rows.length≤15:=by
  unfold aN at h;simp only [SB,SN,bi] at h;exact ⟨h.1.1.1.1.1,h.1.1.1.1.2⟩
 have hlow:=Iu h;have hkl:∀ q ∈ rows,q.e.kids.length≤1000:=fun q hq=>by
  have:=(AQ (ji h q.e (SK.2 ⟨q,hq,rfl⟩))).1;omega
 refine ⟨⟨by omega,hkl,hlow,fun e he h6=>?_⟩,hl.1⟩;exact (AQ (ji h e he)).2 h6
section
variable [DecidableEq Fc]
theorem rG (H:List Fc→Fc→Bool) (qs:List Fc) (f:Fc) (out:List Fc):bY H (qs ++ [f]) out=fZ H (bY H qs out) f:=by rw [FO]; rfl
theorem vw {H:List Fc→Fc→Bool} {out:List Fc} {f:Fc} (h:cZ out f=true ∨ H out f=false):fZ H out f=out:=by
 unfold fZ;rw [if_pos];rcases h with h | h
 ·exact .inl (gJ.1 h)
 exact .inr h
theorem Dc {H:List Fc→Fc→Bool} {out:List Fc} {f:Fc} (h1:cZ out f=false) (h2:H out f=true):fZ H out f=out ++ [f]:=by
 unfold fZ;rw [if_neg];rintro (h | h)
 ·rw [gJ.2 h] at h1; cases h1
 rw [h2] at h; cases h
theorem Gg (H:List Fc→Fc→Bool) (qs out:List Fc):out.length≤(bY H qs out).length:=by
 obtain ⟨n,e,-⟩:=kI (H:=H) qs out;rw [e,SE]; omega
theorem I6 {H:List Fc→Fc→Bool} {qs out:List Fc} (h:decide (out.length < (bY H qs out).length)=false):bY H qs out=out:=by
 obtain ⟨n,e,-⟩:=kI (H:=H) qs out;rw [e,SE,decide_eq_false_iff_not] at h;have:n=[]:=SX.1 (by omega);rw [e,this,List.append_nil]
end
theorem I7 {e:Ex} (h:ay e=true):(e.kind=2→e.name.size≤maxLen)∧(e.kind=3→e.over.size≤maxLen∧e.name.size≤maxLen)∧(e.kind=1 ∨ e.kind=2 ∨ e.kind=3 ∨ e.kind=4 ∨ e.kind=5 ∨ e.kind=6):=by
 unfold ay at h;have hle:∀ s:ByteArray,aQ s=true→s.size≤maxLen:=fun s hs=>by have:=(nQ hs).2; unfold maxLen; omega
 by_cases k1:e.kind=1
 ·exact ⟨fun h2=>by omega,fun h3=>by omega,.inl k1⟩
 by_cases k2:e.kind=2
 ·rw [if_neg k1,if_pos k2] at h; simp only [SB] at h; exact ⟨fun _=>hle _ h.1.1.1,fun h3=>by omega,.inr (.inl k2)⟩
 by_cases k3:e.kind=3
 ·rw [if_neg k1,if_neg k2,if_pos k3] at h; simp only [SB] at h; exact ⟨fun h2=>by omega,fun _=>⟨hle _ h.1.1.1,hle _ h.1.1.2⟩,.inr (.inr (.inl k3))⟩
 refine ⟨fun h2=>absurd h2 k2,fun h3=>absurd h3 k3,?_⟩;by_cases k4:e.kind=4 ∨ e.kind=5
 ·rcases k4 with k4 | k4
  ·exact .inr (.inr (.inr (.inl k4)))
  exact .inr (.inr (.inr (.inr (.inl k4))))
 by_cases k6:e.kind=6
 ·exact .inr (.inr (.inr (.inr (.inr k6))))
 rw [if_neg k1,if_neg k2,if_neg k3,if_neg k4,if_neg k6] at h; cases h
section
variable {rs:List TR} {D br bp bt bK nK:Nat} {n1:Int} {nr:Nat} {Mr:KL→Option Value} {Er:List (KL × RR)} {ts:List Tp} {xo xu:List Al} {np:Nat} {Mp:K3→Option Value} {vo vu:Value} {out:List Fc} {f:Fc} {TA:Option Addr} {capE:Nat} {rows:List ER}
theorem sw (hN:V9 rows) (hnb:∀ e ∈ ak rows,ay e=true) (hf:f.fits) (hts:∀ t ∈ ts,t.fits) (htl:ts.length≤1000) :
  ∀ (k n:Nat) (w:World),n < k→n < rows.length→DatA w rs D br bp bt n1 nr Mr Er (dJ ts) xo xu np Mp vo vu→aO nY prog 29 w bK nK (Bt out)→jk w TA rows →
  Calls prog 167 #[.pointer (some ⟨D,0,none⟩),.slice TA rows.length capE,.int .i64 (n:Int),.agg #[.string f.a,.string f.b,.string f.r,.string f.c,.string f.d],.map (some bK)] w fun e w'=>e=.returned (.bool (jB ts (ak rows) out f k out n))∧af w w'
 | 0,_,_,h,_,_,_,_=>absurd h (Tn _)
 | k + 1,n,w,hk,hn,hD,hK,hex=>by
  have e:(ak rows)[n]?=some rows[n].e:=by simp [ak,hn]
  have Vx:∀ i ∈ rows[n].e.kids,I1 D (.slice TA rows.length capE) f bK w i (jB ts (ak rows) out f k out i.toNat):=fun i hi w1 hb1=>by
   have h1:=hN.kid hn hi;have h2:=sw hN hnb hf hts htl k i.toNat w1 (by omega) (by omega) (hD.below hb1) (hK.below hb1) (hex.below hb1);have e2:((i.toNat:Nat):Int)=i:=by omega
   rw [e2] at h2;exact h2
  have hm:rows[n] ∈ rows:=Sw hn;have hme:rows[n].e ∈ ak rows:=SK.2 ⟨_,hm,rfl⟩;obtain ⟨hn2,Zj,hkd⟩:=I7 (hnb _ hme);unfold jB;rw [e];by_cases k1:rows[n].e.kind=1
  ·simp only [if_pos k1];exact LF hn hD hK hf hts htl hex hN.len k1
  by_cases k2:rows[n].e.kind=2
  ·simp only [if_neg k1,if_pos k2];exact OP hn hK hf (hn2 k2) hex hN.len k2
  by_cases k3:rows[n].e.kind=3
  ·simp only [if_neg k1,if_neg k2,if_pos k3];exact LG hn hD hK hf (Zj k3) hts htl hex hN.len k3
  by_cases k4:rows[n].e.kind=4
  ·simp only [if_neg k1,if_neg k2,if_neg k3,if_pos k4];exact I5 hn (fun i=>jB ts (ak rows) out f k out i.toNat) (hN.kids _ hm) Vx hex hN.len k4
  by_cases k5:rows[n].e.kind=5
  ·simp only [if_neg k1,if_neg k2,if_neg k3,if_neg k4,if_pos k5];exact LH hn (fun i=>jB ts (ak rows) out f k out i.toNat) (hN.kids _ hm) Vx hex hN.len k5
  have k6:rows[n].e.kind=6:=by omega
  simp only [if_neg k1,if_neg k2,if_neg k3,if_neg k4,if_neg k5,if_pos k6];have h2:=hN.two _ hme k6;have hg:∀ q,q < 2→rows[n].e.kids.getD q 0 ∈ rows[n].e.kids:=fun q hq=>by
   rw [List.getD_eq_getElem?_getD,SH (by omega)];exact Sw _
  exact OQ hn _ _ (hN.kids _ hm) h2 (Vx _ (hg 0 (by omega))) (Vx _ (hg 1 (by omega))) hex hN.len k6
theorem P5 {rs:List TR} (h:bz (ah rs)=true) {k:ByteArray × ByteArray} (hk:k ∈ au (ah rs)):∃ t ∈ rs,∃ q ∈ t.rows,sS rs k=some q.sl∧ak q.rows=aL (ah rs) k.1 k.2∧aN (ak q.rows)=true:=by
 have hk':=hk;unfold au at hk;obtain ⟨T,hT,hk⟩:=SY.1 hk;obtain ⟨t,ht,rfl⟩:=SK.1 hT;unfold jL at hk;obtain ⟨r,hr,rfl⟩:=SK.1 hk;obtain ⟨q,hq,rfl⟩:=SK.1 hr;have hrel:=o6 h ht hq;cases e:sS rs (t.p.name,q.p.name) with
 | none =>
  have h1:=(zu h).no _ e;have h2:gm (ah rs) t.name q.name=none:=h1;rw [hrel] at h2; cases h2
 | some v =>
  obtain ⟨t',ht',q',hq',-,rfl,e1,-⟩:=(zu h).yes _ v e;refine ⟨t',ht',q',hq',rfl,?_,((bP h).2.2 t' ht' q' hq').1⟩;unfold aL; rw [e1]; rfl
theorem LQ {w:ae} {ad:Option Addr} (hD:DatA w rs D br bp bt n1 nr Mr Er (dJ ts) xo xu np Mp vo vu) (hK:aO nY prog 29 w bK nK (Bt out)) (hf:f.fits) (hts:∀ t ∈ ts,t.fits) (htl:ts.length≤1000) (hsh:bz (ah rs)=true) (hkey:(f.a,f.r) ∈ au (ah rs)) (hs:mD w ad rs) :
  Calls prog 146 #[.pointer (some ⟨D,0,none⟩),.agg #[.string f.a,.string f.b,.string f.r,.string f.c,.string f.d],.map (some bK)] w fun e w'=>e=.returned (.bool (iX (ah rs) ts out f))∧af w w':=by
 obtain ⟨t,htm,q,hq,htab,hrx,hsp⟩:=P5 hsh hkey;obtain ⟨hN,hr1⟩:=JG hsp;have hnb:=ji hsp;have V5:pz rs q.ad q.rows:=.inr ⟨t,htm,q,hq,rfl,rfl⟩;obtain ⟨kl,hkl⟩:=kE (f.a,f.r) hf.1 hf.2.2.1;obtain ⟨W0,hW0⟩:∃ W0,W0=w.alloc (.cells #[.string f.a,.string f.b,.string f.r,.string f.c,.string f.d] 29):=⟨_,rfl⟩;have HB0:=nA hW0;have c0:W0.cell? ⟨w.heap.size,0,none⟩=some (.string f.a):=by rw [hW0]; simp
 have c1:W0.cell? ⟨w.heap.size,1,none⟩=some (.string f.b):=by rw [hW0]; simp
 have c2:W0.cell? ⟨w.heap.size,2,none⟩=some (.string f.r):=by rw [hW0]; simp
 have c3:W0.cell? ⟨w.heap.size,3,none⟩=some (.string f.c):=by rw [hW0]; simp
 have c4:W0.cell? ⟨w.heap.size,4,none⟩=some (.string f.d):=by rw [hW0]; simp
 have d0:=HB0.out.cell (p:=⟨D,0,none⟩) hD.dat.lt |>.trans hD.dat.c0;obtain ⟨TA,Xo⟩:∃ a,a=q.ad:=⟨_,rfl⟩;obtain ⟨capE,hcapE⟩:∃ a,a=q.cap:=⟨_,rfl⟩;obtain ⟨rows,hrows⟩:∃ a,a=q.rows:=⟨_,rfl⟩;have hsl:q.sl=.slice TA rows.length capE:=by rw [Xo,hcapE,hrows]; rfl
 rw [← hrows] at hN hnb hr1 hrx;rw [← hrows,← Xo] at V5;have hlk:∀ m,(Instr.lookup 91 (.map (some bt)) (.agg #[.string f.a,.string f.r]) false).run prog (W0.drewN m)=.ok (.slice TA rows.length capE) (W0.drewN m):=fun m=>by
  have h:=((hD.tab.below HB0.out).below (below_drewN (Sz _ _) m)).look (t:=91) (e:=33) ja underlying91 (ru _) (x:=(f.a,f.r)) hkl;rw [htab,hsl] at h;exact h
 have hr1000:=hN.len;have hwr:IntKind.i64.wrap ((rows.length:Int) - 1)=((rows.length - 1:Nat):Int):=by rw [IntKind.wrap_i64]; omega
 have HC:Hid (∀ nq,Calls prog 167 #[.pointer (some ⟨D,0,none⟩),.slice TA rows.length capE,.int .i64 ((rows.length - 1:Nat):Int),.agg #[.string f.a,.string f.b,.string f.r,.string f.c,.string f.d],.map (some bK)] (W0.drewN nq) fun e w'=>e=.returned (.bool (iX (ah rs) ts out f))∧Below (W0.drewN nq).heap.size (W0.drewN nq) w'):=fun nq=>by
  have hb:af w (W0.drewN nq):=below_drewN HB0.out nq;have h:=sw (capE:=capE) hN hnb hf hts htl rows.length (rows.length - 1) (W0.drewN nq) (by omega) (by omega) (hD.below hb) (hK.below hb) (V5.sl (hs.below hb));unfold iX;rw [← hrx,bi];exact h
 clear hD hK hs hsp hkl htab hsl hN hnb hf Xo hcapE hrows V5 hrx hkey;go_enter func146,ntmps146;go_wp2_with fail;rw [← hW0];clear hW0;go_quiet (fail);clear d0 hlk;go_wp2_with fail;refine (HC.out _).mono ?_;rintro e w1 ⟨rfl,hb1⟩;have HB1:=aC ((below_drewN HB0.out _).trans (hb1.mono HB0.out.size));clear hb1 c0 c1 c2 c3 c4;go_wp2;go_ret;exact ⟨rfl,HB1.out⟩
end
end Go.Proofs.YtajkkeikihhejaaGreat
