/- The program's question of a node: told by tuples, a name, over a relation, one of its kids, all of them. -/
import Derived.Test.YtajkkeikihhejaaGreatSq
import Derived.Test.YtajkkeikihhejaaGreatJ36
open Go.Proofs.Tryz
set_option maxHeartbeats 80000000
namespace Go.Proofs.YtajkkeikihhejaaGreat
set_option linter.unusedVariables false
set_option maxRecDepth 100000
open Go.ChangeShapes Go.WideShapes Go.ChangeAt Go.RowKit Go.Maps
open Pl
section
variable {w:World} {rs:List TR} {D br bp bt bK nK:Nat} {n1:Int} {nr:Nat} {Mr:KL→Option Value} {Er:List (KL × RR)} {ts:List Tp} {xo xu:List Al} {np:Nat} {Mp:K3→Option Value} {vo vu:Value} {out:List Fc} {f:Fc} {UD:Option Addr} {capE:Nat} {rows:List ER} {n:Nat}
theorem MH (hn:n < rows.length) (hD:DatA w rs D br bp bt n1 nr Mr Er (dK ts) xo xu np Mp vo vu) (hK:aM om prog 29 w bK nK (BR out)) (hf:f.fits) (hts:∀ t ∈ ts,t.fits) (htl:ts.length≤1000) (hex:iH w UD rows) (hre:rows.length≤1000) (hk:rows[n].e.kind=1) :
  Calls prog 167 #[.pointer (some ⟨D,0,none⟩),.slice UD rows.length capE,.int .i64 (n:Int),.agg #[.string f.a,.string f.b,.string f.r,.string f.c,.string f.d],.map (some bK)] w fun e w'=>e=.returned (.bool (dZ ts out f))∧ag w w':=by
 obtain ⟨b,off,UF,⟨t0,t1,t2,t3,t4⟩,hbl,hok⟩:=iH.at0 hex hn;obtain ⟨W0,hW0⟩:∃ W0,W0=Hw w D (.slice UD rows.length capE) f bK rows[n]:=⟨_,rfl⟩;have HB0:Hid (ag w W0):=by show Below _ _ _; rw [hW0]; exact lI _ _ _ _ _ _
 have Yx:Hid (NdB W0 w.heap.size D (.slice UD rows.length capE) f bK rows[n]):=by show NdB _ _ _ _ _ _ _; rw [hW0]; exact lJ _ _ _ _ _ _
 have hk1:(rows[n].e.kind == 1)=true:=by rw [hk]; rfl
 have ZH:b < w.heap.size + 1:=by omega
 have ZI:b < w.heap.size + 1 + 1:=by omega
 have YP:b < w.heap.size + 1 + 1 + 1:=by omega
 have hn1:=bB n;have hn2:(n:Int) < (rows.length:Int):=by omega
 unfold Hw yA at hW0;have HC:=aC (BS (hD.below HB0.out) (hK.below HB0.out) hf hts htl);clear hD hK hts hex hk hok;subst UF;go_enter func167,ntmps167;go_wp2_with fail;rw [← hW0];clear hW0 t0 t1 t2 t3 t4;refine (HC.out).mono ?_;rintro e w1 ⟨rfl,hb1⟩;have HB1:=aC (HB0.out.trans (hb1.mono HB0.out.size));clear hb1;go_wp2;go_ret;exact ⟨rfl,HB1.out⟩
theorem PG (hn:n < rows.length) (hK:aM om prog 29 w bK nK (BR out)) (hf:f.fits) (hnm:rows[n].e.name.size≤maxLen) (hex:iH w UD rows) (hre:rows.length≤1000) (hk:rows[n].e.kind=2) :
  Calls prog 167 #[.pointer (some ⟨D,0,none⟩),.slice UD rows.length capE,.int .i64 (n:Int),.agg #[.string f.a,.string f.b,.string f.r,.string f.c,.string f.d],.map (some bK)] w fun e w'=>e=.returned (.bool (bP out ⟨f.a,f.b,rows[n].e.name,f.c,f.d⟩))∧ag w w':=by
 obtain ⟨b,off,UF,⟨t0,t1,t2,t3,t4⟩,hbl,hok⟩:=iH.at0 hex hn;obtain ⟨W0,hW0⟩:∃ W0,W0=Hw w D (.slice UD rows.length capE) f bK rows[n]:=⟨_,rfl⟩;have HB0:Hid (ag w W0):=by show Below _ _ _; rw [hW0]; exact lI _ _ _ _ _ _
 have Yx:Hid (NdB W0 w.heap.size D (.slice UD rows.length capE) f bK rows[n]):=by show NdB _ _ _ _ _ _ _; rw [hW0]; exact lJ _ _ _ _ _ _
 have hk1:(rows[n].e.kind == 1)=false:=by rw [hk]; rfl
 have hk2:(rows[n].e.kind == 2)=true:=by rw [hk]; rfl
 have ZH:b < w.heap.size + 1:=by omega
 have ZI:b < w.heap.size + 1 + 1:=by omega
 have YP:b < w.heap.size + 1 + 1 + 1:=by omega
 have hn1:=bB n;have hn2:(n:Int) < (rows.length:Int):=by omega
 unfold Hw yA at hW0;have HC:=aC (vJ bK nK out ⟨f.a,f.b,rows[n].e.name,f.c,f.d⟩ W0 ⟨hf.1,hf.2.1,hnm,hf.2.2.2.1,hf.2.2.2.2⟩ (hK.below HB0.out));clear hK hex hk hok hf;subst UF;go_enter func167,ntmps167;go_wp2_with fail;rw [← hW0];clear hW0 t0 t1 t2 t3 t4;refine (HC.out).mono ?_;rintro e w1 ⟨rfl,hb1⟩;have HB1:=aC (HB0.out.trans (hb1.mono HB0.out.size));clear hb1;go_wp2;go_ret;exact ⟨rfl,HB1.out⟩
theorem MI (hn:n < rows.length) (hD:DatA w rs D br bp bt n1 nr Mr Er (dK ts) xo xu np Mp vo vu) (hK:aM om prog 29 w bK nK (BR out)) (hf:f.fits) (YO:rows[n].e.over.size≤maxLen∧rows[n].e.name.size≤maxLen) (hts:∀ t ∈ ts,t.fits) (htl:ts.length≤1000) (hex:iH w UD rows) (hre:rows.length≤1000) (hk:rows[n].e.kind=3) :
  Calls prog 167 #[.pointer (some ⟨D,0,none⟩),.slice UD rows.length capE,.int .i64 (n:Int),.agg #[.string f.a,.string f.b,.string f.r,.string f.c,.string f.d],.map (some bK)] w fun e w'=>e=.returned (.bool (gp ts out rows[n].e.over rows[n].e.name f))∧ag w w':=by
 obtain ⟨b,off,UF,⟨t0,t1,t2,t3,t4⟩,hbl,hok⟩:=iH.at0 hex hn;obtain ⟨W0,hW0⟩:∃ W0,W0=Hw w D (.slice UD rows.length capE) f bK rows[n]:=⟨_,rfl⟩;have HB0:Hid (ag w W0):=by show Below _ _ _; rw [hW0]; exact lI _ _ _ _ _ _
 have Yx:Hid (NdB W0 w.heap.size D (.slice UD rows.length capE) f bK rows[n]):=by show NdB _ _ _ _ _ _ _; rw [hW0]; exact lJ _ _ _ _ _ _
 have hk1:(rows[n].e.kind == 1)=false:=by rw [hk]; rfl
 have hk2:(rows[n].e.kind == 2)=false:=by rw [hk]; rfl
 have hk3:(rows[n].e.kind == 3)=true:=by rw [hk]; rfl
 have ZH:b < w.heap.size + 1:=by omega
 have ZI:b < w.heap.size + 1 + 1:=by omega
 have YP:b < w.heap.size + 1 + 1 + 1:=by omega
 have hn1:=bB n;have hn2:(n:Int) < (rows.length:Int):=by omega
 unfold Hw yA at hW0;have HC:=aC (BU (hD.below HB0.out) (hK.below HB0.out) rows[n] YO hf hts htl);clear hD hK hts hex hk hok YO hf;subst UF;go_enter func167,ntmps167;go_wp2_with fail;rw [← hW0];clear hW0 t0 t1 t2 t3 t4;refine (HC.out).mono ?_;rintro e w1 ⟨rfl,hb1⟩;have HB1:=aC (HB0.out.trans (hb1.mono HB0.out.size));clear hb1;go_wp2;go_ret;exact ⟨rfl,HB1.out⟩
theorem JN (hn:n < rows.length) (H:Int→Bool) (hkl:rows[n].e.kids.length≤1000) (ZF:∀ i ∈ rows[n].e.kids,JL D (.slice UD rows.length capE) f bK w i (H i)) (hex:iH w UD rows) (hre:rows.length≤1000) (hk:rows[n].e.kind=4) :
  Calls prog 167 #[.pointer (some ⟨D,0,none⟩),.slice UD rows.length capE,.int .i64 (n:Int),.agg #[.string f.a,.string f.b,.string f.r,.string f.c,.string f.d],.map (some bK)] w fun e w'=>e=.returned (.bool (rows[n].e.kids.any H))∧ag w w':=by
 obtain ⟨b,off,UF,⟨t0,t1,t2,t3,t4⟩,hbl,hok⟩:=iH.at0 hex hn;obtain ⟨W0,hW0⟩:∃ W0,W0=Hw w D (.slice UD rows.length capE) f bK rows[n]:=⟨_,rfl⟩;have HB0:Hid (ag w W0):=by show Below _ _ _; rw [hW0]; exact lI _ _ _ _ _ _
 have Yx:Hid (NdB W0 w.heap.size D (.slice UD rows.length capE) f bK rows[n]):=by show NdB _ _ _ _ _ _ _; rw [hW0]; exact lJ _ _ _ _ _ _
 have hk1:(rows[n].e.kind == 1)=false:=by rw [hk]; rfl
 have hk2:(rows[n].e.kind == 2)=false:=by rw [hk]; rfl
 have hk3:(rows[n].e.kind == 3)=false:=by rw [hk]; rfl
 have hk4:(rows[n].e.kind == 4)=true:=by rw [hk]; rfl
 have ZH:b < w.heap.size + 1:=by omega
 have ZI:b < w.heap.size + 1 + 1:=by omega
 have YP:b < w.heap.size + 1 + 1 + 1:=by omega
 have hn1:=bB n;have hn2:(n:Int) < (rows.length:Int):=by omega
 unfold Hw yA at hW0;have HC:=aC (sH 211 #[] #[.pointer (some ⟨w.heap.size,0,none⟩),.pointer (some ⟨w.heap.size + 1,0,none⟩),.pointer (some ⟨w.heap.size + 1 + 1,0,none⟩),.pointer (some ⟨w.heap.size + 1 + 1 + 1,0,none⟩)] H rows[n].adK rows[n].capK rows[n].e.kids W0 (by omega) (hok.2.below HB0.out) SC (fun i hi w1 hb=>pF (ZF i hi) (HB0.out.trans (hb.mono HB0.out.size)) (Yx.out.below hb)));clear ZF hex hk hok;subst UF;go_enter func167,ntmps167;go_wp2_with fail;rw [← hW0];clear hW0 t0 t1 t2 t3 t4;refine (HC.out).mono ?_;rintro e w1 ⟨rfl,hb1⟩;have HB1:=aC (HB0.out.trans (hb1.mono HB0.out.size));clear hb1;go_wp2;go_ret;exact ⟨rfl,HB1.out⟩
theorem MJ (hn:n < rows.length) (H:Int→Bool) (hkl:rows[n].e.kids.length≤1000) (ZF:∀ i ∈ rows[n].e.kids,JL D (.slice UD rows.length capE) f bK w i (H i)) (hex:iH w UD rows) (hre:rows.length≤1000) (hk:rows[n].e.kind=5) :
  Calls prog 167 #[.pointer (some ⟨D,0,none⟩),.slice UD rows.length capE,.int .i64 (n:Int),.agg #[.string f.a,.string f.b,.string f.r,.string f.c,.string f.d],.map (some bK)] w fun e w'=>e=.returned (.bool (rows[n].e.kids.all H))∧ag w w':=by
 obtain ⟨b,off,UF,⟨t0,t1,t2,t3,t4⟩,hbl,hok⟩:=iH.at0 hex hn;obtain ⟨W0,hW0⟩:∃ W0,W0=Hw w D (.slice UD rows.length capE) f bK rows[n]:=⟨_,rfl⟩;have HB0:Hid (ag w W0):=by show Below _ _ _; rw [hW0]; exact lI _ _ _ _ _ _
 have Yx:Hid (NdB W0 w.heap.size D (.slice UD rows.length capE) f bK rows[n]):=by show NdB _ _ _ _ _ _ _; rw [hW0]; exact lJ _ _ _ _ _ _
 have hk1:(rows[n].e.kind == 1)=false:=by rw [hk]; rfl
 have hk2:(rows[n].e.kind == 2)=false:=by rw [hk]; rfl
 have hk3:(rows[n].e.kind == 3)=false:=by rw [hk]; rfl
 have hk4:(rows[n].e.kind == 4)=false:=by rw [hk]; rfl
 have hk5:(rows[n].e.kind == 5)=true:=by rw [hk]; rfl
 have ZH:b < w.heap.size + 1:=by omega
 have ZI:b < w.heap.size + 1 + 1:=by omega
 have YP:b < w.heap.size + 1 + 1 + 1:=by omega
 have hn1:=bB n;have hn2:(n:Int) < (rows.length:Int):=by omega
 unfold Hw yA at hW0;have HC:=aC (sH 212 #[] #[.pointer (some ⟨w.heap.size + 1 + 1 + 1 + 1 + 1,0,none⟩)] (fun i=>!H i) rows[n].adK rows[n].capK rows[n].e.kids W0 (by omega) (hok.2.below HB0.out) SE (fun i hi w1 hb=>vL (ZF i hi) (HB0.out.trans (hb.mono HB0.out.size)) (Yx.out.below hb)));have UO:Hid ((rows[n].e.kids.any fun i=>!H i)=!rows[n].e.kids.all H):=by show _=_; rw [List.not_all_eq_any_not]
 clear ZF hex hk hok;subst UF;go_enter func167,ntmps167;go_wp2_with fail;rw [← hW0];clear hW0 t0 t1 t2 t3 t4;refine (HC.out).mono ?_;rintro e w1 ⟨he,hb1⟩;rw [UO.out] at he;subst he;have HB1:=aC (HB0.out.trans (hb1.mono HB0.out.size));clear hb1;go_wp2;go_ret;exact ⟨by simp,HB1.out⟩
end
open Go.Sort
section
variable {w:World} {rs:List TR} {D br bp bt bK nK:Nat} {n1:Int} {nr:Nat} {Mr:KL→Option Value} {Er:List (KL × RR)} {ts:List Tp} {xo xu:List Al} {np:Nat} {Mp:K3→Option Value} {vo vu:Value} {out:List Fc} {f:Fc} {UD:Option Addr} {capE:Nat} {rows:List ER} {n:Nat}
theorem PH (hn:n < rows.length) (b0 b1:Bool) (hkl:rows[n].e.kids.length≤1000) (hk2l:2≤rows[n].e.kids.length) (hA:JL D (.slice UD rows.length capE) f bK w (rows[n].e.kids.getD 0 0) b0) (hB:JL D (.slice UD rows.length capE) f bK w (rows[n].e.kids.getD 1 0) b1) (hex:iH w UD rows) (hre:rows.length≤1000) (hk:rows[n].e.kind=6) :
  Calls prog 167 #[.pointer (some ⟨D,0,none⟩),.slice UD rows.length capE,.int .i64 (n:Int),.agg #[.string f.a,.string f.b,.string f.r,.string f.c,.string f.d],.map (some bK)] w fun e w'=>e=.returned (.bool (b0 && !b1))∧ag w w':=by
 obtain ⟨b,off,UF,⟨t0,t1,t2,t3,t4⟩,hbl,hok⟩:=iH.at0 hex hn;obtain ⟨W0,hW0⟩:∃ W0,W0=Hw w D (.slice UD rows.length capE) f bK rows[n]:=⟨_,rfl⟩;have HB0:Hid (ag w W0):=by show Below _ _ _; rw [hW0]; exact lI _ _ _ _ _ _
 have Yx:Hid (NdB W0 w.heap.size D (.slice UD rows.length capE) f bK rows[n]):=by show NdB _ _ _ _ _ _ _; rw [hW0]; exact lJ _ _ _ _ _ _
 have hk1:(rows[n].e.kind == 1)=false:=by rw [hk]; rfl
 have hk2:(rows[n].e.kind == 2)=false:=by rw [hk]; rfl
 have hk3:(rows[n].e.kind == 3)=false:=by rw [hk]; rfl
 have hk4:(rows[n].e.kind == 4)=false:=by rw [hk]; rfl
 have hk5:(rows[n].e.kind == 5)=false:=by rw [hk]; rfl
 have ZH:b < w.heap.size + 1:=by omega
 have ZI:b < w.heap.size + 1 + 1:=by omega
 have YP:b < w.heap.size + 1 + 1 + 1:=by omega
 have hn1:=bB n;have hn2:(n:Int) < (rows.length:Int):=by omega
 unfold Hw yA at hW0;have h0k:0 < rows[n].e.kids.length:=by omega
 have h1k:1 < rows[n].e.kids.length:=by omega
 obtain ⟨bJ,YY,U8,z0,Z7⟩:=p8.at0 hok.2 h0k;have z1:w.cell? ⟨bJ,YY + 1,none⟩=some (.int .i64 rows[n].e.kids[1]):=by
  obtain ⟨b',off',XP,z1,-⟩:=p8.at0 hok.2 h1k;rw [U8] at XP; injection XP with e; injection e with e1 e2;rw [e1,e2]; exact z1
 obtain ⟨i0,hi0⟩:∃ i,i=rows[n].e.kids[0]:=⟨_,rfl⟩;obtain ⟨i1,hi1⟩:∃ i,i=rows[n].e.kids[1]:=⟨_,rfl⟩;have g0:rows[n].e.kids.getD 0 0=i0:=by rw [hi0,List.getD_eq_getElem?_getD,TY h0k]; rfl
 have g1:rows[n].e.kids.getD 1 0=i1:=by rw [hi1,List.getD_eq_getElem?_getD,TY h1k]; rfl
 rw [g0] at hA;rw [g1] at hB;rw [← hi0,Nat.add_zero] at z0;rw [← hi1] at z1;obtain ⟨kl,hkl'⟩:∃ kl,kl=rows[n].e.kids.length:=⟨_,rfl⟩;obtain ⟨cK,hcK⟩:∃ c,c=rows[n].capK:=⟨_,rfl⟩;have hl0:(0:Int) < (kl:Int):=by omega
 have hl1:(1:Int) < (kl:Int):=by omega
 have h0k':0 < kl:=by omega
 have h1k':1 < kl:=by omega
 have HA:Hid (∀ w1,ag W0 w1→_):=fun w1 hb=>pF hA (HB0.out.trans (hb.mono HB0.out.size)) (Yx.out.below hb);have Wn:Hid (∀ w1,ag W0 w1→_):=fun w1 hb=>vL hB (HB0.out.trans (hb.mono HB0.out.size)) (Yx.out.below hb);have HZ:Hid (W0.cell? ⟨bJ,YY,none⟩=some (.int .i64 i0)∧W0.cell? ⟨bJ,YY + 1,none⟩=some (.int .i64 i1)∧bJ < W0.heap.size):=⟨(HB0.out.cell (p:=⟨bJ,YY,none⟩) Z7).trans z0,(HB0.out.cell (p:=⟨bJ,YY + 1,none⟩) Z7).trans z1,TP Z7 HB0.out.size⟩;have HX4:Hid (W0.cell? ⟨w.heap.size + 1 + 1 + 1 + 1,4,none⟩=some (.slice (some ⟨bJ,YY,none⟩) kl cK)):=by show _=_; rw [Yx.out.x4,U8,← hkl',← hcK]
 have HV5:Hid (W0.cell? ⟨w.heap.size + 1 + 1 + 1 + 1 + 1,0,none⟩=some (.func (Fn.func 211) #[] #[.pointer (some ⟨w.heap.size,0,none⟩),.pointer (some ⟨w.heap.size + 1,0,none⟩),.pointer (some ⟨w.heap.size + 1 + 1,0,none⟩),.pointer (some ⟨w.heap.size + 1 + 1 + 1,0,none⟩)])):=Yx.out.v;clear hA hB hex hk hok z0 z1 U8 h0k h1k g0 g1 hi0 hi1;subst UF;go_enter func167,ntmps167;go_wp2_with fail;rw [← hW0];clear hW0 t0 t1 t2 t3 t4;clear hk1 hk2 hk3 hk4 hk5 hkl' hcK;have HAA:Hid (∀ d os,Calls prog 211 #[.int .i64 i0,.pointer (some ⟨w.heap.size,0,none⟩),.pointer (some ⟨w.heap.size + 1,0,none⟩),.pointer (some ⟨w.heap.size + 1 + 1,0,none⟩),.pointer (some ⟨w.heap.size + 1 + 1 + 1,0,none⟩)] (grow (redrawn W0 d) os) fun e w''=>e=.returned (.bool b0)∧∃ p:Regrown,w''=grow (redrawn W0 p.d) p.os):=by
  refine dm fun W' hb=>?_;exact HA.out _ hb
 have HBQ:Hid (∀ d os,Calls prog 212 #[.int .i64 i1,.pointer (some ⟨w.heap.size + 1 + 1 + 1 + 1 + 1,0,none⟩)] (grow (redrawn W0 d) os) fun e w''=>e=.returned (.bool (!b1))∧∃ p:Regrown,w''=grow (redrawn W0 p.d) p.os):=by
  refine dm fun W' hb=>?_;exact Wn.out _ hb
 have x4:=cell_regrown HX4.out;have v5:=cell_regrown HV5.out;have z0:=cell_regrown HZ.out.1;have z1:=cell_regrown HZ.out.2.1;clear HA Wn Yx;cases b0
 case' true =>
  skip
 case' false =>
  skip
 all_goals
  refine wp_region_quiet_below (by kernel_rfl) (by kernel_rfl) ?_
  repeat (go_big_quiet_step (first | exact HAA.out _ _ | exact HBQ.out _ _))
  refine wpQuiet_nil ?_;rintro _ ⟨⟨dq,osq⟩,rfl⟩;go_wp2;go_ret;exact ⟨rfl,HB0.out.trans ((below_regrown W0 dq osq).mono HB0.out.size)⟩
end
set_option linter.unusedSectionVars false
def kF (sts:List St) (xu:List Al) (n:Int) (o:Al) (k:Nat):List Fc:=((sts.take k).filter fun s=>s.typ.toList == o.t.toList && decide (s.n=n)).flatMap fun s=>iZ o s.rel xu
def SF (sts:List St) (xu:List Al) (n:Int) (o:Al):List Fc:=kF sts xu n o sts.length
def rX (sts:List St) (xo xu:List Al) (n:Int) (i:Nat):List Fc:=(xo.take i).flatMap (SF sts xu n)
theorem MK (sts:List St) (xu:List Al) (n:Int) (o:Al):kF sts xu n o 0=[]:=rfl
theorem QT {sts:List St} {xu:List Al} {n:Int} {o:Al} {k:Nat} (h:k < sts.length) (hc:(sts[k].typ.toList == o.t.toList && decide (sts[k].n=n))=false):kF sts xu n o (k + 1)=kF sts xu n o k:=by
 unfold kF;rw [TV h,Uz,List.flatMap_append];simp [hc]
theorem PK {sts:List St} {xu:List Al} {n:Int} {o:Al} {k:Nat} (h:k < sts.length) (hc:(sts[k].typ.toList == o.t.toList && decide (sts[k].n=n))=true):kF sts xu n o (k + 1)=kF sts xu n o k ++ iZ o sts[k].rel xu:=by
 unfold kF;rw [TV h,Uz,List.flatMap_append];simp [hc]
theorem MM {sts:List St} {xo xu:List Al} {n:Int} {i:Nat} (h:i < xo.length):rX sts xo xu n (i + 1)=rX sts xo xu n i ++ kF sts xu n xo[i] sts.length:=by
 unfold rX;rw [TV h,List.flatMap_append];simp [SF]
theorem PM {ts:List Ty} {sts:List St} (hk:iE sts=au ts) (hn:(au ts).Nodup) (xo xu:List Al) (n:Int):rX sts xo xu n xo.length=bY ts (fO sts) xo xu n:=by
 unfold rX bY;rw [Ug];congr 1
 funext o
 unfold SF kF vD;rw [Ug,QP hk hn,List.flatMap_map];rfl
theorem MN (o:Al) (rel:bH) {xu:List Al} {j:Nat} (h:j < xu.length):iZ o rel (xu.take (j + 1))=iZ o rel (xu.take j) ++ [⟨o.t,o.s,rel,xu[j].t,xu[j].s⟩]:=by
 unfold iZ;rw [TV h,List.map_append]; rfl
theorem Bc {e:Ex} (h:ax e=true):e.kids.length≤5∧(e.kind=6→2≤e.kids.length):=by
 unfold ax at h;by_cases k1:e.kind=1
 ·rw [if_pos k1] at h; simp only [TU,Ud] at h; exact ⟨by omega,fun h6=>by omega⟩
 by_cases k2:e.kind=2
 ·rw [if_neg k1,if_pos k2] at h; simp only [TU,Ud] at h; exact ⟨by omega,fun h6=>by omega⟩
 by_cases k3:e.kind=3
 ·rw [if_neg k1,if_neg k2,if_pos k3] at h; simp only [TU,Ud] at h; exact ⟨by omega,fun h6=>by omega⟩
 by_cases k4:e.kind=4 ∨ e.kind=5
 ·rw [if_neg k1,if_neg k2,if_neg k3,if_pos k4] at h; simp only [TU,Ud] at h; exact ⟨by omega,fun h6=>by omega⟩
 by_cases k6:e.kind=6
 ·rw [if_neg k1,if_neg k2,if_neg k3,if_neg k4,if_pos k6] at h; simp only [TU,Ud] at h; exact ⟨by omega,fun h6=>by omega⟩
 rw [if_neg k1,if_neg k2,if_neg k3,if_neg k4,if_neg k6] at h; cases h
theorem Kw {rows:List ER} (h:aK (ak rows)=true):WV rows∧1≤rows.length:=by
 have hl:1≤rows.length∧rows.length≤15:=by
  unfold aK at h;simp only [TU,Ud,aT] at h;exact ⟨h.1.1.1.1.1,h.1.1.1.1.2⟩
 have hlow:=Jn h;have hkl:∀ q ∈ rows,q.e.kids.length≤1000:=fun q hq=>by
  have:=(Bc (jl h q.e (Ue.2 ⟨q,hq,rfl⟩))).1;omega
 refine ⟨⟨by omega,hkl,hlow,fun e he h6=>?_⟩,hl.1⟩;exact (Bc (jl h e he)).2 h6
section
variable [DecidableEq Fc]
theorem rQ (H:List Fc→Fc→Bool) (qs:List Fc) (f:Fc) (out:List Fc):bG H (qs ++ [f]) out=dR H (bG H qs out) f:=by rw [Gs]; rfl
theorem vM {H:List Fc→Fc→Bool} {out:List Fc} {f:Fc} (h:bP out f=true ∨ H out f=false):dR H out f=out:=by
 unfold dR;rw [if_pos];rcases h with h | h
 ·exact .inl (dB.1 h)
 exact .inr h
theorem DI {H:List Fc→Fc→Bool} {out:List Fc} {f:Fc} (h1:bP out f=false) (h2:H out f=true):dR H out f=out ++ [f]:=by
 unfold dR;rw [if_neg];rintro (h | h)
 ·rw [dB.2 h] at h1; cases h1
 rw [h2] at h; cases h
theorem G5 (H:List Fc→Fc→Bool) (qs out:List Fc):out.length≤(bG H qs out).length:=by
 obtain ⟨n,e,-⟩:=jF (H:=H) qs out;rw [e,T9]; omega
theorem JO {H:List Fc→Fc→Bool} {qs out:List Fc} (h:decide (out.length < (bG H qs out).length)=false):bG H qs out=out:=by
 obtain ⟨n,e,-⟩:=jF (H:=H) qs out;rw [e,T9,decide_eq_false_iff_not] at h;have:n=[]:=Ui.1 (by omega);rw [e,this,List.append_nil]
end
theorem JP {e:Ex} (h:ax e=true):(e.kind=2→e.name.size≤maxLen)∧(e.kind=3→e.over.size≤maxLen∧e.name.size≤maxLen)∧(e.kind=1 ∨ e.kind=2 ∨ e.kind=3 ∨ e.kind=4 ∨ e.kind=5 ∨ e.kind=6):=by
 unfold ax at h;have hle:∀ s:ByteArray,aP s=true→s.size≤maxLen:=fun s hs=>by have:=(nW hs).2; unfold maxLen; omega
 by_cases k1:e.kind=1
 ·exact ⟨fun h2=>by omega,fun h3=>by omega,.inl k1⟩
 by_cases k2:e.kind=2
 ·rw [if_neg k1,if_pos k2] at h; simp only [TU] at h; exact ⟨fun _=>hle _ h.1.1.1,fun h3=>by omega,.inr (.inl k2)⟩
 by_cases k3:e.kind=3
 ·rw [if_neg k1,if_neg k2,if_pos k3] at h; simp only [TU] at h; exact ⟨fun h2=>by omega,fun _=>⟨hle _ h.1.1.1,hle _ h.1.1.2⟩,.inr (.inr (.inl k3))⟩
 refine ⟨fun h2=>absurd h2 k2,fun h3=>absurd h3 k3,?_⟩;by_cases k4:e.kind=4 ∨ e.kind=5
 ·rcases k4 with k4 | k4
  ·exact .inr (.inr (.inr (.inl k4)))
  exact .inr (.inr (.inr (.inr (.inl k4))))
 by_cases k6:e.kind=6
 ·exact .inr (.inr (.inr (.inr (.inr k6))))
 rw [if_neg k1,if_neg k2,if_neg k3,if_neg k4,if_neg k6] at h; cases h
section
variable {rs:List TR} {D br bp bt bK nK:Nat} {n1:Int} {nr:Nat} {Mr:KL→Option Value} {Er:List (KL × RR)} {ts:List Tp} {xo xu:List Al} {np:Nat} {Mp:K3→Option Value} {vo vu:Value} {out:List Fc} {f:Fc} {UD:Option Addr} {capE:Nat} {rows:List ER}
theorem sI (hN:WV rows) (hnb:∀ e ∈ ak rows,ax e=true) (hf:f.fits) (hts:∀ t ∈ ts,t.fits) (htl:ts.length≤1000) :
  ∀ (k n:Nat) (w:World),n < k→n < rows.length→DatA w rs D br bp bt n1 nr Mr Er (dK ts) xo xu np Mp vo vu→aM om prog 29 w bK nK (BR out)→iH w UD rows →
  Calls prog 167 #[.pointer (some ⟨D,0,none⟩),.slice UD rows.length capE,.int .i64 (n:Int),.agg #[.string f.a,.string f.b,.string f.r,.string f.c,.string f.d],.map (some bK)] w fun e w'=>e=.returned (.bool (dS ts (ak rows) out f k out n))∧ag w w'
 | 0,_,_,h,_,_,_,_=>absurd h (Uw _)
 | k + 1,n,w,hk,hn,hD,hK,hex=>by
  have e:(ak rows)[n]?=some rows[n].e:=by simp [ak,hn]
  have Vh:∀ i ∈ rows[n].e.kids,JL D (.slice UD rows.length capE) f bK w i (dS ts (ak rows) out f k out i.toNat):=fun i hi w1 hb1=>by
   have h1:=hN.kid hn hi;have h2:=sI hN hnb hf hts htl k i.toNat w1 (by omega) (by omega) (hD.below hb1) (hK.below hb1) (hex.below hb1);have e2:((i.toNat:Nat):Int)=i:=by omega
   rw [e2] at h2;exact h2
  have hm:rows[n] ∈ rows:=TQ hn;have hme:rows[n].e ∈ ak rows:=Ue.2 ⟨_,hm,rfl⟩;obtain ⟨hn2,hn3,hkd⟩:=JP (hnb _ hme);unfold dS;rw [e];by_cases k1:rows[n].e.kind=1
  ·simp only [if_pos k1];exact MH hn hD hK hf hts htl hex hN.len k1
  by_cases k2:rows[n].e.kind=2
  ·simp only [if_neg k1,if_pos k2];exact PG hn hK hf (hn2 k2) hex hN.len k2
  by_cases k3:rows[n].e.kind=3
  ·simp only [if_neg k1,if_neg k2,if_pos k3];exact MI hn hD hK hf (hn3 k3) hts htl hex hN.len k3
  by_cases k4:rows[n].e.kind=4
  ·simp only [if_neg k1,if_neg k2,if_neg k3,if_pos k4];exact JN hn (fun i=>dS ts (ak rows) out f k out i.toNat) (hN.kids _ hm) Vh hex hN.len k4
  by_cases k5:rows[n].e.kind=5
  ·simp only [if_neg k1,if_neg k2,if_neg k3,if_neg k4,if_pos k5];exact MJ hn (fun i=>dS ts (ak rows) out f k out i.toNat) (hN.kids _ hm) Vh hex hN.len k5
  have k6:rows[n].e.kind=6:=by omega
  simp only [if_neg k1,if_neg k2,if_neg k3,if_neg k4,if_neg k5,if_pos k6];have h2:=hN.two _ hme k6;have hg:∀ q,q < 2→rows[n].e.kids.getD q 0 ∈ rows[n].e.kids:=fun q hq=>by
   rw [List.getD_eq_getElem?_getD,TY (by omega)];exact TQ _
  exact PH hn _ _ (hN.kids _ hm) h2 (Vh _ (hg 0 (by omega))) (Vh _ (hg 1 (by omega))) hex hN.len k6
theorem QU {rs:List TR} (h:bf (ae rs)=true) {k:ByteArray × ByteArray} (hk:k ∈ au (ae rs)):∃ t ∈ rs,∃ q ∈ t.rows,nR rs k=some q.sl∧ak q.rows=aA (ae rs) k.1 k.2∧aK (ak q.rows)=true:=by
 have hk':=hk;unfold au at hk;obtain ⟨T,hT,hk⟩:=Uf.1 hk;obtain ⟨t,ht,rfl⟩:=Ue.1 hT;unfold jE at hk;obtain ⟨r,hr,rfl⟩:=Ue.1 hk;obtain ⟨q,hq,rfl⟩:=Ue.1 hr;have hrel:=pz h ht hq;cases e:nR rs (t.p.name,q.p.name) with
 | none =>
  have h1:=(wy h).no _ e;have h2:fI (ae rs) t.name q.name=none:=h1;rw [hrel] at h2; cases h2
 | some v =>
  obtain ⟨t',ht',q',hq',-,rfl,e1,-⟩:=(wy h).yes _ v e;refine ⟨t',ht',q',hq',rfl,?_,((bq h).2.2 t' ht' q' hq').1⟩;unfold aA; rw [e1]; rfl
theorem MO {w:af} {ad:Option Addr} (hD:DatA w rs D br bp bt n1 nr Mr Er (dK ts) xo xu np Mp vo vu) (hK:aM om prog 29 w bK nK (BR out)) (hf:f.fits) (hts:∀ t ∈ ts,t.fits) (htl:ts.length≤1000) (hsh:bf (ae rs)=true) (hkey:(f.a,f.r) ∈ au (ae rs)) (hs:kX w ad rs) :
  Calls prog 146 #[.pointer (some ⟨D,0,none⟩),.agg #[.string f.a,.string f.b,.string f.r,.string f.c,.string f.d],.map (some bK)] w fun e w'=>e=.returned (.bool (fC (ae rs) ts out f))∧ag w w':=by
 obtain ⟨t,ZZ,q,hq,htab,hrx,hsp⟩:=QU hsh hkey;obtain ⟨hN,hr1⟩:=Kw hsp;have hnb:=jl hsp;have WT:pO rs q.ad q.rows:=.inr ⟨t,ZZ,q,hq,rfl,rfl⟩;obtain ⟨kl,hkl⟩:=jC (f.a,f.r) hf.1 hf.2.2.1;obtain ⟨W0,hW0⟩:∃ W0,W0=w.alloc (.cells #[.string f.a,.string f.b,.string f.r,.string f.c,.string f.d] 29):=⟨_,rfl⟩;have HB0:=qZ hW0;have c0:W0.cell? ⟨w.heap.size,0,none⟩=some (.string f.a):=by rw [hW0]; simp
 have c1:W0.cell? ⟨w.heap.size,1,none⟩=some (.string f.b):=by rw [hW0]; simp
 have c2:W0.cell? ⟨w.heap.size,2,none⟩=some (.string f.r):=by rw [hW0]; simp
 have c3:W0.cell? ⟨w.heap.size,3,none⟩=some (.string f.c):=by rw [hW0]; simp
 have c4:W0.cell? ⟨w.heap.size,4,none⟩=some (.string f.d):=by rw [hW0]; simp
 have d0:=HB0.out.cell (p:=⟨D,0,none⟩) hD.dat.lt |>.trans hD.dat.c0;obtain ⟨UD,Ye⟩:∃ a,a=q.ad:=⟨_,rfl⟩;obtain ⟨capE,hcapE⟩:∃ a,a=q.cap:=⟨_,rfl⟩;obtain ⟨rows,hrows⟩:∃ a,a=q.rows:=⟨_,rfl⟩;have hsl:q.sl=.slice UD rows.length capE:=by rw [Ye,hcapE,hrows]; rfl
 rw [← hrows] at hN hnb hr1 hrx;rw [← hrows,← Ye] at WT;have hlk:∀ m,(Instr.lookup 91 (.map (some bt)) (.agg #[.string f.a,.string f.r]) false).run prog (W0.drewN m)=.ok (.slice UD rows.length capE) (W0.drewN m):=fun m=>by
  have h:=((hD.tab.below HB0.out).below (below_drewN (TT _ _) m)).look (t:=91) (e:=33) ic underlying91 (lG _) (x:=(f.a,f.r)) hkl;rw [htab,hsl] at h;exact h
 have hr1000:=hN.len;have hwr:IntKind.i64.wrap ((rows.length:Int) - 1)=((rows.length - 1:Nat):Int):=by rw [IntKind.wrap_i64]; omega
 have HC:Hid (∀ nq,Calls prog 167 #[.pointer (some ⟨D,0,none⟩),.slice UD rows.length capE,.int .i64 ((rows.length - 1:Nat):Int),.agg #[.string f.a,.string f.b,.string f.r,.string f.c,.string f.d],.map (some bK)] (W0.drewN nq) fun e w'=>e=.returned (.bool (fC (ae rs) ts out f))∧Below (W0.drewN nq).heap.size (W0.drewN nq) w'):=fun nq=>by
  have hb:ag w (W0.drewN nq):=below_drewN HB0.out nq;have h:=sI (capE:=capE) hN hnb hf hts htl rows.length (rows.length - 1) (W0.drewN nq) (by omega) (by omega) (hD.below hb) (hK.below hb) (WT.sl (hs.below hb));unfold fC;rw [← hrx,aT];exact h
 clear hD hK hs hsp hkl htab hsl hN hnb hf Ye hcapE hrows WT hrx hkey;go_enter func146,ntmps146;go_wp2_with fail;rw [← hW0];clear hW0;go_quiet (fail);clear d0 hlk;go_wp2_with fail;refine (HC.out _).mono ?_;rintro e w1 ⟨rfl,hb1⟩;have HB1:=aC ((below_drewN HB0.out _).trans (hb1.mono HB0.out.size));clear hb1 c0 c1 c2 c3 c4;go_wp2;go_ret;exact ⟨rfl,HB1.out⟩
end
end Go.Proofs.YtajkkeikihhejaaGreat
