/- The program's question of a node that takes away. -/
import Derived.Test.YtajkkeikihhejaaGreatSq
import Derived.Test.YtajkkeikihhejaaGreatJ32
import Derived.Laws.EntriesVeiled
open Go.Proofs.Tryz
set_option maxHeartbeats 80000000
namespace Go.Proofs.YtajkkeikihhejaaGreat
open Go.Sort
set_option linter.unusedVariables false
set_option maxRecDepth 100000
open Go.ChangeShapes Go.WideShapes Go.ChangeAt Go.RowKit Go.Maps
open Pl
section
variable  {w:World}{rs:List TR}{D br bp bt bK nK:Nat}{n1:Int}{nr:Nat}{Mr:KL->Option Value}{Er:List (KL×RR)}{ts:List Tp}{xo xu:List Al}{np:Nat}{Mp:K3->Option Value}{vo vu:Value}{out:List Fc}{f:Fc}{UO:Option Addr}{capE:Nat}{rows:List ER}{n:Nat}
theorem PX (hn:n<rows.length)(b0 b1:Bool)(hkl:rows[n].e.kids.length<=1000)(hk2l:2<=rows[n].e.kids.length)(hA:JR D (.slice UO rows.length capE) f bK w (rows[n].e.kids.getD 0 0) b0)(hB:JR D (.slice UO rows.length capE) f bK w (rows[n].e.kids.getD 1 0) b1)(hex:iC w UO rows)(hre:rows.length<=1000)(hk:rows[n].e.kind=6) :
  Calls prog 167 #[.pointer (some ⟨D,0,none⟩),.slice UO rows.length capE,.int .i64 (n:Int),.agg #[.string f.a,.string f.b,.string f.r,.string f.c,.string f.d],.map (some bK)] w fun e w'=>e=.returned (.bool (b0 && !b1))/\ag w w':=by
 obtain ⟨b,off,UT,⟨t0,t1,t2,t3,t4⟩,hbl,hok⟩:=iC.at0 hex hn;obtain ⟨W0,hW0⟩:∃ W0,W0=Hy w D (.slice UO rows.length capE) f bK rows[n]:=⟨_,rfl⟩;have HB0:Hid (ag w W0):=by show Below _ _ _;rw [hW0];exact lH _ _ _ _ _ _
 have YM:Hid (NdB W0 w.heap.size D (.slice UO rows.length capE) f bK rows[n]):=by show NdB _ _ _ _ _ _ _;rw [hW0];exact lI _ _ _ _ _ _
 have hk1:(rows[n].e.kind==1)=false:=by rw [hk];rfl
 have hk2:(rows[n].e.kind==2)=false:=by rw [hk];rfl
 have hk3:(rows[n].e.kind==3)=false:=by rw [hk];rfl
 have hk4:(rows[n].e.kind==4)=false:=by rw [hk];rfl
 have hk5:(rows[n].e.kind==5)=false:=by rw [hk];rfl
 have ZP:b<w.heap.size+1:=by omega
 have ZQ:b<w.heap.size+1+1:=by omega
 have Y3:b<w.heap.size+1+1+1:=by omega
 have hn1:=bF n;have hn2:(n:Int)<(rows.length:Int):=by omega
 unfold Hy yD at hW0;have h0k:0<rows[n].e.kids.length:=by omega
 have h1k:1<rows[n].e.kids.length:=by omega
 obtain ⟨bJ,Zc,Vi,z0,ZN⟩:=p8.at0 hok.2 h0k;have z1:w.cell? ⟨bJ,Zc+1,none⟩=some (.int .i64 rows[n].e.kids[1]):=by
  obtain ⟨b',off',Yc,z1,-⟩:=p8.at0 hok.2 h1k;rw [Vi]at Yc;injection Yc with e;injection e with e1 e2;rw [e1,e2];exact z1
 obtain ⟨i0,hi0⟩:∃ i,i=rows[n].e.kids[0]:=⟨_,rfl⟩;obtain ⟨i1,hi1⟩:∃ i,i=rows[n].e.kids[1]:=⟨_,rfl⟩;have g0:rows[n].e.kids.getD 0 0=i0:=by rw [hi0,List.getD_eq_getElem?_getD,Uj h0k];rfl
 have g1:rows[n].e.kids.getD 1 0=i1:=by rw [hi1,List.getD_eq_getElem?_getD,Uj h1k];rfl
 rw [g0]at hA;rw [g1]at hB;rw [<-hi0,Nat.add_zero]at z0;rw [<-hi1]at z1;obtain ⟨kl,hkl'⟩:∃ kl,kl=rows[n].e.kids.length:=⟨_,rfl⟩;obtain ⟨cK,hcK⟩:∃ c,c=rows[n].capK:=⟨_,rfl⟩;have hl0:(0:Int)<(kl:Int):=by omega
 have hl1:(1:Int)<(kl:Int):=by omega
 have h0k':0<kl:=by omega
 have h1k':1<kl:=by omega
 have HA:Hid (∀ w1,ag W0 w1->_):=fun w1 hb=>pK hA (HB0.out.trans (hb.mono HB0.out.size)) (YM.out.below hb);have Wm:Hid (∀ w1,ag W0 w1->_):=fun w1 hb=>wh hB (HB0.out.trans (hb.mono HB0.out.size)) (YM.out.below hb);have HZ:Hid (W0.cell? ⟨bJ,Zc,none⟩=some (.int .i64 i0)/\W0.cell? ⟨bJ,Zc+1,none⟩=some (.int .i64 i1)/\bJ<W0.heap.size):=⟨(HB0.out.cell (p:=⟨bJ,Zc,none⟩) ZN).trans z0,(HB0.out.cell (p:=⟨bJ,Zc+1,none⟩) ZN).trans z1,Uc ZN HB0.out.size⟩;have HX4:Hid (W0.cell? ⟨w.heap.size+1+1+1+1,4,none⟩=some (.slice (some ⟨bJ,Zc,none⟩) kl cK)):=by show _=_;rw [YM.out.x4,Vi,<-hkl',<-hcK]
 have HV5:Hid (W0.cell? ⟨w.heap.size+1+1+1+1+1,0,none⟩=some (.func (Fn.func 211) #[] #[.pointer (some ⟨w.heap.size,0,none⟩),.pointer (some ⟨w.heap.size+1,0,none⟩),.pointer (some ⟨w.heap.size+1+1,0,none⟩),.pointer (some ⟨w.heap.size+1+1+1,0,none⟩)])):=YM.out.v;clear hA hB hex hk hok z0 z1 Vi h0k h1k g0 g1 hi0 hi1;subst UT;go_enter func167,ntmps167;go_wp2_with fail;rw [<-hW0];clear hW0 t0 t1 t2 t3 t4;clear hk1 hk2 hk3 hk4 hk5 hkl' hcK;have HAA:Hid (∀ d os,Calls prog 211 #[.int .i64 i0,.pointer (some ⟨w.heap.size,0,none⟩),.pointer (some ⟨w.heap.size+1,0,none⟩),.pointer (some ⟨w.heap.size+1+1,0,none⟩),.pointer (some ⟨w.heap.size+1+1+1,0,none⟩)] (grow (redrawn W0 d) os) fun e w''=>e=.returned (.bool b0)/\∃ p:Regrown,w''=grow (redrawn W0 p.d) p.os):=by
  refine bP fun W' hb=>?_;exact HA.out _ hb
 have V7:Hid (∀ d os,Calls prog 212 #[.int .i64 i1,.pointer (some ⟨w.heap.size+1+1+1+1+1,0,none⟩)] (grow (redrawn W0 d) os) fun e w''=>e=.returned (.bool (!b1))/\∃ p:Regrown,w''=grow (redrawn W0 p.d) p.os):=by
  refine bP fun W' hb=>?_;exact Wm.out _ hb
 have x4:=cell_regrown HX4.out;have v5:=cell_regrown HV5.out;have z0:=cell_regrown HZ.out.1;have z1:=cell_regrown HZ.out.2.1;clear HA Wm YM;cases b0
 case' true =>
  skip
 case' false =>
  skip
 all_goals
  refine wp_region_quiet_below (by kernel_rfl) (by kernel_rfl) ?_
  repeat (go_big_quiet_step (first|exact HAA.out _ _|exact V7.out _ _))
  refine wpQuiet_nil ?_;rintro _ ⟨⟨dq,osq⟩,rfl⟩;go_wp2;go_ret;exact ⟨rfl,HB0.out.trans ((below_regrown W0 dq osq).mono HB0.out.size)⟩
end
end Go.Proofs.YtajkkeikihhejaaGreat
