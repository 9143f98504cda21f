/- The program's questions of a node that is told by tuples, or goes over a relation. -/
import Derived.Test.YtogjfppkbkgaeaaGreatJ8
import Derived.Test.YtogjfppkbkgaeaaGreatJ20
import Derived.Test.YtogjfppkbkgaeaaGreatJ9
import Derived.BigQuiet
import Derived.WalkSmall
import Derived.Test.YtogjfppkbkgaeaaGreatJ21
import Derived.Test.YtogjfppkbkgaeaaGreatJ12
import Derived.RangeFuncNested
import Derived.RangeFuncLeaves
import Derived.WalkKit
import Derived.OwnWalkIn
import Derived.TacticsInMore
import Derived.LoopNIn
import Derived.LoopIn
namespace Go.Proofs.YtogjfppkbkgaeaaGreat
set_option linter.unusedVariables false
set_option maxRecDepth 100000
open Go.ChangeShapes Go.WideShapes Go.ChangeAt Go.RowKit Go.Maps
open Pl
def xV (out:List Fc) (f:Fc):Option Value:=if dO out f then some (.agg #[]) else none
theorem JS (out:List Fc) (f:Fc):(xV out f).isSome=dO out f:=by unfold xV; cases dO out f <;> rfl
theorem K8 (out:List Fc) (f:Fc):∀ v,xV out f=some v→v=.agg #[]:=fun v h=>by
 unfold xV at h; split at h
 ·injection h with h; exact h.symm
 ·cases h
theorem qE (b n:Nat) (out:List Fc) (f:Fc) (w:World) (hf:f.fits) (hV:aD j6 Tryz.prog 47 w b n (xV out)) :
  Calls Tryz.prog 97 #[.map (some b),.agg #[.string f.a,.string f.b,.string f.r,.string f.c,.string f.d]] w fun e w'=>e=.returned (.bool (dO out f))∧Below w.heap.size w w':=by
 have h:=BS b n (xV out) f w hf hV (K8 out f);rw [JS] at h;exact h
theorem CF {w:World} {bp np:Nat} {Mp:K3→Option Value} {E:List (K3 × Tp)} (h:G.Grp l8 Tryz.prog 162 73 6 Tp.row w bp np Mp E) (k:K3):∃ ad cap,(Mp k).getD (.slice none 0 0)=.slice ad (G.lookL E k).length cap∧Sl w ad (G.lookL E k):=by
 obtain ⟨ad,cap,e,hs,-⟩:=MX (ts:=G.lookL E k) (zb h k) rfl;exact ⟨ad,cap,e,hs⟩
theorem zw (p:Tp→Bool) {ts:List Tp} {k:Nat} (h:k < ts.length):(ts.drop k).any p=(p ts[k] || (ts.drop (k + 1)).any p):=by rw [List.drop_eq_getElem_cons h]; rfl
theorem CG {ts:List Tp} {k:K3} {t:Tp} (h:t ∈ G.lookL (cZ ts) k):t ∈ ts:=by
 have:=G.mem_lookL.1 h;unfold cZ at this;obtain ⟨x,hx,e⟩:=List.mem_map.1 this;injection e with e1 e2;rw [← e2]; exact hx
theorem CJ (ts:List Tp) (k:K3):(G.lookL (cZ ts) k).length≤ts.length:=by
 unfold G.lookL cZ;exact Nat.le_trans (List.length_filterMap_le _ _) (by simp)
section
variable {w:World} {rs:List TR} {D br bp bt bK nK:Nat} {n1:Int} {nr:Nat} {Mr:KL→Option Value} {Er:List (KL × RR)} {ts:List Tp} {xo xu:List Al} {np:Nat} {Mp:K3→Option Value} {vo vu:Value} {out:List Fc} {f:Fc}
set_option maxHeartbeats 4000000 in
theorem xW (hD:DatA w rs D br bp bt n1 nr Mr Er (cZ ts) xo xu np Mp vo vu) (hK:aD j6 Tryz.prog 47 w bK nK (xV out)) (hf:f.fits) (hts:∀ t ∈ ts,t.fits) (htl:ts.length≤1000) :
  Calls Tryz.prog 164 #[.pointer (some ⟨D,0,none⟩),.agg #[.string f.a,.string f.b,.string f.r,.string f.c,.string f.d],.map (some bK)] w fun e w'=>e=.returned (.bool (dP ts out f))∧Below w.heap.size w w':=by
 obtain ⟨kl,hkl⟩:=Ai (f.a,f.b,f.r) hf.1 hf.2.1 hf.2.2.1;obtain ⟨adL,capL,hgd,hsl⟩:=CF hD.dat.told (f.a,f.b,f.r);have HL:=az (EH ts out f);have hll:=CJ ts (f.a,f.b,f.r);have HFL:Hid (∀ t ∈ G.lookL (cZ ts) (f.a,f.b,f.r),t.fits):=fun t ht=>hts t (CG ht);obtain ⟨L,hLe⟩:∃ L,L=G.lookL (cZ ts) (f.a,f.b,f.r):=⟨_,rfl⟩;rw [← hLe] at hgd hsl HL hll HFL;obtain ⟨W0,hW0⟩:∃ W0,W0=w.alloc (.cells #[.string f.a,.string f.b,.string f.r,.string f.c,.string f.d] 47):=⟨_,rfl⟩;have HB0:Hid (Below w.heap.size w W0):=by show Below _ _ _; rw [hW0]; exact (Below.refl _ _).alloc (Nat.le_refl _) _
 have c0:W0.cell? ⟨w.heap.size,0,none⟩=some (.string f.a):=by rw [hW0]; simp
 have c1:W0.cell? ⟨w.heap.size,1,none⟩=some (.string f.b):=by rw [hW0]; simp
 have c2:W0.cell? ⟨w.heap.size,2,none⟩=some (.string f.r):=by rw [hW0]; simp
 have c3:W0.cell? ⟨w.heap.size,3,none⟩=some (.string f.c):=by rw [hW0]; simp
 have c4:W0.cell? ⟨w.heap.size,4,none⟩=some (.string f.d):=by rw [hW0]; simp
 have d3:=HB0.out.cell (p:=⟨D,3,none⟩) hD.dat.lt |>.trans hD.dat.c3;have hlk:∀ m,(Instr.lookup 109 (.map (some bp)) (.agg #[.string f.a,.string f.b,.string f.r]) false).run Tryz.prog (W0.drewN m)=.ok (.slice adL L.length capL) (W0.drewN m):=fun m=>by
  have h:=((hD.dat.told.map.below HB0.out).below (below_drewN (Below.refl _ _) m)).look (t:=109) (e:=30) LX Tryz.underlying109 (El _) (x:=(f.a,f.b,f.r)) hkl;rw [hgd] at h;exact h
 have HSL:=az hsl;have HKN:=az hK;have HF:=az hf;have HC0:Hid (W0.cell? ⟨w.heap.size,3,none⟩=some (.string f.c)∧W0.cell? ⟨w.heap.size,4,none⟩=some (.string f.d)∧w.heap.size < W0.heap.size):=⟨c3,c4,by rw [hW0]; simp⟩;clear hsl hK hf hLe hgd hkl;go_enter Tryz.func164,Tryz.ntmps164;go_wp2_with fail;rw [← hW0];clear hW0;go_quiet (fail);clear c0 c1 c2 c3 c4 d3 hlk;go_wp2;go_loopw [20] (fun i wr=>∃ k:Nat,k≤L.length∧i=.int .i64 k∧Hid ((L.drop k).any (jT out f)=L.any (jT out f))∧Hid (Below w.heap.size w wr)∧Hid (wr.cell? ⟨w.heap.size,3,none⟩=some (.string f.c)∧wr.cell? ⟨w.heap.size,4,none⟩=some (.string f.d)∧w.heap.size < wr.heap.size)) (fun i _=>L.length - (intOf i).toNat);case atStart=>exact ⟨0,Nat.zero_le _,rfl,rfl,below_drewN HB0.out _,HC0⟩
 case round =>
  clear HC0 HB0;obtain ⟨k,hk,rfl,HP,HB,HC⟩:=hrel;by_cases hlt:k < L.length
  ·obtain ⟨bT,offT,hadT,⟨a0,a1,a2,a3,a4,a5⟩,hbT⟩:=Sl.at0 (HSL.out.below HB.out) hlt;obtain ⟨c3,c4,cl⟩:=HC.out;have hi1:(0:Int)≤(k:Int):=by omega
   have hi2:(k:Int) < (L.length:Int):=by omega
   have HTF:=az (HFL.out _ (List.getElem_mem hlt));have HD2:Hid (L.any (jT out f)=(jT out f L[k] || (L.drop (k + 1)).any (jT out f))):=by show _=_; rw [← HP.out]; exact zw _ hlt
   obtain ⟨t,ht⟩:∃ t,t=L[k]:=⟨_,rfl⟩;rw [← ht] at a0 a1 a2 a3 a4 a5 HTF HD2;clear ht;obtain ⟨W1,hW1⟩:∃ W1,W1=wr.alloc (.cells #[.string t.a,.string t.b,.string t.r,.string t.c,.string t.d,.string t.s] 73):=⟨_,rfl⟩;have HBr:Hid (Below wr.heap.size wr W1):=by show Below _ _ _; rw [hW1]; exact (Below.refl _ _).alloc (Nat.le_refl _) _
   have HB1:=az (HB.out.trans (HBr.out.mono HB.out.size));have HC1:Hid (W1.cell? ⟨w.heap.size,3,none⟩=some (.string f.c)∧W1.cell? ⟨w.heap.size,4,none⟩=some (.string f.d)∧w.heap.size < W1.heap.size):=⟨mK HBr.out cl c3,mK HBr.out cl c4,Nat.lt_of_lt_of_le cl HBr.out.size⟩;subst hadT;cases hs:t.s.toList.isEmpty with
   | true =>
    have hs2:(t.s.toList == [])=true:=by rw [nJ]; exact hs
    have HTT:Hid (jT out f t=qN t.c t.d f.c f.d):=by show _=_; unfold jT; rw [if_pos hs]; rfl
    cases hu:qN t.c t.d f.c f.d with
    | true =>
     have heq:=bn _ _ _ _ hu;have HN:Hid (dP ts out f=true):=by show _=_; rw [HL.out,HD2.out,HTT.out,hu]; rfl
     clear hu hs;go_wp2;rw [← hW1];go_ret;exact ⟨by rw [HN.out]; rfl,HB1.out⟩
    | false =>
     have heq:=bn _ _ _ _ hu;have HP2:Hid ((L.drop (k + 1)).any (jT out f)=L.any (jT out f)):=by show _=_; rw [HD2.out,HTT.out,hu]; rfl
     clear hu hs;go_wp2;rw [← hW1];clear hW1;go_roundw;case rel=>exact ⟨k + 1,by omega,by go_num,HP2,HB1,HC1⟩
     case measure=>simp [intOf] <;> omega
   | false =>
    have hs2:(t.s.toList == [])=false:=by rw [nJ]; exact hs
    have HTT:Hid (jT out f t=dO out ⟨t.c,t.d,t.s,f.c,f.d⟩):=by show _=_; unfold jT; rw [if_neg (by rw [hs]; decide)]
    clear hs;go_wp2_with fail;rw [← hW1];clear hW1;refine (qE bK nK out ⟨t.c,t.d,t.s,f.c,f.d⟩ W1 ⟨HTF.out.2.2.2.1,HTF.out.2.2.2.2.1,HTF.out.2.2.2.2.2,HF.out.2.2.2.1,HF.out.2.2.2.2⟩ (HKN.out.below HB1.out)).mono ?_;rintro e w2 ⟨rfl,hb2⟩;have HB2:=az (HB1.out.trans (hb2.mono HB1.out.size));have HC2:Hid (w2.cell? ⟨w.heap.size,3,none⟩=some (.string f.c)∧w2.cell? ⟨w.heap.size,4,none⟩=some (.string f.d)∧w.heap.size < w2.heap.size):=⟨mK hb2 HC1.out.2.2 HC1.out.1,mK hb2 HC1.out.2.2 HC1.out.2.1,Nat.lt_of_lt_of_le HC1.out.2.2 hb2.size⟩;clear hb2;cases hh:dO out ⟨t.c,t.d,t.s,f.c,f.d⟩ with
    | true =>
     have HN:Hid (dP ts out f=true):=by show _=_; rw [HL.out,HD2.out,HTT.out,hh]; rfl
     go_wp2;go_ret;exact ⟨by rw [HN.out]; rfl,HB2.out⟩
    | false =>
     have HP2:Hid ((L.drop (k + 1)).any (jT out f)=L.any (jT out f)):=by show _=_; rw [HD2.out,HTT.out,hh]; rfl
     go_wp2;go_roundw;case rel=>exact ⟨k + 1,by omega,by go_num,HP2,HB2,HC2⟩
     case measure=>simp [intOf] <;> omega
  ·have HN:Hid (dP ts out f=false):=by show _=_; rw [HL.out,← HP.out,List.drop_of_length_le (by omega)]; rfl
   go_wp2;go_ret;exact ⟨by rw [HN.out]; rfl,HB.out⟩
set_option maxHeartbeats 4000000 in
theorem xX (hD:DatA w rs D br bp bt n1 nr Mr Er (cZ ts) xo xu np Mp vo vu) (hK:aD j6 Tryz.prog 47 w bK nK (xV out)) (x:ER) (hxf:x.e.over.size≤maxLen∧x.e.name.size≤maxLen) (hf:f.fits) (hts:∀ t ∈ ts,t.fits) (htl:ts.length≤1000) :
  Calls Tryz.prog 165 #[.pointer (some ⟨D,0,none⟩),.agg #[.int .i64 x.e.kind,.slice x.adA x.e.allow.length x.capA,.string x.e.over,.string x.e.name,.slice x.adK x.e.kids.length x.capK],.agg #[.string f.a,.string f.b,.string f.r,.string f.c,.string f.d],.map (some bK)] w fun e w'=>e=.returned (.bool (eX ts out x.e.over x.e.name f))∧Below w.heap.size w w':=by
 obtain ⟨kl,hkl⟩:=Ai (f.a,f.b,x.e.over) hf.1 hf.2.1 hxf.1;obtain ⟨adL,capL,hgd,hsl⟩:=CF hD.dat.told (f.a,f.b,x.e.over);have HL:=az (EJ ts out x.e.over x.e.name f);have hll:=CJ ts (f.a,f.b,x.e.over);have HFL:Hid (∀ t ∈ G.lookL (cZ ts) (f.a,f.b,x.e.over),t.fits):=fun t ht=>hts t (CG ht);obtain ⟨L,hLe⟩:∃ L,L=G.lookL (cZ ts) (f.a,f.b,x.e.over):=⟨_,rfl⟩;rw [← hLe] at hgd hsl HL hll HFL;obtain ⟨W0,hW0⟩:∃ W0,W0=(w.alloc (.cells #[.int .i64 x.e.kind,.slice x.adA x.e.allow.length x.capA,.string x.e.over,.string x.e.name,.slice x.adK x.e.kids.length x.capK] 154)).alloc (.cells #[.string f.a,.string f.b,.string f.r,.string f.c,.string f.d] 47):=⟨_,rfl⟩;have HB0:Hid (Below w.heap.size w W0):=by show Below _ _ _; rw [hW0]; exact ((Below.refl _ _).alloc (Nat.le_refl _) _).alloc (by simp) _
 have c0:W0.cell? ⟨w.heap.size + 1,0,none⟩=some (.string f.a):=by rw [hW0]; simp
 have c1:W0.cell? ⟨w.heap.size + 1,1,none⟩=some (.string f.b):=by rw [hW0]; simp
 have c2:W0.cell? ⟨w.heap.size + 1,2,none⟩=some (.string f.r):=by rw [hW0]; simp
 have c3:W0.cell? ⟨w.heap.size + 1,3,none⟩=some (.string f.c):=by rw [hW0]; simp
 have c4:W0.cell? ⟨w.heap.size + 1,4,none⟩=some (.string f.d):=by rw [hW0]; simp
 have x2:W0.cell? ⟨w.heap.size,2,none⟩=some (.string x.e.over):=by rw [hW0]; simp
 have x3:W0.cell? ⟨w.heap.size,3,none⟩=some (.string x.e.name):=by rw [hW0]; simp
 have d3:=HB0.out.cell (p:=⟨D,3,none⟩) hD.dat.lt |>.trans hD.dat.c3;have hlk:∀ m,(Instr.lookup 109 (.map (some bp)) (.agg #[.string f.a,.string f.b,.string x.e.over]) false).run Tryz.prog (W0.drewN m)=.ok (.slice adL L.length capL) (W0.drewN m):=fun m=>by
  have h:=((hD.dat.told.map.below HB0.out).below (below_drewN (Below.refl _ _) m)).look (t:=109) (e:=30) LX Tryz.underlying109 (El _) (x:=(f.a,f.b,x.e.over)) hkl;rw [hgd] at h;exact h
 have HSL:=az hsl;have HKN:=az hK;have HF:=az hf;have HXF:=az hxf;have HC0:Hid (W0.cell? ⟨w.heap.size + 1,3,none⟩=some (.string f.c)∧W0.cell? ⟨w.heap.size + 1,4,none⟩=some (.string f.d)∧W0.cell? ⟨w.heap.size,3,none⟩=some (.string x.e.name)∧w.heap.size + 1 < W0.heap.size):=⟨c3,c4,x3,by rw [hW0]; simp⟩;clear hsl hK hf hLe hgd hkl;go_enter Tryz.func165,Tryz.ntmps165;go_wp2_with fail;rw [← hW0];clear hW0;go_quiet (fail);clear c0 c1 c2 c3 c4 d3 x2 x3 hlk;go_wp2;go_loopw [22] (fun i wr=>∃ k:Nat,k≤L.length∧i=.int .i64 k∧Hid ((L.drop k).any (qD out x.e.name f)=L.any (qD out x.e.name f))∧Hid (Below w.heap.size w wr)∧Hid (wr.cell? ⟨w.heap.size + 1,3,none⟩=some (.string f.c)∧wr.cell? ⟨w.heap.size + 1,4,none⟩=some (.string f.d)∧wr.cell? ⟨w.heap.size,3,none⟩=some (.string x.e.name)∧w.heap.size + 1 < wr.heap.size)) (fun i _=>L.length - (intOf i).toNat);case atStart=>exact ⟨0,Nat.zero_le _,rfl,rfl,below_drewN HB0.out _,HC0⟩
 case round =>
  clear HC0 HB0;obtain ⟨k,hk,rfl,HP,HB,HC⟩:=hrel;by_cases hlt:k < L.length
  ·obtain ⟨bT,offT,hadT,⟨a0,a1,a2,a3,a4,a5⟩,hbT⟩:=Sl.at0 (HSL.out.below HB.out) hlt;obtain ⟨c3,c4,x3,cl⟩:=HC.out;have cl0:w.heap.size < wr.heap.size:=by omega
   have hi1:(0:Int)≤(k:Int):=by omega
   have hi2:(k:Int) < (L.length:Int):=by omega
   have HTF:=az (HFL.out _ (List.getElem_mem hlt));have HD2:Hid (L.any (qD out x.e.name f)=(qD out x.e.name f L[k] || (L.drop (k + 1)).any (qD out x.e.name f))):=by show _=_; rw [← HP.out]; exact zw _ hlt
   obtain ⟨t,ht⟩:∃ t,t=L[k]:=⟨_,rfl⟩;rw [← ht] at a0 a1 a2 a3 a4 a5 HTF HD2;clear ht;obtain ⟨W1,hW1⟩:∃ W1,W1=wr.alloc (.cells #[.string t.a,.string t.b,.string t.r,.string t.c,.string t.d,.string t.s] 73):=⟨_,rfl⟩;have HBr:Hid (Below wr.heap.size wr W1):=by show Below _ _ _; rw [hW1]; exact (Below.refl _ _).alloc (Nat.le_refl _) _
   have HB1:=az (HB.out.trans (HBr.out.mono HB.out.size));have HC1:Hid (W1.cell? ⟨w.heap.size + 1,3,none⟩=some (.string f.c)∧W1.cell? ⟨w.heap.size + 1,4,none⟩=some (.string f.d)∧W1.cell? ⟨w.heap.size,3,none⟩=some (.string x.e.name)∧w.heap.size + 1 < W1.heap.size):=⟨mK HBr.out cl c3,mK HBr.out cl c4,mK HBr.out cl0 x3,Nat.lt_of_lt_of_le cl HBr.out.size⟩;subst hadT;have HTT:Hid (qD out x.e.name f t=dO out ⟨t.c,t.d,x.e.name,f.c,f.d⟩):=rfl;go_wp2_with fail;rw [← hW1];clear hW1;refine (qE bK nK out ⟨t.c,t.d,x.e.name,f.c,f.d⟩ W1 ⟨HTF.out.2.2.2.1,HTF.out.2.2.2.2.1,HXF.out.2,HF.out.2.2.2.1,HF.out.2.2.2.2⟩ (HKN.out.below HB1.out)).mono ?_;rintro e w2 ⟨rfl,hb2⟩;have HB2:=az (HB1.out.trans (hb2.mono HB1.out.size));have HC2:Hid (w2.cell? ⟨w.heap.size + 1,3,none⟩=some (.string f.c)∧w2.cell? ⟨w.heap.size + 1,4,none⟩=some (.string f.d)∧w2.cell? ⟨w.heap.size,3,none⟩=some (.string x.e.name)∧w.heap.size + 1 < w2.heap.size):=⟨mK hb2 HC1.out.2.2.2 HC1.out.1,mK hb2 HC1.out.2.2.2 HC1.out.2.1,mK hb2 (by have:=HC1.out.2.2.2; omega) HC1.out.2.2.1,Nat.lt_of_lt_of_le HC1.out.2.2.2 hb2.size⟩;clear hb2;cases hh:dO out ⟨t.c,t.d,x.e.name,f.c,f.d⟩ with
   | true =>
    have HN:Hid (eX ts out x.e.over x.e.name f=true):=by show _=_; rw [HL.out,HD2.out,HTT.out,hh]; rfl
    go_wp2;go_ret;exact ⟨by rw [HN.out]; rfl,HB2.out⟩
   | false =>
    have HP2:Hid ((L.drop (k + 1)).any (qD out x.e.name f)=L.any (qD out x.e.name f)):=by show _=_; rw [HD2.out,HTT.out,hh]; rfl
    go_wp2;go_roundw;case rel=>exact ⟨k + 1,by omega,by go_num,HP2,HB2,HC2⟩
    case measure=>simp [intOf] <;> omega
  ·have HN:Hid (eX ts out x.e.over x.e.name f=false):=by show _=_; rw [HL.out,← HP.out,List.drop_of_length_le (by omega)]; rfl
   go_wp2;go_ret;exact ⟨by rw [HN.out]; rfl,HB.out⟩
end
end Go.Proofs.YtogjfppkbkgaeaaGreat
namespace Go.Proofs.YtogjfppkbkgaeaaGreat
set_option linter.unusedVariables false
set_option maxRecDepth 100000
open Go.ChangeShapes Go.WideShapes Go.ChangeAt Go.RowKit Go.Maps Go.Shelf
open Pl
attribute [local go_sem] Oper.semAt_some
structure InM (W:World) (D br nr:Nat) (Mr:KL→Option Value) (Er:List (KL × RR)) (adO:Option Addr) (capO:Nat) (xo:List Al) (gD gS gU:Nat) (sn:Int) (adU:Option Addr) (capU:Nat) (us:List Al):Prop where
 d2:W.cell? ⟨D,2,none⟩=some (.map (some br))
 d4:W.cell? ⟨D,4,none⟩=some (.slice adO xo.length capO)
 objs:dm W adO xo
 rel:Aw W br nr Mr Er
 bD:W.cell? ⟨gD,0,none⟩=some (.pointer (some ⟨D,0,none⟩))
 bS:W.cell? ⟨gS,0,none⟩=some (.int .i64 sn)
 bU:W.cell? ⟨gU,0,none⟩=some (.slice adU us.length capU)
 users:dm W adU us
def zx (x:Fc):Array Value:=#[.agg #[.string x.a,.string x.b,.string x.r,.string x.c,.string x.d]]
theorem wZ:∀ (rs:List RR) (i:Nat) (h:i < rs.length) (j:Nat),j < 2→(G.flatG KV rs)[i * 2 + j]?=(KV rs[i])[j]?
 | [],i,h,_,_=>by simp at h
 | r::rs,0,_,j,hj=>by
  simp only [G.flatG,List.flatMap_cons,Nat.zero_mul,Nat.zero_add,List.getElem_cons_zero];rw [List.getElem?_append_left (by simp [KV]; omega)]
 | r::rs,i + 1,h,j,hj=>by
  have ih:=wZ rs i (by simpa using h) j hj;simp only [G.flatG,List.flatMap_cons,List.getElem_cons_succ] at ih ⊢;rw [List.getElem?_append_right (by simp [KV]; omega)];have:(i + 1) * 2 + j - (KV r).length=i * 2 + j:=by simp [KV]; omega
  rw [this]; exact ih
theorem FR {W:World} {br nr:Nat} {Mr:KL→Option Value} {Er:List (KL × RR)} (h:Aw W br nr Mr Er) (k:KL):∃ ad cap,(Mr k).getD (.slice none 0 0)=.slice ad (G.lookL Er k).length cap∧(∀ i (hi:i < (G.lookL Er k).length),∃ g,ad=some ⟨g,0,none⟩∧g < W.heap.size∧W.cell? ⟨g,i * 2,none⟩=some (.string (G.lookL Er k)[i].name)∧W.cell? ⟨g,i * 2 + 1,none⟩=some (G.lookL Er k)[i].sl):=by
 have ho:=zn h k;rcases ho.2 with ⟨e,h0⟩ | ⟨g,cap,cur,e,hbg,hg,hnc,-⟩
 ·exact ⟨none,0,by rw [e,h0],fun i hi=>by omega⟩
 ·refine ⟨_,cap,e,fun i hi=>⟨g,rfl,(ho.lt g (by rw [e]; rfl)).2,?_,?_⟩⟩
  ·rw [e] at ho;rw [ho.cellAt (i * 2) (by omega)];exact wZ _ i hi 0 (by omega)
  ·rw [e] at ho;rw [ho.cellAt (i * 2 + 1) (by omega)];exact wZ _ i hi 1 (by omega)
def AQ (W:World) (g:Nat) (o:Al):Prop:=W.heap[g]?=some (.cells #[.string o.t,.string o.s] 45 (0,0))
def CK (W:World) (g:Nat) (r:RR):Prop:=W.heap[g]?=some (.cells #[.string r.name,r.sl] 115 (0,0))
theorem AQ.c {W:World} {g:Nat} {o:Al} (h:AQ W g o):W.cell? ⟨g,0,none⟩=some (.string o.t)∧W.cell? ⟨g,1,none⟩=some (.string o.s)∧g < W.heap.size:=by
 have hl:=(Array.getElem?_eq_some_iff.1 h).1;unfold AQ at h;exact ⟨by simp [World.cell?,h],by simp [World.cell?,h],hl⟩
theorem CK.c {W:World} {g:Nat} {r:RR} (h:CK W g r):W.cell? ⟨g,0,none⟩=some (.string r.name)∧W.cell? ⟨g,1,none⟩=some r.sl∧g < W.heap.size:=by
 have hl:=(Array.getElem?_eq_some_iff.1 h).1;unfold CK at h;exact ⟨by simp [World.cell?,h],by simp [World.cell?,h],hl⟩
theorem AQ.kp {W W':World} {g:Nat} {o:Al} (h:AQ W g o) (hk:KpI W W'):AQ W' g o:=hk.cells g _ _ _ h (.inl rfl)
theorem CK.kp {W W':World} {g:Nat} {r:RR} (h:CK W g r) (hk:KpI W W'):CK W' g r:=hk.cells g _ _ _ h (.inr rfl)
def iQ (rs:List TR) (st:ByteArray × ByteArray→Int) (us:List Al) (sn:Int) (xo:List Al) (q:Nat):List Fc:=(xo.take q).flatMap (uf (af rs) st us sn)
def kQ (R:List RR) (us:List Al) (o:Al) (k:Nat):List Fc:=(R.take k).flatMap fun r=>iy o r.name us
theorem K9 {rs:List TR} {st:ByteArray × ByteArray→Int} {us:List Al} {sn:Int} {xo:List Al} {q:Nat} (h:q < xo.length):iQ rs st us sn xo (q + 1)=iQ rs st us sn xo q ++ kQ (G.lookL (dH st rs) (xo[q].t,sn)) us xo[q] (G.lookL (dH st rs) (xo[q].t,sn)).length:=by
 unfold iQ kQ;rw [List.take_succ_eq_append_getElem h,List.flatMap_append,List.take_length];congr 1;simp only [List.flatMap_cons,List.flatMap_nil,List.append_nil];unfold uf;rw [Cw,List.flatMap_map]
theorem La {R:List RR} {us:List Al} {o:Al} {k:Nat} (h:k < R.length):kQ R us o (k + 1)=kQ R us o k ++ iy o R[k].name us:=by
 unfold kQ;rw [List.take_succ_eq_append_getElem h,List.flatMap_append];simp
theorem G9 (o:Al) (rel:ByteArray) {xu:List Al} {j:Nat} (h:j < xu.length):iy o rel (xu.take (j + 1))=iy o rel (xu.take j) ++ [⟨o.t,o.s,rel,xu[j].t,xu[j].s⟩]:=by
 unfold iy;rw [List.take_succ_eq_append_getElem h,List.map_append]; rfl
theorem Ha {rs:List TR} {st:ByteArray × ByteArray→Int} {xo us:List Al} {sn:Int} {o:Al} {r:RR} {u:Al} (ho:o ∈ xo) (hr:r ∈ G.lookL (dH st rs) (o.t,sn)) (hu:u ∈ us):(⟨o.t,o.s,r.name,u.t,u.s⟩:Fc) ∈ bF (af rs) st xo us sn:=by
 unfold bF uf;refine List.mem_flatMap.2 ⟨o,ho,List.mem_flatMap.2 ⟨(o.t,r.name),?_,List.mem_map.2 ⟨u,hu,rfl⟩⟩⟩;rw [Cw];exact List.mem_map.2 ⟨r,hr,rfl⟩
set_option maxHeartbeats 8000000 in
theorem JU (n:Nat) (hn:1≤n) (D br nr:Nat) (Mr:KL→Option Value) (st:ByteArray × ByteArray→Int) (rs:List TR) (adO:Option Addr) (capO:Nat) (xo:List Al) (gD gS gU:Nat) (sn:Int) (adU:Option Addr) (capU:Nat) (us:List Al) (w0:World) (hs0:0≤sn) (hs1:sn≤1000) (hol:xo.length≤1000) (hul:us.length≤1000) (hrl:∀ k,(G.lookL (dH st rs) k).length≤1000) (hof:∀ o ∈ xo,o.t.size≤maxLen) :
  AP Fence.wide n Tryz.prog 139 #[.pointer (some ⟨gD,0,none⟩),.pointer (some ⟨gS,0,none⟩),.pointer (some ⟨gU,0,none⟩)] zx (fun _=>KpI) (fun _ W=>InM W D br nr Mr (dH st rs) adO capO xo gD gS gU sn adU capU us) (fun _ x=>x ∈ bF (af rs) st xo us sn) (fun xs=>xs=bF (af rs) st xo us sn) w0:=by
 intro l J W _ _ _ hJ hT hY h0;have HJ:=az hJ;have HT:=az hT;have HY:=az hY;have H0:=az h0;have HOF:=az hof;have hM:=hT _ _ h0;have HRL:=az hrl;have bD:=hM.bD;have d4:=hM.d4;have lD:=av bD;have lDD:=av d4;clear hJ hT hY h0 hof hM hrl;refine callsIn_of_wp Tryz.func139 rfl trivial ?_ rfl;simp only [Tryz.ntmps139,List.size_toArray,List.length_cons,List.length_nil,Nat.reduceAdd,Nat.reduceSub,Array.replicate_succ,Array.replicate_zero,List.push_toArray,List.append_toArray,List.nil_append,List.cons_append];gi_wp2;clear bD d4 lD lDD
 gi_loopw [16] (fun i wr=>∃ q:Nat,q≤xo.length∧i=.int .i64 q∧Hid (J (iQ rs st us sn xo q) wr)) (fun i _=>xo.length - (intOf i).toNat)
 case atStart=>exact ⟨0,Nat.zero_le _,rfl,H0⟩
 case round =>
  clear H0;obtain ⟨q,hq,rfl,HJ1⟩:=hrel;by_cases hlq:q < xo.length
  ·have hM:=HT.out _ _ HJ1.out;obtain ⟨bO,offO,hadO,⟨o0,o1⟩,hbO⟩:=dm.at0 hM.objs hlq;have HSQ:=az (K9 (rs:=rs) (st:=st) (us:=us) (sn:=sn) hlq);have HOS:=az (HOF.out _ (List.getElem_mem hlq));have HOM:Hid (xo[q] ∈ xo):=List.getElem_mem hlq;obtain ⟨o,ho⟩:∃ o,o=xo[q]:=⟨_,rfl⟩;rw [← ho] at o0 o1 HSQ HOS HOM;clear ho;have hq1:(0:Int)≤(q:Int):=by omega
   have hq2:(q:Int) < (xo.length:Int):=by omega
   obtain ⟨W1,hW1⟩:∃ W1,W1=wr.alloc (.cells #[.string o.t,.string o.s] 45):=⟨_,rfl⟩;have HB1:Hid (Below wr.heap.size wr W1):=by show Below _ _ _; rw [hW1]; exact (Below.refl _ _).alloc (Nat.le_refl _) _
   have HJ2:=az (jU HJ.out HJ1.out HB1.out);have HBX:Hid (AQ W1 wr.heap.size o):=by rw [hW1]; exact World.alloc_heap_new wr _
   have hM2:=HT.out _ _ HJ2.out;have bD:=hM2.bD;have bS:=hM2.bS;have d2:=hM2.d2;obtain ⟨c0,c1,cl⟩:=HBX.out.c;obtain ⟨adR,capR,hgd,-⟩:=FR hM2.rel (o.t,sn);obtain ⟨kl,hkl⟩:=FJ (o.t,sn) HOS.out hs0 (by show sn≤_; omega);obtain ⟨R,hR⟩:∃ R,R=G.lookL (dH st rs) (o.t,sn):=⟨_,rfl⟩;have hRl:R.length≤1000:=by rw [hR]; exact HRL.out _
   rw [← hR] at hgd HSQ;have HRE:=az hR;have HGD:=az hgd;have hlk:∀ m,(Instr.lookup 108 (.map (some br)) (.agg #[.string o.t,.int .i64 sn]) false).run Tryz.prog (W1.drewN m)=.ok (.slice adR R.length capR) (W1.drewN m):=fun m=>by
    have h:=(hM2.rel.map.below (below_drewN (Below.refl _ _) m)).look (t:=108) (e:=68) M5 Tryz.underlying108 (JN _) (x:=(o.t,sn)) hkl;rw [hgd] at h;exact h
   subst hadO;clear hM hM2 hR hgd hkl;gi_wp2;rw [← hW1];clear hW1;refine wpIn_wide.2 ?_;go_quiet (fail);obtain ⟨W2,hW2⟩:∃ W2,W2=W1.drewN nq:=⟨_,rfl⟩;have HB2:Hid (Below W1.heap.size W1 W2):=by show Below _ _ _; rw [hW2]; exact below_drewN (Below.refl _ _) _
   have HJ3:=az (jU HJ.out HJ2.out HB2.out);have HBX2:=az (HBX.out.kp (KpI.below HB2.out));obtain ⟨gO,hgO⟩:∃ g,g=wr.heap.size:=⟨_,rfl⟩;rw [← hgO] at HBX2 ⊢;rw [← hW2];clear hW2 hgO c0 c1 cl bD bS d2 hlk HB1 HJ2 HBX HJ1 o0 o1 hbO;gi_wp2
   gi_loopw [30] (fun i w2=>∃ k:Nat,k≤R.length∧i=.int .i64 k∧Hid (J (iQ rs st us sn xo q ++ kQ R us o k) w2)∧Hid (AQ w2 gO o)) (fun i _=>R.length - (intOf i).toNat)
   case atStart=>exact ⟨0,Nat.zero_le _,rfl,by show J (_ ++ []) _; rw [List.append_nil]; exact HJ3.out,HBX2⟩
   case round =>
    clear HJ3 HBX2 HB2;obtain ⟨k,hk,rfl,HJ4,HBX⟩:=hrel;by_cases hlk:k < R.length
    ·have hM:=HT.out _ _ HJ4.out;obtain ⟨adR',capR',hgd',hrows⟩:=FR hM.rel (o.t,sn);rw [← HRE.out,HGD.out] at hgd';injection hgd' with ea eb ec;subst ea;clear eb ec;obtain ⟨gq,hadR,hgl,r0,r1⟩:=hrows k (by rw [← HRE.out]; exact hlk);have HKS:=az (La (us:=us) (o:=o) hlk);have hrr:(G.lookL (dH st rs) (o.t,sn))[k]'(by rw [← HRE.out]; exact hlk)=R[k]:=by simp only [HRE.out]
     rw [hrr] at r0 r1;have HRM:Hid (R[k] ∈ R):=List.getElem_mem hlk;obtain ⟨r,hr⟩:∃ r,r=R[k]:=⟨_,rfl⟩;rw [← hr] at r0 r1 HKS HRM;have hk1:(0:Int)≤(k:Int):=by omega
     have hk2:(k:Int) < (R.length:Int):=by omega
     obtain ⟨W3,hW3⟩:∃ W3,W3=wr.alloc (.cells #[.string r.name,r.sl] 115):=⟨_,rfl⟩;have HB3:Hid (Below wr.heap.size wr W3):=by show Below _ _ _; rw [hW3]; exact (Below.refl _ _).alloc (Nat.le_refl _) _
     have HJ5:=az (jU HJ.out HJ4.out HB3.out);have HBO:=az (HBX.out.kp (KpI.below HB3.out));have HBR:Hid (CK W3 wr.heap.size r):=by rw [hW3]; exact World.alloc_heap_new wr _
     have hM3:=HT.out _ _ HJ5.out;have bU:=hM3.bU;have lU:=av bU;have bU0:=hM.bU;have lU0:=av bU0;unfold RR.sl at r1 hW3;obtain ⟨gR,hgR⟩:∃ g,g=wr.heap.size:=⟨_,rfl⟩;subst hadR;clear hM hM3 hr hrr hrows;gi_wp2;rw [← hW3,← hgR];rw [← hgR] at HBR;clear hW3 hgR bU lU bU0 lU0 r0 r1 hgl HB3 HJ4 HBX
     gi_loopw [36] (fun i w2=>∃ j:Nat,j≤us.length∧i=.int .i64 j∧Hid (J (iQ rs st us sn xo q ++ kQ R us o k ++ iy o r.name (us.take j)) w2)∧Hid (AQ w2 gO o)∧Hid (CK w2 gR r)) (fun i _=>us.length - (intOf i).toNat)
     case atStart=>exact ⟨0,Nat.zero_le _,rfl,by show J (_ ++ []) _; rw [List.append_nil]; exact HJ5.out,HBO,HBR⟩
     case round =>
      clear HJ5 HBO HBR;obtain ⟨j,hj,rfl,HJ6,HBO,HBR⟩:=hrel;by_cases hlj:j < us.length
      ·have hM:=HT.out _ _ HJ6.out;obtain ⟨bV,offV,hadU,⟨y0,y1⟩,hbV⟩:=dm.at0 hM.users hlj;have HAS:=az (G9 o r.name hlj);obtain ⟨u,hu⟩:∃ u,u=us[j]:=⟨_,rfl⟩;rw [← hu] at y0 y1 HAS;have hj1:(0:Int)≤(j:Int):=by omega
       have hj2:(j:Int) < (us.length:Int):=by omega
       obtain ⟨W4,hW4⟩:∃ W4,W4=wr.alloc (.cells #[.string u.t,.string u.s] 45):=⟨_,rfl⟩;have HB4:Hid (Below wr.heap.size wr W4):=by show Below _ _ _; rw [hW4]; exact (Below.refl _ _).alloc (Nat.le_refl _) _
       have HJ7:=jU HJ.out HJ6.out HB4.out;have HBO2:=az (HBO.out.kp (KpI.below HB4.out));have HBR2:=az (HBR.out.kp (KpI.below HB4.out));obtain ⟨fn,tmps,assign,body,hy,hR⟩:=HY.out _ ⟨o.t,o.s,r.name,u.t,u.s⟩ W4 HJ7 (Ha HOM.out (by rw [← HRE.out]; exact HRM.out) (by rw [hu]; exact List.getElem_mem hlj));obtain ⟨c0,c1,cl⟩:=HBO.out.c;obtain ⟨e0,e1,el⟩:=HBR.out.c;have HRR:=az hR;unfold zx at hy;subst hadU;subst hW4;clear hM hu HJ7 hR;gi_wp2;refine HRR.out.mono ?_;rintro e W5 ⟨rfl,hJ8,hK8⟩;have HJ8:Hid (J (iQ rs st us sn xo q ++ kQ R us o k ++ iy o r.name (us.take (j + 1))) W5):=by show J _ _; rw [HAS.out,← List.append_assoc]; exact hJ8
       have HBO3:=az (HBO2.out.kp hK8);have HBR3:=az (HBR2.out.kp hK8);clear hJ8 hK8 hy y0 y1 c0 c1 cl e0 e1 el;gi_wp2;go_roundw;case rel=>exact ⟨j + 1,by omega,by go_num,HJ8,HBO3,HBR3⟩
       case measure=>simp [intOf] <;> omega
      ·have HJ7:Hid (J (iQ rs st us sn xo q ++ kQ R us o (k + 1)) wr):=by
        have h1:=HJ6.out;rw [List.take_of_length_le (by omega),List.append_assoc,← HKS.out] at h1;exact h1
       gi_wp2;go_roundw;case rel=>exact ⟨k + 1,by omega,by go_num,HJ7,HBO⟩
       case measure=>simp [intOf] <;> omega
    ·have HE2:Hid (iQ rs st us sn xo q ++ kQ R us o k=iQ rs st us sn xo (q + 1)):=by show _=_; rw [HSQ.out,show k=R.length by omega]
     have HJ5:Hid (J (iQ rs st us sn xo (q + 1)) wr):=by show J _ _; rw [← HE2.out]; exact HJ4.out
     gi_wp2;go_roundw;case rel=>exact ⟨q + 1,by omega,by go_num,HJ5⟩
     case measure=>simp [intOf] <;> omega
  ·have HE:Hid (iQ rs st us sn xo q=bF (af rs) st xo us sn):=by show _=_; unfold iQ bF; rw [List.take_of_length_le (by omega)]
   have HJ2:Hid (J (bF (af rs) st xo us sn) wr):=by show J _ _; rw [← HE.out]; exact HJ1.out
   gi_wp2
   go_end0
   exact ⟨⟨_,rfl⟩,_,rfl,HJ2.out⟩
end Go.Proofs.YtogjfppkbkgaeaaGreat
