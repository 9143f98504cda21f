/- The program's rules of what tuples tell, and of what is gone over. -/
import Derived.Test.YtdaoiceeidoehaaGreatJ28
open Go.Proofs.Tryz
set_option maxHeartbeats 80000000
namespace Go.Proofs.YtdaoiceeidoehaaGreat
set_option linter.unusedVariables false
set_option maxRecDepth 100000
open Go.ChangeShapes Go.WideShapes Go.ChangeAt Go.RowKit Go.Maps
open Pl
structure PrM (w:World) (P D:Nat) (adF:Option Addr) (capF:Nat) (out:List Fc) (bK nK:Nat):Prop where
 lt:P < w.heap.size
 c0:w.cell? ⟨P,0,none⟩=some (.pointer (some ⟨D,0,none⟩))
 c1:w.cell? ⟨P,1,none⟩=some (.slice adF out.length capF)
 c2:w.cell? ⟨P,2,none⟩=some (.map (some bK))
 found:jq w adF out
 set:aB fT prog 42 w bK nK (oG out)
theorem PrM.below {w w':World} {P D:Nat} {adF:Option Addr} {capF:Nat} {out:List Fc} {bK nK:Nat} (h:PrM w P D adF capF out bK nK) (hb:Below w.heap.size w w'):PrM w' P D adF capF out bK nK :=
 ⟨Nat.lt_of_lt_of_le h.lt hb.size,aD hb h.lt h.c0,aD hb h.lt h.c1,aD hb h.lt h.c2,h.found.below hb,h.set.below hb⟩
section
variable {w:World} {rs:List TR} {P D br bp bt bK nK:Nat} {n1:Int} {nr:Nat} {Mr:KL→Option Value} {Er:List (KL × RR)} {ts:List Tp} {xo xu:List Al} {np:Nat} {Mp:K3→Option Value} {vo vu:Value} {out:List Fc} {f:Fc} {adF:Option Addr} {capF:Nat}
theorem zS (hP:PrM w P D adF capF out bK nK) (hD:DatA w rs D br bp bt n1 nr Mr Er (aN ts) xo xu np Mp vo vu) (hf:f.fits) (hts:∀ t ∈ ts,t.fits) (htl:ts.length≤1000) :
  Calls prog 97 #[.pointer (some ⟨P,0,none⟩),.agg #[.string f.a,.string f.b,.string f.r,.string f.c,.string f.d]] w fun e w'=>(∃ v,e=.returned v∧aG w' (ig w.heap.size) 1 v (mG ts f))∧Below w.heap.size w w':=by
 obtain ⟨iF,i0,i1,i2,i3⟩:=pE;have HIF:=ag (And.intro i0 (And.intro i1 (And.intro i2 i3)));obtain ⟨kl,hkl⟩:=pG (f.a,f.b,f.r) hf.1 hf.2.1 hf.2.2.1;obtain ⟨adL,capL,hgd,hsl⟩:=qa hD.dat.told (f.a,f.b,f.r);have hll:=qd ts (f.a,f.b,f.r);have HFL:Hid (∀ t ∈ G.lookL (aN ts) (f.a,f.b,f.r),t.fits):=fun t ht=>hts t (qc ht);have HHIT:Hid ((G.lookL (aN ts) (f.a,f.b,f.r)).any (lc f)=true→mG ts f=fun _=>true):=Jn;have HNO:Hid ((G.lookL (aN ts) (f.a,f.b,f.r)).any (lc f)=false→mG ts f=fun K=>(oM f (G.lookL (aN ts) (f.a,f.b,f.r))).any K):=Kr;obtain ⟨L,hLe⟩:∃ L,L=G.lookL (aN ts) (f.a,f.b,f.r):=⟨_,rfl⟩;rw [← hLe] at hgd hsl hll HFL HNO HHIT;obtain ⟨W0,hW0⟩:∃ W0,W0=w.alloc (.cells #[.string f.a,.string f.b,.string f.r,.string f.c,.string f.d] 42):=⟨_,rfl⟩;have HB0:=nX hW0;have c0:W0.cell? ⟨w.heap.size,0,none⟩=some (.string f.a):=by rw [hW0]; simp
 have c1:W0.cell? ⟨w.heap.size,1,none⟩=some (.string f.b):=by rw [hW0]; simp
 have c2:W0.cell? ⟨w.heap.size,2,none⟩=some (.string f.r):=by rw [hW0]; simp
 have c3:W0.cell? ⟨w.heap.size,3,none⟩=some (.string f.c):=by rw [hW0]; simp
 have c4:W0.cell? ⟨w.heap.size,4,none⟩=some (.string f.d):=by rw [hW0]; simp
 have d3:=HB0.out.cell (p:=⟨D,3,none⟩) hD.dat.lt |>.trans hD.dat.c3;have p0:=aD HB0.out hP.lt hP.c0;have hlk:∀ m,(Instr.lookup 126 (.map (some bp)) (.agg #[.string f.a,.string f.b,.string f.r]) false).run prog (W0.drewN m)=.ok (.slice adL L.length capL) (W0.drewN m):=fun m=>by
  have h:=((hD.dat.told.map.below HB0.out).below (below_drewN (Below.refl _ _) m)).look (t:=126) (e:=36) EL underlying126 (uU _) (x:=(f.a,f.b,f.r)) hkl;rw [hgd] at h;exact h
 have HSL:=ag (hsl.below HB0.out);have HF:=ag hf;have HC0:Hid (W0.cell? ⟨w.heap.size,3,none⟩=some (.string f.c)∧W0.cell? ⟨w.heap.size,4,none⟩=some (.string f.d)∧w.heap.size < W0.heap.size):=⟨c3,c4,ax c3⟩;have HO0:∀ m,Hid ((W0.drewN m).ownsRow W0.heap.size 42 5 (.slice none 0 0) (oM f (L.take 0)).length (bI (oM f (L.take 0)))):=fun m=>World.ownsRow_nil _ _ _ _;have HH0:Hid ((L.take 0).any (lc f)=false):=rfl;clear hsl hf hLe hgd hkl i0 i1 i2 i3 hP hts;go_enter func97,ntmps97;go_wp2_with fail;rw [← hW0];clear hW0;go_quiet (fail);clear c0 c1 c2 c3 c4 d3 p0 hlk;go_wp2;go_loopw [5,22] (fun v i wr=>∃ k:Nat,k≤L.length∧i=.int .i64 k∧Hid (wr.ownsRow W0.heap.size 42 5 v (oM f (L.take k)).length (bI (oM f (L.take k))))∧Hid (Below W0.heap.size W0 wr)∧Hid ((L.take k).any (lc f)=false)) (fun _ i _=>L.length - (intOf i).toNat);case atStart=>exact ⟨0,Nat.zero_le _,rfl,HO0 _,below_drewN (Below.refl _ _) _,HH0⟩
 case round =>
  clear HO0 HH0;obtain ⟨k,hk,rfl,HO,HB,HH⟩:=hrel;by_cases hlt:k < L.length
  ·obtain ⟨bT,offT,hadT,⟨a0,a1,a2,a3,a4,a5⟩,hbT⟩:=Sl.at0 (HSL.out.below HB.out) hlt;obtain ⟨c3,c4,cl⟩:=HC0.out;replace c3:=aD HB.out cl c3;replace c4:=aD HB.out cl c4;replace cl:=Nat.lt_of_lt_of_le cl HB.out.size;have hi1:=aY k;have hi2:(k:Int) < (L.length:Int):=by omega
   have HKT:=ag (Jj f hlt);have hkl:(oM f (L.take k)).length≤k:=by
    have h:=E9 f (L.take k);rw [List.length_take] at h;omega
   have HHT:Hid ((L.take (k + 1)).any (lc f)=((L.take k).any (lc f) || lc f L[k])):=by show _=_; rw [List.take_succ_eq_append_getElem hlt,List.any_append]; simp
   have HHA:Hid (lc f L[k]=true→L.any (lc f)=true):=fun h=>List.any_eq_true.2 ⟨_,List.getElem_mem hlt,h⟩;obtain ⟨t,ht⟩:∃ t,t=L[k]:=⟨_,rfl⟩;rw [← ht] at a0 a1 a2 a3 a4 a5 HKT HHT HHA;clear ht;obtain ⟨W1,hW1⟩:∃ W1,W1=wr.alloc (.cells #[.string t.a,.string t.b,.string t.r,.string t.c,.string t.d,.string t.s] 73):=⟨_,rfl⟩;have HBr:=nX hW1;have HBW:=ag (HB.out.trans (HBr.out.mono HB.out.size));have hz1:W1.heap.size=wr.heap.size + 1:=by rw [hW1]; simp
   have HO1:=ag (aK HO.out HBr.out);obtain ⟨ys,hys⟩:∃ ys,ys=oM f (L.take k):=⟨_,rfl⟩;rw [← hys] at HO1 HKT hkl;obtain ⟨adV,capV,rfl,-⟩:=jG HO1.out;subst hadT;clear hys HO HBr;cases hs:t.s.toList.isEmpty with
   | true =>
    have hs2:(t.s.toList == [])=true:=by rw [jI]; exact hs
    have HKE:Hid (oM f (L.take (k + 1))=ys):=by show _=_; rw [HKT.out,hs]; simp
    cases hu:qx t.c t.d f.c f.d with
    | true =>
     have heq:=dD _ _ _ _ hu;have HN:Hid (mG ts f=fun _=>true):=HHIT.out (HHA.out (by unfold lc; rw [hs,hu]; rfl));have HBE:Hid (Below w.heap.size w W1):=HB0.out.trans (HBW.out.mono HB0.out.size);clear hu hs;go_wp2;rw [← hW1];go_ret;exact ⟨⟨_,rfl,kP true HN.out⟩,HBE.out⟩
    | false =>
     have heq:=dD _ _ _ _ hu;have HH2:Hid ((L.take (k + 1)).any (lc f)=false):=by show _=_; rw [HHT.out,HH.out]; unfold lc; rw [hu]; simp
     have HR:Hid (W1.ownsRow W0.heap.size 42 5 (.slice adV ys.length capV) (oM f (L.take (k + 1))).length (bI (oM f (L.take (k + 1))))):=by show World.ownsRow _ _ _ _ _ _ _; rw [HKE.out]; exact HO1.out
     clear hu hs;go_wp2;rw [← hW1];clear hW1;go_roundw;case rel=>exact ⟨k + 1,by omega,by go_num,HR,HBW,HH2⟩
     case measure=>simp [intOf] <;> omega
   | false =>
    have hs2:(t.s.toList == [])=false:=by rw [jI]; exact hs
    have HWE:Hid (oM f (L.take (k + 1))=ys ++ [⟨t.c,t.d,t.s,f.c,f.d⟩]):=by show _=_; rw [HKT.out,hs]; rfl
    have HH2:Hid ((L.take (k + 1)).any (lc f)=false):=by show _=_; rw [HHT.out,HH.out]; unfold lc; rw [hs]; rfl
    clear hs;obtain ⟨W4,hW4⟩:∃ W4,W4=W1.alloc (.cells #[.string t.c,.string t.d,.string t.s,.string f.c,.string f.d] 42):=⟨_,rfl⟩;have HO4:Hid (W4.ownsRow W0.heap.size 42 5 (.slice adV ys.length capV) ys.length (bI ys)):=by show World.ownsRow _ _ _ _ _ _ _; rw [hW4]; exact HO1.out.alloc _
    have HN4:Hid (∀ j u,(Fc.row ⟨t.c,t.d,t.s,f.c,f.d⟩)[j]?=some u→W4.cell? ((⟨wr.heap.size + 1,0,none⟩:Addr).add j)=some u):=by rw [← hz1,hW4]; exact AR W1 ⟨t.c,t.d,t.s,f.c,f.d⟩
    have HBW4:Hid (Below W0.heap.size W0 W4):=by show Below _ _ _; rw [hW4]; exact HBW.out.alloc HBW.out.size _
    have hsz4:W0.heap.size≤W4.heap.size:=HBW4.out.size;go_wp2_with (at_builtin; rw [← hW1]; rw [← hW4]; clear hW4; refine wpList_append_own_at _ rfl _ _ 38 rfl W0.heap.size 42 iF (.agg #[.string ⟨#[]⟩,.string ⟨#[]⟩,.string ⟨#[]⟩,.string ⟨#[]⟩,.string ⟨#[]⟩]) 5 80 underlying38 HIF.out.1 HIF.out.2.1 HIF.out.2.2.1 HIF.out.2.2.2 rfl (by decide) _ ys.length (bI ys) rfl HO4.out ⟨wr.heap.size + 1,0,none⟩ 1 1 (Fc.row ⟨t.c,t.d,t.s,f.c,f.d⟩) rfl rfl HN4.out (by simp [Fc.row,Value.oneCell']) (by unfold maxLen; omega) (by omega) hsz4 ?_);intro v' w5 hown hgr _ _;have HR:Hid (w5.ownsRow W0.heap.size 42 5 v' (oM f (L.take (k + 1))).length (bI (oM f (L.take (k + 1))))):=by
     show World.ownsRow _ _ _ _ _ _ _;rw [HWE.out,List.length_append,kz]; exact hown
    have HBR:Hid (Below W0.heap.size W0 w5):=HBW4.out.grown hgr HBW4.out.size (fun g hg=>(HO4.out.lt g hg).1);clear hown hgr c3 c4 cl;go_wp2;go_roundw;case rel=>exact ⟨k + 1,by omega,by go_num,HR,HBR,HH2⟩
    case measure=>simp [intOf] <;> omega
  ·have HE:Hid (wr.ownsRow w.heap.size 42 5 u5 (oM f L).length (bI (oM f L))):=by
    have h:=HO.out;rw [List.take_of_length_le (by omega)] at h;exact kE h HB0.out.size
   have HNN:Hid (mG ts f=fun K=>(oM f L).any K):=HNO.out (by have h:=HH.out; rw [List.take_of_length_le (by omega)] at h; exact h);have HFF:Hid (∀ y ∈ oM f L,y.fits):=Jl HF.out HFL.out;have HLE:Hid ((oM f L).length≤1000):=by show _≤_; have:=E9 f L; omega
   have HBE:Hid (Below w.heap.size w wr):=HB0.out.trans (HB.out.mono HB0.out.size);clear HO;obtain ⟨adU,capU,rfl,-⟩:=jG HE.out;go_wp2;go_ret;exact ⟨⟨_,rfl,qo HE.out HLE.out HFF.out HNN.out⟩,HBE.out⟩
theorem zT (x:ER) (hP:PrM w P D adF capF out bK nK) (hD:DatA w rs D br bp bt n1 nr Mr Er (aN ts) xo xu np Mp vo vu) (hf:f.fits) (hov:x.e.over.size≤maxLen) (hnm:x.e.name.size≤maxLen) (hts:∀ t ∈ ts,t.fits) (htl:ts.length≤1000) :
  Calls prog 98 #[.pointer (some ⟨P,0,none⟩),.agg #[.int .i64 x.e.kind,.slice x.adA x.e.allow.length x.capA,.string x.e.over,.string x.e.name,.slice x.adK x.e.kids.length x.capK],.agg #[.string f.a,.string f.b,.string f.r,.string f.c,.string f.d]] w fun e w'=>(∃ v,e=.returned v∧aG w' (ig w.heap.size) 1 v (yx ts x.e.over x.e.name f))∧Below w.heap.size w w':=by
 obtain ⟨iF,i0,i1,i2,i3⟩:=pE;have HIF:=ag (And.intro i0 (And.intro i1 (And.intro i2 i3)));obtain ⟨kl,hkl⟩:=pG (f.a,f.b,x.e.over) hf.1 hf.2.1 hov;obtain ⟨adL,capL,hgd,hsl⟩:=qa hD.dat.told (f.a,f.b,x.e.over);have hll:=qd ts (f.a,f.b,x.e.over);have HFL:Hid (∀ t ∈ G.lookL (aN ts) (f.a,f.b,x.e.over),t.fits):=fun t ht=>hts t (qc ht);have HNO:Hid (yx ts x.e.over x.e.name f=fun K=>(tN f x.e.name (G.lookL (aN ts) (f.a,f.b,x.e.over))).any K):=Kt;obtain ⟨L,hLe⟩:∃ L,L=G.lookL (aN ts) (f.a,f.b,x.e.over):=⟨_,rfl⟩;rw [← hLe] at hgd hsl hll HFL HNO;obtain ⟨W0,hW0⟩:∃ W0,W0=(w.alloc (.cells #[.int .i64 x.e.kind,.slice x.adA x.e.allow.length x.capA,.string x.e.over,.string x.e.name,.slice x.adK x.e.kids.length x.capK] 166)).alloc (.cells #[.string f.a,.string f.b,.string f.r,.string f.c,.string f.d] 42):=⟨_,rfl⟩;have HB0:Hid (Below w.heap.size w W0):=by show Below _ _ _; rw [hW0]; exact ((Below.refl _ _).alloc (Nat.le_refl _) _).alloc (by simp) _
 have x2:W0.cell? ⟨w.heap.size,2,none⟩=some (.string x.e.over):=by rw [hW0]; simp
 have x3:W0.cell? ⟨w.heap.size,3,none⟩=some (.string x.e.name):=by rw [hW0]; simp
 have hbx:w.heap.size + 1 < W0.heap.size:=by rw [hW0]; simp
 have c0:W0.cell? ⟨w.heap.size + 1,0,none⟩=some (.string f.a):=by rw [hW0]; simp
 have c1:W0.cell? ⟨w.heap.size + 1,1,none⟩=some (.string f.b):=by rw [hW0]; simp
 have c2:W0.cell? ⟨w.heap.size + 1,2,none⟩=some (.string f.r):=by rw [hW0]; simp
 have c3:W0.cell? ⟨w.heap.size + 1,3,none⟩=some (.string f.c):=by rw [hW0]; simp
 have c4:W0.cell? ⟨w.heap.size + 1,4,none⟩=some (.string f.d):=by rw [hW0]; simp
 have d3:=HB0.out.cell (p:=⟨D,3,none⟩) hD.dat.lt |>.trans hD.dat.c3;have p0:=aD HB0.out hP.lt hP.c0;have hlk:∀ m,(Instr.lookup 126 (.map (some bp)) (.agg #[.string f.a,.string f.b,.string x.e.over]) false).run prog (W0.drewN m)=.ok (.slice adL L.length capL) (W0.drewN m):=fun m=>by
  have h:=((hD.dat.told.map.below HB0.out).below (below_drewN (Below.refl _ _) m)).look (t:=126) (e:=36) EL underlying126 (uU _) (x:=(f.a,f.b,x.e.over)) hkl;rw [hgd] at h;exact h
 have HSL:=ag (hsl.below HB0.out);have HF:=ag hf;have HC0:Hid (W0.cell? ⟨w.heap.size + 1,3,none⟩=some (.string f.c)∧W0.cell? ⟨w.heap.size + 1,4,none⟩=some (.string f.d)∧w.heap.size + 1 < W0.heap.size):=⟨c3,c4,ax c3⟩;have HX0:Hid (W0.cell? ⟨w.heap.size,3,none⟩=some (.string x.e.name)∧w.heap.size < W0.heap.size):=⟨x3,ax x3⟩;have HO0:∀ m,Hid ((W0.drewN m).ownsRow W0.heap.size 42 5 (.slice none 0 0) (tN f x.e.name (L.take 0)).length (bI (tN f x.e.name (L.take 0)))):=fun m=>World.ownsRow_nil _ _ _ _;clear hsl hf hLe hgd hkl i0 i1 i2 i3 hP hts;go_enter func98,ntmps98;go_wp2_with fail;rw [← hW0];clear hW0;go_quiet (fail);clear c0 c1 c2 c3 c4 d3 p0 hlk x2 x3;go_wp2;go_loopw [7,24] (fun v i wr=>∃ k:Nat,k≤L.length∧i=.int .i64 k∧Hid (wr.ownsRow W0.heap.size 42 5 v (tN f x.e.name (L.take k)).length (bI (tN f x.e.name (L.take k))))∧Hid (Below W0.heap.size W0 wr)) (fun _ i _=>L.length - (intOf i).toNat);case atStart=>exact ⟨0,Nat.zero_le _,rfl,HO0 _,below_drewN (Below.refl _ _) _⟩
 case round =>
  clear HO0;obtain ⟨k,hk,rfl,HO,HB⟩:=hrel;by_cases hlt:k < L.length
  ·obtain ⟨bT,offT,hadT,⟨a0,a1,a2,a3,a4,a5⟩,hbT⟩:=Sl.at0 (HSL.out.below HB.out) hlt;obtain ⟨c3,c4,cl⟩:=HC0.out;replace c3:=aD HB.out cl c3;replace c4:=aD HB.out cl c4;replace cl:=Nat.lt_of_lt_of_le cl HB.out.size;obtain ⟨x3,xl⟩:=HX0.out;replace x3:=aD HB.out xl x3;replace xl:=Nat.lt_of_lt_of_le xl HB.out.size;have hi1:=aY k;have hi2:(k:Int) < (L.length:Int):=by omega
   have HKT:=ag (Jk f x.e.name hlt);have hkl:(tN f x.e.name (L.take k)).length≤k:=by
    have h:=(show (tN f x.e.name (L.take k)).length=(L.take k).length from by unfold tN; rw [List.length_map]);rw [List.length_take] at h;omega
   obtain ⟨t,ht⟩:∃ t,t=L[k]:=⟨_,rfl⟩;rw [← ht] at a0 a1 a2 a3 a4 a5 HKT;clear ht;obtain ⟨W1,hW1⟩:∃ W1,W1=wr.alloc (.cells #[.string t.a,.string t.b,.string t.r,.string t.c,.string t.d,.string t.s] 73):=⟨_,rfl⟩;have HBr:=nX hW1;have HBW:=ag (HB.out.trans (HBr.out.mono HB.out.size));have hz1:W1.heap.size=wr.heap.size + 1:=by rw [hW1]; simp
   have HO1:=ag (aK HO.out HBr.out);obtain ⟨ys,hys⟩:∃ ys,ys=tN f x.e.name (L.take k):=⟨_,rfl⟩;rw [← hys] at HO1 HKT hkl;obtain ⟨adV,capV,rfl,-⟩:=jG HO1.out;subst hadT;clear hys HO HBr;have HWE:Hid (tN f x.e.name (L.take (k + 1))=ys ++ [⟨t.c,t.d,x.e.name,f.c,f.d⟩]):=HKT.out;obtain ⟨W4,hW4⟩:∃ W4,W4=W1.alloc (.cells #[.string t.c,.string t.d,.string x.e.name,.string f.c,.string f.d] 42):=⟨_,rfl⟩;have HO4:Hid (W4.ownsRow W0.heap.size 42 5 (.slice adV ys.length capV) ys.length (bI ys)):=by show World.ownsRow _ _ _ _ _ _ _; rw [hW4]; exact HO1.out.alloc _
   have HN4:Hid (∀ j u,(Fc.row ⟨t.c,t.d,x.e.name,f.c,f.d⟩)[j]?=some u→W4.cell? ((⟨wr.heap.size + 1,0,none⟩:Addr).add j)=some u):=by rw [← hz1,hW4]; exact AR W1 ⟨t.c,t.d,x.e.name,f.c,f.d⟩
   have HBW4:Hid (Below W0.heap.size W0 W4):=by show Below _ _ _; rw [hW4]; exact HBW.out.alloc HBW.out.size _
   have hsz4:W0.heap.size≤W4.heap.size:=HBW4.out.size;go_wp2_with (at_builtin; rw [← hW1]; rw [← hW4]; clear hW4; refine wpList_append_own_at _ rfl _ _ 38 rfl W0.heap.size 42 iF (.agg #[.string ⟨#[]⟩,.string ⟨#[]⟩,.string ⟨#[]⟩,.string ⟨#[]⟩,.string ⟨#[]⟩]) 5 80 underlying38 HIF.out.1 HIF.out.2.1 HIF.out.2.2.1 HIF.out.2.2.2 rfl (by decide) _ ys.length (bI ys) rfl HO4.out ⟨wr.heap.size + 1,0,none⟩ 1 1 (Fc.row ⟨t.c,t.d,x.e.name,f.c,f.d⟩) rfl rfl HN4.out (by simp [Fc.row,Value.oneCell']) (by unfold maxLen; omega) (by omega) hsz4 ?_);intro v' w5 hown hgr _ _;have HR:Hid (w5.ownsRow W0.heap.size 42 5 v' (tN f x.e.name (L.take (k + 1))).length (bI (tN f x.e.name (L.take (k + 1))))):=by
    show World.ownsRow _ _ _ _ _ _ _;rw [HWE.out,List.length_append,kz]; exact hown
   have HBR:Hid (Below W0.heap.size W0 w5):=HBW4.out.grown hgr HBW4.out.size (fun g hg=>(HO4.out.lt g hg).1);clear hown hgr c3 c4 cl x3 xl;go_wp2;go_roundw;case rel=>exact ⟨k + 1,by omega,by go_num,HR,HBR⟩
   case measure=>simp [intOf] <;> omega
  ·have HE:Hid (wr.ownsRow w.heap.size 42 5 u7 (tN f x.e.name L).length (bI (tN f x.e.name L))):=by
    have h:=HO.out;rw [List.take_of_length_le (by omega)] at h;exact kE h HB0.out.size
   have HNN:=HNO;have HFF:Hid (∀ y ∈ tN f x.e.name L,y.fits):=Jm HF.out hnm HFL.out;have HLE:Hid ((tN f x.e.name L).length≤1000):=by show _≤_; unfold tN; rw [List.length_map]; omega
   have HBE:Hid (Below w.heap.size w wr):=HB0.out.trans (HB.out.mono HB0.out.size);clear HO;obtain ⟨adU,capU,rfl,-⟩:=jG HE.out;go_wp2;go_ret;exact ⟨⟨_,rfl,qo HE.out HLE.out HFF.out HNN.out⟩,HBE.out⟩
end
theorem aG.is {w:World} {S:Nat→Prop} {n:Nat} {v:Value} {G:Ru} (h:aG w S n v G):∃ T a,v=.iface T a:=by
 match n,h with
 | 0,h=>exact h.elim
 | n + 1,h =>
  rcases h with ⟨b,e,-⟩ | ⟨ad,cap,fs,e,-⟩ | ⟨ad,cap,Gs,e,-⟩ | ⟨ad,cap,Gs,e,-⟩ <;> exact ⟨_,_,e⟩
def Jo (P:Nat) (vE:Value) (f:Fc) (w:World) (m:Nat) (i:Int) (G:Ru):Prop:=∀ w1:World,Below w.heap.size w w1→Calls prog 67 #[.pointer (some ⟨P,0,none⟩),vE,.int .i64 i,.agg #[.string f.a,.string f.b,.string f.r,.string f.c,.string f.d]] w1 fun e w'=>(∃ v,e=.returned v∧aG w' (ig w1.heap.size) m v G)∧Below w1.heap.size w1 w'
def Sx (B:Nat) (v:Value) (g:Nat):Prop:=B≤g∧some g ≠ v.ownBlock
theorem Jp:∃ i,prog.info? 80=some i∧i.zero=some .nilIface∧i.size=1∧i.bytes=16 :=
 info_parts (P:=prog) (e:=80) (z:=.nilIface) (size:=1) (bytes:=16) (by kernel_rfl)
theorem nV {P:Nat} {vE:Value} {f:Fc} {w:World} (m:Nat) (ks:List Int) (Gk:Int→Ru) (adK:Option Addr) (capK:Nat) (hkl:ks.length≤1000) (hs:nA w adK ks) (hK:∀ i ∈ ks,Jo P vE f w m i (Gk i)) :
  Calls prog 99 #[.pointer (some ⟨P,0,none⟩),vE,.slice adK ks.length capK,.agg #[.string f.a,.string f.b,.string f.r,.string f.c,.string f.d]] w fun e w'=>(∃ ad cap,e=.returned (.slice ad ks.length cap)∧vY w' (ig w.heap.size) (aG w' (ig w.heap.size) m) ad (ks.map Gk))∧Below w.heap.size w w':=by
 obtain ⟨iR,h0,h1,h2,h3⟩:=Jp;have HIR:=ag (And.intro h0 (And.intro h1 (And.intro h2 h3)));obtain ⟨W0,hW0⟩:∃ W0,W0=w.alloc (.cells #[.string f.a,.string f.b,.string f.r,.string f.c,.string f.d] 42):=⟨_,rfl⟩;have HB0:=nX hW0;have HC0:Hid (W0.cell? ⟨w.heap.size,0,none⟩=some (.string f.a)∧W0.cell? ⟨w.heap.size,1,none⟩=some (.string f.b)∧W0.cell? ⟨w.heap.size,2,none⟩=some (.string f.r)∧W0.cell? ⟨w.heap.size,3,none⟩=some (.string f.c)∧W0.cell? ⟨w.heap.size,4,none⟩=some (.string f.d)):=by
  show _∧_;rw [hW0]; refine ⟨?_,?_,?_,?_,?_⟩ <;> simp
 have HS:=ag (hs.below HB0.out);have HKR:=ag hK;clear hs hK h0 h1 h2 h3;go_enter func99,ntmps99;go_wp2_with fail;rw [← hW0];clear hW0;go_loopw [9,14] (fun v i wr=>∃ (k:Nat) (us:List Value),k≤ks.length∧us.length=k∧i=.int .i64 k∧Hid (wr.ownsRow W0.heap.size 80 1 v k us)∧Hid (∀ (j:Nat) (h1:j < us.length) (h2:j < ks.length),aG wr (Sx W0.heap.size v) m us[j] (Gk ks[j]))∧Hid (Below W0.heap.size W0 wr)) (fun _ i _=>ks.length - (intOf i).toNat);case atStart=>exact ⟨0,[],Nat.zero_le _,rfl,rfl,World.ownsRow_nil _ _ _ _,fun j h1 _=>absurd h1 (Nat.not_lt_zero _),Below.refl _ _⟩
 case round =>
  obtain ⟨k,us,hk,hul,rfl,HO,HM,HB⟩:=hrel;by_cases hlt:k < ks.length
  ·obtain ⟨bJ,offJ,hadr,t0,hbJ⟩:=nA.at0 (HS.out.below HB.out) hlt;obtain ⟨c0,c1,c2,c3,c4⟩:=HC0.out;have cl:w.heap.size < W0.heap.size:=ax c0;replace c0:=aD HB.out cl c0;replace c1:=aD HB.out cl c1;replace c2:=aD HB.out cl c2;replace c3:=aD HB.out cl c3;replace c4:=aD HB.out cl c4;have hi1:=aY k;have hi2:(k:Int) < (ks.length:Int):=by omega
   have HC:=ag (HKR.out ks[k] (List.getElem_mem hlt) wr (HB0.out.trans (HB.out.mono HB0.out.size)));obtain ⟨i0,hi0⟩:∃ i0,ks[k]=i0:=⟨_,rfl⟩;have HI0:=ag hi0;rw [hi0] at t0 HC;clear hi0;subst hadr;go_wp2_with fail;refine HC.out.mono ?_;rintro e w2 ⟨⟨u,rfl,hru⟩,hb2⟩;obtain ⟨uT,ua,hue⟩:=hru.is;subst hue;obtain ⟨u,hu⟩:∃ u,u=Value.iface uT ua:=⟨_,rfl⟩;rw [← hu] at hru;have HB2:=ag (HB.out.trans (hb2.mono HB.out.size));have HO2:=ag (aK HO.out hb2);have HM2:Hid (∀ (j:Nat) (h1:j < us.length) (h2:j < ks.length),aG w2 (Sx W0.heap.size u9) m us[j] (Gk ks[j])):=fun j h1 h2=>(HM.out j h1 h2).below hb2;have HU2:Hid (aG w2 (Sx W0.heap.size u9) m u (Gk i0)):=aG.keep (Nat.le_refl _) (fun g hg _=>⟨⟨Nat.le_trans HB.out.size hg,fun e=>by have:=(HO.out.lt g e.symm).2; have:wr.heap.size≤g:=hg; omega⟩,rfl⟩) m u _ hru;have hsw:W0.heap.size≤w2.heap.size:=HB2.out.size;clear hru hb2 HO HM HB t0 c0 c1 c2 c3 c4 cl;obtain ⟨W4,hW4⟩:∃ W4,W4=w2.alloc (.cells #[.iface uT ua] 80):=⟨_,rfl⟩;have HBr:=nX hW4;have HO4:Hid (W4.ownsRow W0.heap.size 80 1 u9 k us):=aK HO2.out HBr.out;have HN4:Hid (∀ j x,[u][j]?=some x→W4.cell? ((⟨w2.heap.size,0,none⟩:Addr).add j)=some x):=fun j x hx=>by
    match j,hx with
    | 0,hx=>simp at hx; subst hx; rw [hW4,hu]; simp [Addr.add]
   have HBW4:=ag (HB2.out.trans (HBr.out.mono HB2.out.size));have HM4:Hid (∀ (j:Nat) (h1:j < us.length) (h2:j < ks.length),aG W4 (Sx W0.heap.size u9) m us[j] (Gk ks[j])):=fun j h1 h2=>(HM2.out j h1 h2).below HBr.out;have HU4:Hid (aG W4 (Sx W0.heap.size u9) m u (Gk i0)):=HU2.out.below HBr.out;have hsz4:W0.heap.size≤W4.heap.size:=HBW4.out.size;clear HM2 HU2 HB2;go_wp2_with (at_builtin; rw [← hW4]; clear hW4; rw [← hu]; refine wpList_append_own_at _ rfl _ _ 187 rfl W0.heap.size 80 iR .nilIface 1 16 underlying187 HIR.out.1 HIR.out.2.1 HIR.out.2.2.1 HIR.out.2.2.2 rfl (by decide) _ k us rfl HO4.out ⟨w2.heap.size,0,none⟩ 1 1 [u] rfl rfl HN4.out (by rw [hu]; simp [Value.oneCell']) (by unfold maxLen; omega) (by omega) hsz4 ?_);intro v' w5 hown hgr _ hat;have HR:Hid (w5.ownsRow W0.heap.size 80 1 v' (k + 1) (us ++ [u])):=by show World.ownsRow _ _ _ _ _ _ _; first | exact hown | (rw [hu]; exact hown)
   have HT:Hid (∀ g,Sx W0.heap.size u9 g→g < W4.heap.size→Sx W0.heap.size v' g∧w5.heap[g]?=W4.heap[g]?):=fun g hg hl=>⟨⟨hg.1,by
    rcases hat with e | e
    ·rw [e]; exact hg.2
    ·rw [e]; intro e2; injection e2 with e2; omega⟩,hgr.block g hl hg.2⟩
   have HM5:Hid (∀ (j:Nat) (h1:j < (us ++ [u]).length) (h2:j < ks.length),aG w5 (Sx W0.heap.size v') m (us ++ [u])[j] (Gk ks[j])):=fun j h1 h2=>by
    by_cases hj:j < us.length
    ·rw [List.getElem_append_left hj];exact aG.keep hgr.size HT.out m _ _ (HM4.out j hj h2)
    ·have e:j=us.length:=by simp at h1; omega
     subst e;have e2:ks[us.length]=i0:=by simp only [hul]; exact HI0.out
     rw [List.getElem_append_right (Nat.le_refl _),e2];simpa using aG.keep hgr.size HT.out m _ _ HU4.out
   have HBR:Hid (Below W0.heap.size W0 w5):=HBW4.out.grown hgr HBW4.out.size (fun g hg=>(HO4.out.lt g hg).1);clear hown hgr hat HM4 HU4 HT;go_wp2;go_roundw;case rel=>exact ⟨k + 1,us ++ [u],by omega,by simp; omega,by go_num,HR,HM5,HBR⟩
   case measure=>simp [intOf] <;> omega
  ·obtain rfl:k=ks.length:=by omega
   have HBE:Hid (Below w.heap.size w wr):=HB0.out.trans (HB.out.mono HB0.out.size);have HE:Hid (∃ ad cap,u9=.slice ad ks.length cap∧vY wr (ig w.heap.size) (aG wr (ig w.heap.size) m) ad (ks.map Gk)):=by
    by_cases hz:ks=[]
    ·rcases HO.out.2 with ⟨e,h⟩ | ⟨g,cap,cur,e,-⟩
     ·exact ⟨none,0,by rw [e,h],.inl (by rw [hz]; rfl)⟩
     ·exact ⟨_,cap,e,.inl (by rw [hz]; rfl)⟩
    ·have hO:=HO.out;rcases hO.2 with ⟨e,h⟩ | ⟨g,cap,cur,e,hbg,-⟩
     ·exact absurd (List.length_eq_zero_iff.1 h) hz
     ·refine ⟨_,cap,e,.inr ⟨g,rfl,Nat.le_trans HB0.out.size hbg,(hO.lt g (by rw [e]; rfl)).2,fun i hi=>?_⟩⟩;have hi2:i < ks.length:=by simpa using hi
      have hi3:i < us.length:=by omega
      refine ⟨us[i],?_,?_⟩
      ·have hO2:=hO;rw [e] at hO2;rw [hO2.cellAt i (by omega)];exact List.getElem?_eq_getElem hi3
      ·rw [List.getElem_map];exact aG.keep (Nat.le_refl _) (fun g2 h2 _=>⟨Nat.le_trans HB0.out.size h2.1,rfl⟩) m _ _ (HM.out i hi3 hi2)
   obtain ⟨adU,capU,rfl,hrow⟩:=HE.out;have HROW:=ag hrow;clear hrow HE HO HM;go_wp2;go_ret;exact ⟨⟨_,_,rfl,HROW.out⟩,HBE.out⟩
theorem aG.old {w:World} {B B' n m:Nat} {v:Value} {G:Ru} (h:aG w (ig B') n v G) (hb:B≤B') (hm:n≤m):aG w (ig B) m v G:=aG.up (aG.keep (Nat.le_refl _) (fun g hg _=>⟨Nat.le_trans hb hg,rfl⟩) n v G h) hm
section
variable {w:World} {rs:List TR} {P D br bp bt bK nK n k:Nat} {n1:Int} {nr:Nat} {Mr:KL→Option Value} {Er:List (KL × RR)} {ts:List Tp} {xo xu:List Al} {np:Nat} {Mp:K3→Option Value} {vo vu:Value} {out:List Fc} {f:Fc} {adF:Option Addr} {capF:Nat} {adE:Option Addr} {capE:Nat} {rows:List ER}
theorem Ku (hn:n < rows.length) (hP:PrM w P D adF capF out bK nK) (hD:DatA w rs D br bp bt n1 nr Mr Er (aN ts) xo xu np Mp vo vu) (hf:f.fits) (hts:∀ t ∈ ts,t.fits) (htl:ts.length≤1000) (hex:dw w adE rows) (hre:rows.length≤1000) (hk:rows[n].e.kind=1) :
  Calls prog 67 #[.pointer (some ⟨P,0,none⟩),.slice adE rows.length capE,.int .i64 (n:Int),.agg #[.string f.a,.string f.b,.string f.r,.string f.c,.string f.d]] w fun e w'=>(∃ v,e=.returned v∧aG w' (ig w.heap.size) (k + 1) v (mG ts f))∧Below w.heap.size w w':=by
 obtain ⟨b,off,hadr,⟨t0,t1,t2,t3,t4⟩,hbl,hok⟩:=dw.at0 hex hn;obtain ⟨W0,hW0⟩:∃ W0,W0=p9 w f rows[n]:=⟨_,rfl⟩;have HB0:Hid (Below w.heap.size w W0):=by show Below _ _ _; rw [hW0]; exact dm _ _ _
 have HN0:Hid (EnB W0 w.heap.size f rows[n]):=by show EnB _ _ _ _; rw [hW0]; exact dY _ _ _
 have hk1:(rows[n].e.kind == 1)=true:=by rw [hk]; rfl
 have hbl1:b < w.heap.size + 1:=by omega
 have hn1:=aY n;have hn2:(n:Int) < (rows.length:Int):=by omega
 unfold p9 at hW0;have HC:=ag (zS (hP.below HB0.out) (hD.below HB0.out) hf hts htl);clear hP hD hf hex hk hok;subst hadr;go_enter func67,ntmps67;go_wp2_with fail;rw [← hW0];clear hW0 t0 t1 t2 t3 t4;refine HC.out.mono ?_;rintro e w1 ⟨⟨v,rfl,hr⟩,hb1⟩;have HB1:=ag (HB0.out.trans (hb1.mono HB0.out.size));have HR:=ag (hr.old HB0.out.size (by omega:1≤k + 1));clear hb1 hr;go_wp2;go_ret;exact ⟨⟨v,rfl,HR.out⟩,HB1.out⟩
theorem Lp (hn:n < rows.length) (hf:f.fits) (hnm:rows[n].e.name.size≤maxLen) (hex:dw w adE rows) (hre:rows.length≤1000) (hk:rows[n].e.kind=2) :
  Calls prog 67 #[.pointer (some ⟨P,0,none⟩),.slice adE rows.length capE,.int .i64 (n:Int),.agg #[.string f.a,.string f.b,.string f.r,.string f.c,.string f.d]] w fun e w'=>(∃ v,e=.returned v∧aG w' (ig w.heap.size) (k + 1) v (fun K=>K ⟨f.a,f.b,rows[n].e.name,f.c,f.d⟩))∧Below w.heap.size w w':=by
 obtain ⟨b,off,hadr,⟨t0,t1,t2,t3,t4⟩,hbl,hok⟩:=dw.at0 hex hn;obtain ⟨W0,hW0⟩:∃ W0,W0=p9 w f rows[n]:=⟨_,rfl⟩;have HB0:Hid (Below w.heap.size w W0):=by show Below _ _ _; rw [hW0]; exact dm _ _ _
 have HN0:Hid (EnB W0 w.heap.size f rows[n]):=by show EnB _ _ _ _; rw [hW0]; exact dY _ _ _
 have hk1:(rows[n].e.kind == 1)=false:=by rw [hk]; rfl
 have hk2:(rows[n].e.kind == 2)=true:=by rw [hk]; rfl
 have hbl1:b < w.heap.size + 1:=by omega
 have hn1:=aY n;have hn2:(n:Int) < (rows.length:Int):=by omega
 unfold p9 at hW0;obtain ⟨W1,hW1⟩:∃ W1,W1=W0.alloc (.cells #[.string f.a,.string f.b,.string rows[n].e.name,.string f.c,.string f.d] 42):=⟨_,rfl⟩;have HB1:Hid (Below w.heap.size w W1):=by show Below _ _ _; rw [hW1]; exact HB0.out.alloc HB0.out.size _
 have hz0:W0.heap.size=w.heap.size + 1 + 1:=by rw [hW0]; simp
 have HR:Hid (aG W1 (ig w.heap.size) (k + 1) (.iface 185 (.agg #[.slice (some ⟨w.heap.size + 1 + 1,0,none⟩) 1 1])) (fun K=>K ⟨f.a,f.b,rows[n].e.name,f.c,f.d⟩)):=by
  refine .inr (.inl ⟨_,1,[⟨f.a,f.b,rows[n].e.name,f.c,f.d⟩],rfl,.inr ⟨_,rfl,by show _≤_; omega⟩,.inr ⟨_,0,rfl,by rw [hW1]; simp; omega,fun i hi=>?_⟩,by simp,fun x hx=>?_,by funext K; simp⟩)
  ·have e:i=0:=by simp at hi; omega
   subst e;have hc:∀ o v,(Fc.row ⟨f.a,f.b,rows[n].e.name,f.c,f.d⟩)[o]?=some v→W1.cell? ⟨w.heap.size + 1 + 1,o,none⟩=some v:=fun o v h=>by
    have:=AR W0 ⟨f.a,f.b,rows[n].e.name,f.c,f.d⟩ o v h;rw [← hW1,hz0] at this;by_cases ho:o=0
    ·subst ho; simpa [Addr.add] using this
    ·simpa [Addr.add,ho] using this
   exact ⟨hc 0 _ rfl,hc 1 _ rfl,hc 2 _ rfl,hc 3 _ rfl,hc 4 _ rfl⟩
  ·simp at hx; subst hx; exact ⟨hf.1,hf.2.1,hnm,hf.2.2.2.1,hf.2.2.2.2⟩
 clear hex hk hok hf hz0;subst hadr;go_enter func67,ntmps67;go_wp2;rw [← hW0];rw [← hW1];go_ret;exact ⟨⟨_,rfl,HR.out⟩,HB1.out⟩
theorem Kv (hn:n < rows.length) (hP:PrM w P D adF capF out bK nK) (hD:DatA w rs D br bp bt n1 nr Mr Er (aN ts) xo xu np Mp vo vu) (hf:f.fits) (hts:∀ t ∈ ts,t.fits) (htl:ts.length≤1000) (hov:rows[n].e.over.size≤maxLen∧rows[n].e.name.size≤maxLen) (hex:dw w adE rows) (hre:rows.length≤1000) (hk:rows[n].e.kind=3) :
  Calls prog 67 #[.pointer (some ⟨P,0,none⟩),.slice adE rows.length capE,.int .i64 (n:Int),.agg #[.string f.a,.string f.b,.string f.r,.string f.c,.string f.d]] w fun e w'=>(∃ v,e=.returned v∧aG w' (ig w.heap.size) (k + 1) v (yx ts rows[n].e.over rows[n].e.name f))∧Below w.heap.size w w':=by
 obtain ⟨b,off,hadr,⟨t0,t1,t2,t3,t4⟩,hbl,hok⟩:=dw.at0 hex hn;obtain ⟨W0,hW0⟩:∃ W0,W0=p9 w f rows[n]:=⟨_,rfl⟩;have HB0:Hid (Below w.heap.size w W0):=by show Below _ _ _; rw [hW0]; exact dm _ _ _
 have HN0:Hid (EnB W0 w.heap.size f rows[n]):=by show EnB _ _ _ _; rw [hW0]; exact dY _ _ _
 have hk1:(rows[n].e.kind == 1)=false:=by rw [hk]; rfl
 have hk2:(rows[n].e.kind == 2)=false:=by rw [hk]; rfl
 have hk3:(rows[n].e.kind == 3)=true:=by rw [hk]; rfl
 have hbl1:b < w.heap.size + 1:=by omega
 have hn1:=aY n;have hn2:(n:Int) < (rows.length:Int):=by omega
 unfold p9 at hW0;have HC:=ag (zT rows[n] (hP.below HB0.out) (hD.below HB0.out) hf hov.1 hov.2 hts htl);clear hP hD hf hex hk hok;subst hadr;go_enter func67,ntmps67;go_wp2_with fail;rw [← hW0];clear hW0 t0 t1 t2 t3 t4;refine HC.out.mono ?_;rintro e w1 ⟨⟨v,rfl,hr⟩,hb1⟩;have HB1:=ag (HB0.out.trans (hb1.mono HB0.out.size));have HR:=ag (hr.old HB0.out.size (by omega:1≤k + 1));clear hb1 hr;go_wp2;go_ret;exact ⟨⟨v,rfl,HR.out⟩,HB1.out⟩
theorem Jq (hn:n < rows.length) (Gk:Int→Ru) (hkl:rows[n].e.kids.length≤1000) (hIH:∀ i ∈ rows[n].e.kids,Jo P (.slice adE rows.length capE) f w k i (Gk i)) (hex:dw w adE rows) (hre:rows.length≤1000) (hk:rows[n].e.kind=4) :
  Calls prog 67 #[.pointer (some ⟨P,0,none⟩),.slice adE rows.length capE,.int .i64 (n:Int),.agg #[.string f.a,.string f.b,.string f.r,.string f.c,.string f.d]] w fun e w'=>(∃ v,e=.returned v∧aG w' (ig w.heap.size) (k + 1) v (fun K=>rows[n].e.kids.any fun i=>Gk i K))∧Below w.heap.size w w':=by
 obtain ⟨b,off,hadr,⟨t0,t1,t2,t3,t4⟩,hbl,hok⟩:=dw.at0 hex hn;obtain ⟨W0,hW0⟩:∃ W0,W0=p9 w f rows[n]:=⟨_,rfl⟩;have HB0:Hid (Below w.heap.size w W0):=by show Below _ _ _; rw [hW0]; exact dm _ _ _
 have HN0:Hid (EnB W0 w.heap.size f rows[n]):=by show EnB _ _ _ _; rw [hW0]; exact dY _ _ _
 have hk1:(rows[n].e.kind == 1)=false:=by rw [hk]; rfl
 have hk2:(rows[n].e.kind == 2)=false:=by rw [hk]; rfl
 have hk3:(rows[n].e.kind == 3)=false:=by rw [hk]; rfl
 have hk4:(rows[n].e.kind == 4)=true:=by rw [hk]; rfl
 have hbl1:b < w.heap.size + 1:=by omega
 have hn1:=aY n;have hn2:(n:Int) < (rows.length:Int):=by omega
 unfold p9 at hW0;have HC:=ag (nV k rows[n].e.kids Gk rows[n].adK rows[n].capK hkl (hok.2.below HB0.out) (fun i hi w1 hb=>hIH i hi w1 (HB0.out.trans (hb.mono HB0.out.size))));clear hIH hex hk hok;subst hadr;go_enter func67,ntmps67;go_wp2_with fail;rw [← hW0];clear hW0 t0 t1 t2 t3 t4;refine HC.out.mono ?_;rintro e w1 ⟨⟨adS,capS,rfl,hr⟩,hb1⟩;have HB1:=ag (HB0.out.trans (hb1.mono HB0.out.size));have hr2:vY w1 (ig w.heap.size) (aG w1 (ig w.heap.size) k) adS (rows[n].e.kids.map Gk):=by
  rcases hr with h | ⟨g,e,h1,h2,h3⟩
  ·exact .inl h
  ·exact .inr ⟨g,e,Nat.le_trans HB0.out.size h1,h2,fun i hi=>by obtain ⟨u,hu,hp⟩:=h3 i hi; exact ⟨u,hu,hp.old HB0.out.size (Nat.le_refl _)⟩⟩
 have HR:Hid (aG w1 (ig w.heap.size) (k + 1) (.iface 190 (.agg #[.slice adS rows[n].e.kids.length capS])) (fun K=>rows[n].e.kids.any fun i=>Gk i K)):=.inr (.inr (.inl ⟨adS,capS,rows[n].e.kids.map Gk,by rw [List.length_map],by rw [List.length_map]; exact hkl,hr2,by funext K; rw [List.any_map]; rfl⟩));clear hb1 hr hr2;go_wp2;go_ret;exact ⟨⟨_,rfl,HR.out⟩,HB1.out⟩
theorem Kw (hn:n < rows.length) (Gk:Int→Ru) (hkl:rows[n].e.kids.length≤1000) (hIH:∀ i ∈ rows[n].e.kids,Jo P (.slice adE rows.length capE) f w k i (Gk i)) (hex:dw w adE rows) (hre:rows.length≤1000) (hk:rows[n].e.kind=5) :
  Calls prog 67 #[.pointer (some ⟨P,0,none⟩),.slice adE rows.length capE,.int .i64 (n:Int),.agg #[.string f.a,.string f.b,.string f.r,.string f.c,.string f.d]] w fun e w'=>(∃ v,e=.returned v∧aG w' (ig w.heap.size) (k + 1) v (fun K=>rows[n].e.kids.all fun i=>Gk i K))∧Below w.heap.size w w':=by
 obtain ⟨b,off,hadr,⟨t0,t1,t2,t3,t4⟩,hbl,hok⟩:=dw.at0 hex hn;obtain ⟨W0,hW0⟩:∃ W0,W0=p9 w f rows[n]:=⟨_,rfl⟩;have HB0:Hid (Below w.heap.size w W0):=by show Below _ _ _; rw [hW0]; exact dm _ _ _
 have HN0:Hid (EnB W0 w.heap.size f rows[n]):=by show EnB _ _ _ _; rw [hW0]; exact dY _ _ _
 have hk1:(rows[n].e.kind == 1)=false:=by rw [hk]; rfl
 have hk2:(rows[n].e.kind == 2)=false:=by rw [hk]; rfl
 have hk3:(rows[n].e.kind == 3)=false:=by rw [hk]; rfl
 have hk4:(rows[n].e.kind == 4)=false:=by rw [hk]; rfl
 have hk5:(rows[n].e.kind == 5)=true:=by rw [hk]; rfl
 have hbl1:b < w.heap.size + 1:=by omega
 have hn1:=aY n;have hn2:(n:Int) < (rows.length:Int):=by omega
 unfold p9 at hW0;have HC:=ag (nV k rows[n].e.kids Gk rows[n].adK rows[n].capK hkl (hok.2.below HB0.out) (fun i hi w1 hb=>hIH i hi w1 (HB0.out.trans (hb.mono HB0.out.size))));clear hIH hex hk hok;subst hadr;go_enter func67,ntmps67;go_wp2_with fail;rw [← hW0];clear hW0 t0 t1 t2 t3 t4;refine HC.out.mono ?_;rintro e w1 ⟨⟨adS,capS,rfl,hr⟩,hb1⟩;have HB1:=ag (HB0.out.trans (hb1.mono HB0.out.size));have hr2:vY w1 (ig w.heap.size) (aG w1 (ig w.heap.size) k) adS (rows[n].e.kids.map Gk):=by
  rcases hr with h | ⟨g,e,h1,h2,h3⟩
  ·exact .inl h
  ·exact .inr ⟨g,e,Nat.le_trans HB0.out.size h1,h2,fun i hi=>by obtain ⟨u,hu,hp⟩:=h3 i hi; exact ⟨u,hu,hp.old HB0.out.size (Nat.le_refl _)⟩⟩
 have HR:Hid (aG w1 (ig w.heap.size) (k + 1) (.iface 191 (.agg #[.slice adS rows[n].e.kids.length capS])) (fun K=>rows[n].e.kids.all fun i=>Gk i K)):=.inr (.inr (.inr ⟨adS,capS,rows[n].e.kids.map Gk,by rw [List.length_map],by rw [List.length_map]; exact hkl,hr2,by funext K; rw [List.all_map]; rfl⟩));clear hb1 hr hr2;go_wp2;go_ret;exact ⟨⟨_,rfl,HR.out⟩,HB1.out⟩
end
end Go.Proofs.YtdaoiceeidoehaaGreat
