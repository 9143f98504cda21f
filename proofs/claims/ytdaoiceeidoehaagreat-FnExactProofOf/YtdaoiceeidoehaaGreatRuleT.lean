/- The program's rules of what tuples tell, and of what is gone over. -/
import Derived.Test.YtdaoiceeidoehaaGreatJ30
open Go.Proofs.Tryz
set_option maxHeartbeats 80000000
namespace Go.Proofs.YtdaoiceeidoehaaGreat
set_option linter.unusedVariables false
set_option maxRecDepth 100000
open Go.ChangeShapes Go.WideShapes Go.ChangeAt Go.RowKit Go.Maps
open Pl
structure PrM (w:World) (P D:Nat) (TF:Option Addr) (Te:Nat) (out:List Fc) (bK nK:Nat):Prop where
 lt:P < w.heap.size
 c0:w.cell? ⟨P,0,none⟩=some (.pointer (some ⟨D,0,none⟩))
 c1:w.cell? ⟨P,1,none⟩=some (.slice TF out.length Te)
 c2:w.cell? ⟨P,2,none⟩=some (.map (some bK))
 found:gX w TF out
 set:aD dH prog 42 w bK nK (uw out)
theorem PrM.below {w w':World} {P D:Nat} {TF:Option Addr} {Te:Nat} {out:List Fc} {bK nK:Nat} (h:PrM w P D TF Te out bK nK) (hb:Below w.heap.size w w'):PrM w' P D TF Te out bK nK :=
 ⟨RZ h.lt hb.size,aA hb h.lt h.c0,aA hb h.lt h.c1,aA hb h.lt h.c2,h.found.below hb,h.set.below hb⟩
section
variable {w:World} {rs:List TR} {P D br bp bt bK nK:Nat} {n1:Int} {nr:Nat} {Mr:KL→Option Value} {Er:List (KL × RR)} {ts:List Tp} {xo xu:List Al} {np:Nat} {Mp:K3→Option Value} {vo vu:Value} {out:List Fc} {f:Fc} {TF:Option Addr} {Te:Nat}
theorem Dc (hP:PrM w P D TF Te out bK nK) (hD:DatA w rs D br bp bt n1 nr Mr Er (aW ts) xo xu np Mp vo vu) (hf:f.fits) (hts:∀ t ∈ ts,t.fits) (htl:ts.length≤40) :
  Calls prog 97 #[.pointer (some ⟨P,0,none⟩),.agg #[.string f.a,.string f.b,.string f.r,.string f.c,.string f.d]] w fun e w'=>(∃ v,e=.returned v∧av w' (ic w.heap.size) 1 v (oP ts f))∧Below w.heap.size w w':=by
 obtain ⟨iF,i0,i1,i2,i3⟩:=mQ;have Xp:=ag (And.intro i0 (And.intro i1 (And.intro i2 i3)));obtain ⟨kl,hkl⟩:=rz (f.a,f.b,f.r) hf.1 hf.2.1 hf.2.2.1;obtain ⟨Tt,SV,hgd,hsl⟩:=rV hD.dat.told (f.a,f.b,f.r);have hll:=rX ts (f.a,f.b,f.r);have XH:Hid (∀ t ∈ G.lookL (aW ts) (f.a,f.b,f.r),t.fits):=fun t ht=>hts t (rW ht);have HHIT:Hid ((G.lookL (aW ts) (f.a,f.b,f.r)).any (nO f)=true→oP ts f=fun _=>true):=NE;have UK:Hid ((G.lookL (aW ts) (f.a,f.b,f.r)).any (nO f)=false→oP ts f=fun K=>(qP f (G.lookL (aW ts) (f.a,f.b,f.r))).any K):=Pv;obtain ⟨L,Uw⟩:∃ L,L=G.lookL (aW ts) (f.a,f.b,f.r):=⟨_,rfl⟩;rw [← Uw] at hgd hsl hll XH UK HHIT;obtain ⟨W0,hW0⟩:∃ W0,W0=w.alloc (.cells #[.string f.a,.string f.b,.string f.r,.string f.c,.string f.d] 42):=⟨_,rfl⟩;have HB0:=pu hW0;have c0:W0.cell? ⟨w.heap.size,0,none⟩=some (.string f.a):=by rw [hW0]; simp
 have c1:W0.cell? ⟨w.heap.size,1,none⟩=some (.string f.b):=by rw [hW0]; simp
 have c2:W0.cell? ⟨w.heap.size,2,none⟩=some (.string f.r):=by rw [hW0]; simp
 have c3:W0.cell? ⟨w.heap.size,3,none⟩=some (.string f.c):=by rw [hW0]; simp
 have c4:W0.cell? ⟨w.heap.size,4,none⟩=some (.string f.d):=by rw [hW0]; simp
 have d3:=HB0.out.cell (p:=⟨D,3,none⟩) hD.dat.lt |>.trans hD.dat.c3;have p0:=aA HB0.out hP.lt hP.c0;have hlk:∀ m,(Instr.lookup 126 (.map (some bp)) (.agg #[.string f.a,.string f.b,.string f.r]) false).run prog (W0.drewN m)=.ok (.slice Tt L.length SV) (W0.drewN m):=fun m=>by
  have h:=((hD.dat.told.map.below HB0.out).below (below_drewN (R3 _ _) m)).look (t:=126) (e:=36) I8 underlying126 (yo _) (x:=(f.a,f.b,f.r)) hkl;rw [hgd] at h;exact h
 have Uh:=ag (hsl.below HB0.out);have HF:=ag hf;have Uk:Hid (W0.cell? ⟨w.heap.size,3,none⟩=some (.string f.c)∧W0.cell? ⟨w.heap.size,4,none⟩=some (.string f.d)∧w.heap.size < W0.heap.size):=⟨c3,c4,ay c3⟩;have Z5:∀ m,Hid ((W0.drewN m).ownsRow W0.heap.size 42 5 (.slice none 0 0) (qP f (L.take 0)).length (au (qP f (L.take 0)))):=fun m=>World.ownsRow_nil _ _ _ _;have HH0:Hid ((L.take 0).any (nO f)=false):=rfl;clear hsl hf Uw hgd hkl i0 i1 i2 i3 hP hts;go_enter func97,ntmps97;go_wp2_with fail;rw [← hW0];clear hW0;go_quiet (fail);clear c0 c1 c2 c3 c4 d3 p0 hlk;go_wp2;go_loopw [5,22] (fun v i wr=>∃ k:Nat,k≤L.length∧i=.int .i64 k∧Hid (wr.ownsRow W0.heap.size 42 5 v (qP f (L.take k)).length (au (qP f (L.take k))))∧Hid (Below W0.heap.size W0 wr)∧Hid ((L.take k).any (nO f)=false)) (fun _ i _=>L.length - (intOf i).toNat);case atStart=>exact ⟨0,R6 _,rfl,Z5 _,below_drewN (R3 _ _) _,HH0⟩
 case round =>
  clear Z5 HH0;obtain ⟨k,hk,rfl,HO,HB,HH⟩:=hrel;by_cases hlt:k < L.length
  ·obtain ⟨bT,YK,UH,⟨a0,a1,a2,a3,a4,a5⟩,hbT⟩:=Sl.at0 (Uh.out.below HB.out) hlt;obtain ⟨c3,c4,cl⟩:=Uk.out;replace c3:=aA HB.out cl c3;replace c4:=aA HB.out cl c4;replace cl:=RZ cl HB.out.size;have hi1:=bn k;have hi2:(k:Int) < (L.length:Int):=by omega
   have XT:=ag (Nz f hlt);have hkl:(qP f (L.take k)).length≤k:=by
    have h:=Jr f (L.take k);rw [Sq] at h;omega
   have HHT:Hid ((L.take (k + 1)).any (nO f)=((L.take k).any (nO f) || nO f L[k])):=by show _=_; rw [R5 hlt,List.any_append]; simp
   have HHA:Hid (nO f L[k]=true→L.any (nO f)=true):=fun h=>Sw.2 ⟨_,RY hlt,h⟩;obtain ⟨t,ht⟩:∃ t,t=L[k]:=⟨_,rfl⟩;rw [← ht] at a0 a1 a2 a3 a4 a5 XT HHT HHA;clear ht;obtain ⟨W1,hW1⟩:∃ W1,W1=wr.alloc (.cells #[.string t.a,.string t.b,.string t.r,.string t.c,.string t.d,.string t.s] 73):=⟨_,rfl⟩;have Tu:=pu hW1;have S9:=ag (HB.out.trans (Tu.out.mono HB.out.size));have hz1:W1.heap.size=wr.heap.size + 1:=by rw [hW1]; simp
   have Ug:=ag (aM HO.out Tu.out);obtain ⟨ys,hys⟩:∃ ys,ys=qP f (L.take k):=⟨_,rfl⟩;rw [← hys] at Ug XT hkl;obtain ⟨Yi,UT,rfl,-⟩:=iH Ug.out;subst UH;clear hys HO Tu;cases hs:t.s.toList.isEmpty with
   | true =>
    have hs2:(t.s.toList == [])=true:=by rw [kX]; exact hs
    have Vs:Hid (qP f (L.take (k + 1))=ys):=by show _=_; rw [XT.out,hs]; simp
    cases hu:sI t.c t.d f.c f.d with
    | true =>
     have heq:=dS _ _ _ _ hu;have HN:Hid (oP ts f=fun _=>true):=HHIT.out (HHA.out (by unfold nO; rw [hs,hu]; rfl));have Wt:Hid (Below w.heap.size w W1):=HB0.out.trans (S9.out.mono HB0.out.size);clear hu hs;go_wp2;rw [← hW1];go_ret;exact ⟨⟨_,rfl,ny true HN.out⟩,Wt.out⟩
    | false =>
     have heq:=dS _ _ _ _ hu;have HH2:Hid ((L.take (k + 1)).any (nO f)=false):=by show _=_; rw [HHT.out,HH.out]; unfold nO; rw [hu]; simp
     have HR:Hid (W1.ownsRow W0.heap.size 42 5 (.slice Yi ys.length UT) (qP f (L.take (k + 1))).length (au (qP f (L.take (k + 1))))):=by show World.ownsRow _ _ _ _ _ _ _; rw [Vs.out]; exact Ug.out
     clear hu hs;go_wp2;rw [← hW1];clear hW1;go_roundw;case rel=>exact ⟨k + 1,by omega,by go_num,HR,S9,HH2⟩
     case measure=>simp [intOf] <;> omega
   | false =>
    have hs2:(t.s.toList == [])=false:=by rw [kX]; exact hs
    have YN:Hid (qP f (L.take (k + 1))=ys ++ [⟨t.c,t.d,t.s,f.c,f.d⟩]):=by show _=_; rw [XT.out,hs]; rfl
    have HH2:Hid ((L.take (k + 1)).any (nO f)=false):=by show _=_; rw [HHT.out,HH.out]; unfold nO; rw [hs]; rfl
    clear hs;obtain ⟨W4,Tg⟩:∃ W4,W4=W1.alloc (.cells #[.string t.c,.string t.d,.string t.s,.string f.c,.string f.d] 42):=⟨_,rfl⟩;have TU:Hid (W4.ownsRow W0.heap.size 42 5 (.slice Yi ys.length UT) ys.length (au ys)):=by show World.ownsRow _ _ _ _ _ _ _; rw [Tg]; exact Ug.out.alloc _
    have XP:Hid (∀ j u,(Fc.row ⟨t.c,t.d,t.s,f.c,f.d⟩)[j]?=some u→W4.cell? ((⟨wr.heap.size + 1,0,none⟩:Addr).add j)=some u):=by rw [← hz1,Tg]; exact yL W1 ⟨t.c,t.d,t.s,f.c,f.d⟩
    have Tq:Hid (Below W0.heap.size W0 W4):=by show Below _ _ _; rw [Tg]; exact S9.out.alloc S9.out.size _
    have UI:W0.heap.size≤W4.heap.size:=Tq.out.size;go_wp2_with (at_builtin; rw [← hW1]; rw [← Tg]; clear Tg; refine wpList_append_own_at _ rfl _ _ 38 rfl W0.heap.size 42 iF (.agg #[.string ⟨#[]⟩,.string ⟨#[]⟩,.string ⟨#[]⟩,.string ⟨#[]⟩,.string ⟨#[]⟩]) 5 80 underlying38 Xp.out.1 Xp.out.2.1 Xp.out.2.2.1 Xp.out.2.2.2 rfl (by decide) _ ys.length (au ys) rfl TU.out ⟨wr.heap.size + 1,0,none⟩ 1 1 (Fc.row ⟨t.c,t.d,t.s,f.c,f.d⟩) rfl rfl XP.out (by simp [Fc.row,Value.oneCell']) (by unfold maxLen; omega) (by omega) UI ?_);intro v' w5 hown hgr _ _;have HR:Hid (w5.ownsRow W0.heap.size 42 5 v' (qP f (L.take (k + 1))).length (au (qP f (L.take (k + 1))))):=by
     show World.ownsRow _ _ _ _ _ _ _;rw [YN.out,R9,jq]; exact hown
    have U0:Hid (Below W0.heap.size W0 w5):=Tq.out.grown hgr Tq.out.size (fun g hg=>(TU.out.lt g hg).1);clear hown hgr c3 c4 cl;go_wp2;go_roundw;case rel=>exact ⟨k + 1,by omega,by go_num,HR,U0,HH2⟩
    case measure=>simp [intOf] <;> omega
  ·have HE:Hid (wr.ownsRow w.heap.size 42 5 u5 (qP f L).length (au (qP f L))):=by
    have h:=HO.out;rw [List.take_of_length_le (by omega)] at h;exact iZ h HB0.out.size
   have UD:Hid (oP ts f=fun K=>(qP f L).any K):=UK.out (by have h:=HH.out; rw [List.take_of_length_le (by omega)] at h; exact h);have YV:Hid (∀ y ∈ qP f L,y.fits):=NC HF.out XH.out;have TG:Hid ((qP f L).length≤40):=by show _≤_; have:=Jr f L; omega
   have Wt:Hid (Below w.heap.size w wr):=HB0.out.trans (HB.out.mono HB0.out.size);clear HO;obtain ⟨TL,Tf,rfl,-⟩:=iH HE.out;go_wp2;go_ret;exact ⟨⟨_,rfl,su HE.out TG.out YV.out UD.out⟩,Wt.out⟩
theorem De (x:ER) (hP:PrM w P D TF Te out bK nK) (hD:DatA w rs D br bp bt n1 nr Mr Er (aW ts) xo xu np Mp vo vu) (hf:f.fits) (hov:x.e.over.size≤maxLen) (hnm:x.e.name.size≤maxLen) (hts:∀ t ∈ ts,t.fits) (htl:ts.length≤40) :
  Calls prog 98 #[.pointer (some ⟨P,0,none⟩),.agg #[.int .i64 x.e.kind,.slice x.adA x.e.allow.length x.capA,.string x.e.over,.string x.e.name,.slice x.adK x.e.kids.length x.capK],.agg #[.string f.a,.string f.b,.string f.r,.string f.c,.string f.d]] w fun e w'=>(∃ v,e=.returned v∧av w' (ic w.heap.size) 1 v (Bi ts x.e.over x.e.name f))∧Below w.heap.size w w':=by
 obtain ⟨iF,i0,i1,i2,i3⟩:=mQ;have Xp:=ag (And.intro i0 (And.intro i1 (And.intro i2 i3)));obtain ⟨kl,hkl⟩:=rz (f.a,f.b,x.e.over) hf.1 hf.2.1 hov;obtain ⟨Tt,SV,hgd,hsl⟩:=rV hD.dat.told (f.a,f.b,x.e.over);have hll:=rX ts (f.a,f.b,x.e.over);have XH:Hid (∀ t ∈ G.lookL (aW ts) (f.a,f.b,x.e.over),t.fits):=fun t ht=>hts t (rW ht);have UK:Hid (Bi ts x.e.over x.e.name f=fun K=>(xg f x.e.name (G.lookL (aW ts) (f.a,f.b,x.e.over))).any K):=Pw;obtain ⟨L,Uw⟩:∃ L,L=G.lookL (aW ts) (f.a,f.b,x.e.over):=⟨_,rfl⟩;rw [← Uw] at hgd hsl hll XH UK;obtain ⟨W0,hW0⟩:∃ W0,W0=(w.alloc (.cells #[.int .i64 x.e.kind,.slice x.adA x.e.allow.length x.capA,.string x.e.over,.string x.e.name,.slice x.adK x.e.kids.length x.capK] 166)).alloc (.cells #[.string f.a,.string f.b,.string f.r,.string f.c,.string f.d] 42):=⟨_,rfl⟩;have HB0:Hid (Below w.heap.size w W0):=by show Below _ _ _; rw [hW0]; exact ((R3 _ _).alloc (R4 _) _).alloc (by simp) _
 have x2:W0.cell? ⟨w.heap.size,2,none⟩=some (.string x.e.over):=by rw [hW0]; simp
 have x3:W0.cell? ⟨w.heap.size,3,none⟩=some (.string x.e.name):=by rw [hW0]; simp
 have hbx:w.heap.size + 1 < W0.heap.size:=by rw [hW0]; simp
 have c0:W0.cell? ⟨w.heap.size + 1,0,none⟩=some (.string f.a):=by rw [hW0]; simp
 have c1:W0.cell? ⟨w.heap.size + 1,1,none⟩=some (.string f.b):=by rw [hW0]; simp
 have c2:W0.cell? ⟨w.heap.size + 1,2,none⟩=some (.string f.r):=by rw [hW0]; simp
 have c3:W0.cell? ⟨w.heap.size + 1,3,none⟩=some (.string f.c):=by rw [hW0]; simp
 have c4:W0.cell? ⟨w.heap.size + 1,4,none⟩=some (.string f.d):=by rw [hW0]; simp
 have d3:=HB0.out.cell (p:=⟨D,3,none⟩) hD.dat.lt |>.trans hD.dat.c3;have p0:=aA HB0.out hP.lt hP.c0;have hlk:∀ m,(Instr.lookup 126 (.map (some bp)) (.agg #[.string f.a,.string f.b,.string x.e.over]) false).run prog (W0.drewN m)=.ok (.slice Tt L.length SV) (W0.drewN m):=fun m=>by
  have h:=((hD.dat.told.map.below HB0.out).below (below_drewN (R3 _ _) m)).look (t:=126) (e:=36) I8 underlying126 (yo _) (x:=(f.a,f.b,x.e.over)) hkl;rw [hgd] at h;exact h
 have Uh:=ag (hsl.below HB0.out);have HF:=ag hf;have Uk:Hid (W0.cell? ⟨w.heap.size + 1,3,none⟩=some (.string f.c)∧W0.cell? ⟨w.heap.size + 1,4,none⟩=some (.string f.d)∧w.heap.size + 1 < W0.heap.size):=⟨c3,c4,ay c3⟩;have HX0:Hid (W0.cell? ⟨w.heap.size,3,none⟩=some (.string x.e.name)∧w.heap.size < W0.heap.size):=⟨x3,ay x3⟩;have Z5:∀ m,Hid ((W0.drewN m).ownsRow W0.heap.size 42 5 (.slice none 0 0) (xg f x.e.name (L.take 0)).length (au (xg f x.e.name (L.take 0)))):=fun m=>World.ownsRow_nil _ _ _ _;clear hsl hf Uw hgd hkl i0 i1 i2 i3 hP hts;go_enter func98,ntmps98;go_wp2_with fail;rw [← hW0];clear hW0;go_quiet (fail);clear c0 c1 c2 c3 c4 d3 p0 hlk x2 x3;go_wp2;go_loopw [7,24] (fun v i wr=>∃ k:Nat,k≤L.length∧i=.int .i64 k∧Hid (wr.ownsRow W0.heap.size 42 5 v (xg f x.e.name (L.take k)).length (au (xg f x.e.name (L.take k))))∧Hid (Below W0.heap.size W0 wr)) (fun _ i _=>L.length - (intOf i).toNat);case atStart=>exact ⟨0,R6 _,rfl,Z5 _,below_drewN (R3 _ _) _⟩
 case round =>
  clear Z5;obtain ⟨k,hk,rfl,HO,HB⟩:=hrel;by_cases hlt:k < L.length
  ·obtain ⟨bT,YK,UH,⟨a0,a1,a2,a3,a4,a5⟩,hbT⟩:=Sl.at0 (Uh.out.below HB.out) hlt;obtain ⟨c3,c4,cl⟩:=Uk.out;replace c3:=aA HB.out cl c3;replace c4:=aA HB.out cl c4;replace cl:=RZ cl HB.out.size;obtain ⟨x3,xl⟩:=HX0.out;replace x3:=aA HB.out xl x3;replace xl:=RZ xl HB.out.size;have hi1:=bn k;have hi2:(k:Int) < (L.length:Int):=by omega
   have XT:=ag (NA f x.e.name hlt);have hkl:(xg f x.e.name (L.take k)).length≤k:=by
    have h:=(show (xg f x.e.name (L.take k)).length=(L.take k).length from by unfold xg; rw [Sv]);rw [Sq] at h;omega
   obtain ⟨t,ht⟩:∃ t,t=L[k]:=⟨_,rfl⟩;rw [← ht] at a0 a1 a2 a3 a4 a5 XT;clear ht;obtain ⟨W1,hW1⟩:∃ W1,W1=wr.alloc (.cells #[.string t.a,.string t.b,.string t.r,.string t.c,.string t.d,.string t.s] 73):=⟨_,rfl⟩;have Tu:=pu hW1;have S9:=ag (HB.out.trans (Tu.out.mono HB.out.size));have hz1:W1.heap.size=wr.heap.size + 1:=by rw [hW1]; simp
   have Ug:=ag (aM HO.out Tu.out);obtain ⟨ys,hys⟩:∃ ys,ys=xg f x.e.name (L.take k):=⟨_,rfl⟩;rw [← hys] at Ug XT hkl;obtain ⟨Yi,UT,rfl,-⟩:=iH Ug.out;subst UH;clear hys HO Tu;have YN:Hid (xg f x.e.name (L.take (k + 1))=ys ++ [⟨t.c,t.d,x.e.name,f.c,f.d⟩]):=XT.out;obtain ⟨W4,Tg⟩:∃ W4,W4=W1.alloc (.cells #[.string t.c,.string t.d,.string x.e.name,.string f.c,.string f.d] 42):=⟨_,rfl⟩;have TU:Hid (W4.ownsRow W0.heap.size 42 5 (.slice Yi ys.length UT) ys.length (au ys)):=by show World.ownsRow _ _ _ _ _ _ _; rw [Tg]; exact Ug.out.alloc _
   have XP:Hid (∀ j u,(Fc.row ⟨t.c,t.d,x.e.name,f.c,f.d⟩)[j]?=some u→W4.cell? ((⟨wr.heap.size + 1,0,none⟩:Addr).add j)=some u):=by rw [← hz1,Tg]; exact yL W1 ⟨t.c,t.d,x.e.name,f.c,f.d⟩
   have Tq:Hid (Below W0.heap.size W0 W4):=by show Below _ _ _; rw [Tg]; exact S9.out.alloc S9.out.size _
   have UI:W0.heap.size≤W4.heap.size:=Tq.out.size;go_wp2_with (at_builtin; rw [← hW1]; rw [← Tg]; clear Tg; refine wpList_append_own_at _ rfl _ _ 38 rfl W0.heap.size 42 iF (.agg #[.string ⟨#[]⟩,.string ⟨#[]⟩,.string ⟨#[]⟩,.string ⟨#[]⟩,.string ⟨#[]⟩]) 5 80 underlying38 Xp.out.1 Xp.out.2.1 Xp.out.2.2.1 Xp.out.2.2.2 rfl (by decide) _ ys.length (au ys) rfl TU.out ⟨wr.heap.size + 1,0,none⟩ 1 1 (Fc.row ⟨t.c,t.d,x.e.name,f.c,f.d⟩) rfl rfl XP.out (by simp [Fc.row,Value.oneCell']) (by unfold maxLen; omega) (by omega) UI ?_);intro v' w5 hown hgr _ _;have HR:Hid (w5.ownsRow W0.heap.size 42 5 v' (xg f x.e.name (L.take (k + 1))).length (au (xg f x.e.name (L.take (k + 1))))):=by
    show World.ownsRow _ _ _ _ _ _ _;rw [YN.out,R9,jq]; exact hown
   have U0:Hid (Below W0.heap.size W0 w5):=Tq.out.grown hgr Tq.out.size (fun g hg=>(TU.out.lt g hg).1);clear hown hgr c3 c4 cl x3 xl;go_wp2;go_roundw;case rel=>exact ⟨k + 1,by omega,by go_num,HR,U0⟩
   case measure=>simp [intOf] <;> omega
  ·have HE:Hid (wr.ownsRow w.heap.size 42 5 u7 (xg f x.e.name L).length (au (xg f x.e.name L))):=by
    have h:=HO.out;rw [List.take_of_length_le (by omega)] at h;exact iZ h HB0.out.size
   have UD:=UK;have YV:Hid (∀ y ∈ xg f x.e.name L,y.fits):=ND HF.out hnm XH.out;have TG:Hid ((xg f x.e.name L).length≤40):=by show _≤_; unfold xg; rw [Sv]; omega
   have Wt:Hid (Below w.heap.size w wr):=HB0.out.trans (HB.out.mono HB0.out.size);clear HO;obtain ⟨TL,Tf,rfl,-⟩:=iH HE.out;go_wp2;go_ret;exact ⟨⟨_,rfl,su HE.out TG.out YV.out UD.out⟩,Wt.out⟩
end
end Go.Proofs.YtdaoiceeidoehaaGreat
