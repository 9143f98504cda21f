/- The program's rule of a node, whatever it is. -/
import Derived.Test.YtdaoiceeidoehaaGreatRuleT
open Go.Proofs.Tryz
set_option maxHeartbeats 80000000
namespace Go.Proofs.YtdaoiceeidoehaaGreat
set_option linter.unusedVariables false
set_option maxRecDepth 100000
open Go.ChangeShapes Go.WideShapes Go.ChangeAt Go.RowKit Go.Maps
open Pl
theorem av.is {w:World} {S:Nat→Prop} {n:Nat} {v:Value} {G:Ru} (h:av w S n v G):∃ T a,v=.iface T a:=by
 match n,h with
 | 0,h=>exact h.elim
 | n + 1,h =>
  rcases h with ⟨b,e,-⟩ | ⟨ad,cap,fs,e,-⟩ | ⟨ad,cap,Gs,e,-⟩ | ⟨ad,cap,Gs,e,-⟩ <;> exact ⟨_,_,e⟩
def NF (P:Nat) (vE:Value) (f:Fc) (w:World) (m:Nat) (i:Int) (G:Ru):Prop:=∀ w1:World,Below w.heap.size w w1→Calls prog 67 #[.pointer (some ⟨P,0,none⟩),vE,.int .i64 i,.agg #[.string f.a,.string f.b,.string f.r,.string f.c,.string f.d]] w1 fun e w'=>(∃ v,e=.returned v∧av w' (ic w1.heap.size) m v G)∧Below w1.heap.size w1 w'
def Sx (B:Nat) (v:Value) (g:Nat):Prop:=B≤g∧some g ≠ v.ownBlock
theorem NG:∃ i,prog.info? 80=some i∧i.zero=some .nilIface∧i.size=1∧i.bytes=16 :=
 info_parts (P:=prog) (e:=80) (z:=.nilIface) (size:=1) (bytes:=16) (by kernel_rfl)
theorem qj {P:Nat} {vE:Value} {f:Fc} {w:World} (m:Nat) (ks:List Int) (Gk:Int→Ru) (adK:Option Addr) (capK:Nat) (hkl:ks.length≤5) (hs:lF w adK ks) (hK:∀ i ∈ ks,NF P vE f w m i (Gk i)) :
  Calls prog 99 #[.pointer (some ⟨P,0,none⟩),vE,.slice adK ks.length capK,.agg #[.string f.a,.string f.b,.string f.r,.string f.c,.string f.d]] w fun e w'=>(∃ ad cap,e=.returned (.slice ad ks.length cap)∧nu w' (ic w.heap.size) (av w' (ic w.heap.size) m) ad (ks.map Gk))∧Below w.heap.size w w':=by
 obtain ⟨iR,h0,h1,h2,h3⟩:=NG;have UB:=ag (And.intro h0 (And.intro h1 (And.intro h2 h3)));obtain ⟨W0,hW0⟩:∃ W0,W0=w.alloc (.cells #[.string f.a,.string f.b,.string f.r,.string f.c,.string f.d] 42):=⟨_,rfl⟩;have HB0:=pu hW0;have Uk:Hid (W0.cell? ⟨w.heap.size,0,none⟩=some (.string f.a)∧W0.cell? ⟨w.heap.size,1,none⟩=some (.string f.b)∧W0.cell? ⟨w.heap.size,2,none⟩=some (.string f.r)∧W0.cell? ⟨w.heap.size,3,none⟩=some (.string f.c)∧W0.cell? ⟨w.heap.size,4,none⟩=some (.string f.d)):=by
  show _∧_;rw [hW0]; refine ⟨?_,?_,?_,?_,?_⟩ <;> simp
 have HS:=ag (hs.below HB0.out);have HKR:=ag hK;clear hs hK h0 h1 h2 h3;go_enter func99,ntmps99;go_wp2_with fail;rw [← hW0];clear hW0;go_loopw [9,14] (fun v i wr=>∃ (k:Nat) (us:List Value),k≤ks.length∧us.length=k∧i=.int .i64 k∧Hid (wr.ownsRow W0.heap.size 80 1 v k us)∧Hid (∀ (j:Nat) (h1:j < us.length) (h2:j < ks.length),av wr (Sx W0.heap.size v) m us[j] (Gk ks[j]))∧Hid (Below W0.heap.size W0 wr)) (fun _ i _=>ks.length - (intOf i).toNat);case atStart=>exact ⟨0,[],R6 _,rfl,rfl,World.ownsRow_nil _ _ _ _,fun j h1 _=>absurd h1 (SE _),R3 _ _⟩
 case round =>
  obtain ⟨k,us,hk,Xo,rfl,HO,HM,HB⟩:=hrel;by_cases hlt:k < ks.length
  ·obtain ⟨bJ,TW,SL,t0,hbJ⟩:=lF.at0 (HS.out.below HB.out) hlt;obtain ⟨c0,c1,c2,c3,c4⟩:=Uk.out;have cl:w.heap.size < W0.heap.size:=ay c0;replace c0:=aA HB.out cl c0;replace c1:=aA HB.out cl c1;replace c2:=aA HB.out cl c2;replace c3:=aA HB.out cl c3;replace c4:=aA HB.out cl c4;have hi1:=bn k;have hi2:(k:Int) < (ks.length:Int):=by omega
   have HC:=ag (HKR.out ks[k] (RY hlt) wr (HB0.out.trans (HB.out.mono HB0.out.size)));obtain ⟨i0,hi0⟩:∃ i0,ks[k]=i0:=⟨_,rfl⟩;have HI0:=ag hi0;rw [hi0] at t0 HC;clear hi0;subst SL;go_wp2_with fail;refine HC.out.mono ?_;rintro e w2 ⟨⟨u,rfl,WA⟩,hb2⟩;obtain ⟨uT,ua,hue⟩:=WA.is;subst hue;obtain ⟨u,hu⟩:∃ u,u=Value.iface uT ua:=⟨_,rfl⟩;rw [← hu] at WA;have HB2:=ag (HB.out.trans (hb2.mono HB.out.size));have Ta:=ag (aM HO.out hb2);have Uj:Hid (∀ (j:Nat) (h1:j < us.length) (h2:j < ks.length),av w2 (Sx W0.heap.size u9) m us[j] (Gk ks[j])):=fun j h1 h2=>(HM.out j h1 h2).below hb2;have Xh:Hid (av w2 (Sx W0.heap.size u9) m u (Gk i0)):=av.keep (R4 _) (fun g hg _=>⟨⟨Sb HB.out.size hg,fun e=>by have:=(HO.out.lt g e.symm).2; have:wr.heap.size≤g:=hg; omega⟩,rfl⟩) m u _ WA;have hsw:W0.heap.size≤w2.heap.size:=HB2.out.size;clear WA hb2 HO HM HB t0 c0 c1 c2 c3 c4 cl;obtain ⟨W4,Tg⟩:∃ W4,W4=w2.alloc (.cells #[.iface uT ua] 80):=⟨_,rfl⟩;have Tu:=pu Tg;have TU:Hid (W4.ownsRow W0.heap.size 80 1 u9 k us):=aM Ta.out Tu.out;have XP:Hid (∀ j x,[u][j]?=some x→W4.cell? ((⟨w2.heap.size,0,none⟩:Addr).add j)=some x):=fun j x hx=>by
    match j,hx with
    | 0,hx=>simp at hx; subst hx; rw [Tg,hu]; simp [Addr.add]
   have Tq:=ag (HB2.out.trans (Tu.out.mono HB2.out.size));have YC:Hid (∀ (j:Nat) (h1:j < us.length) (h2:j < ks.length),av W4 (Sx W0.heap.size u9) m us[j] (Gk ks[j])):=fun j h1 h2=>(Uj.out j h1 h2).below Tu.out;have HU4:=aC (Xh.out.below Tu.out);have UI:W0.heap.size≤W4.heap.size:=Tq.out.size;clear Uj Xh HB2;go_wp2_with (at_builtin; rw [← Tg]; clear Tg; rw [← hu]; refine wpList_append_own_at _ rfl _ _ 187 rfl W0.heap.size 80 iR .nilIface 1 16 underlying187 UB.out.1 UB.out.2.1 UB.out.2.2.1 UB.out.2.2.2 rfl (by decide) _ k us rfl TU.out ⟨w2.heap.size,0,none⟩ 1 1 [u] rfl rfl XP.out (by rw [hu]; simp [Value.oneCell']) (by unfold maxLen; omega) (by omega) UI ?_);intro v' w5 hown hgr _ hat;have HR:Hid (w5.ownsRow W0.heap.size 80 1 v' (k + 1) (us ++ [u])):=by show World.ownsRow _ _ _ _ _ _ _; first | exact hown | (rw [hu]; exact hown)
   have HT:Hid (∀ g,Sx W0.heap.size u9 g→g < W4.heap.size→Sx W0.heap.size v' g∧w5.heap[g]?=W4.heap[g]?):=fun g hg hl=>⟨⟨hg.1,by
    rcases hat with e | e
    ·rw [e]; exact hg.2
    ·rw [e]; intro e2; injection e2 with e2; omega⟩,hgr.block g hl hg.2⟩
   have HM5:Hid (∀ (j:Nat) (h1:j < (us ++ [u]).length) (h2:j < ks.length),av w5 (Sx W0.heap.size v') m (us ++ [u])[j] (Gk ks[j])):=fun j h1 h2=>by
    by_cases hj:j < us.length
    ·rw [Sy hj];exact av.keep hgr.size HT.out m _ _ (YC.out j hj h2)
    ·have e:j=us.length:=by simp at h1; omega
     subst e;have e2:ks[us.length]=i0:=by simp only [Xo]; exact HI0.out
     rw [SF (R4 _),e2];simpa using av.keep hgr.size HT.out m _ _ HU4.out
   have U0:Hid (Below W0.heap.size W0 w5):=Tq.out.grown hgr Tq.out.size (fun g hg=>(TU.out.lt g hg).1);clear hown hgr hat YC HU4 HT;go_wp2;go_roundw;case rel=>exact ⟨k + 1,us ++ [u],by omega,by simp; omega,by go_num,HR,HM5,U0⟩
   case measure=>simp [intOf] <;> omega
  ·obtain rfl:k=ks.length:=by omega
   have Wt:Hid (Below w.heap.size w wr):=HB0.out.trans (HB.out.mono HB0.out.size);have HE:Hid (∃ ad cap,u9=.slice ad ks.length cap∧nu wr (ic w.heap.size) (av wr (ic w.heap.size) m) ad (ks.map Gk)):=by
    by_cases hz:ks=[]
    ·rcases HO.out.2 with ⟨e,h⟩ | ⟨g,cap,cur,e,-⟩
     ·exact ⟨none,0,by rw [e,h],.inl (by rw [hz]; rfl)⟩
     ·exact ⟨_,cap,e,.inl (by rw [hz]; rfl)⟩
    ·have hO:=HO.out;rcases hO.2 with ⟨e,h⟩ | ⟨g,cap,cur,e,hbg,-⟩
     ·exact absurd (Si.1 h) hz
     ·refine ⟨_,cap,e,.inr ⟨g,rfl,Sb HB0.out.size hbg,(hO.lt g (by rw [e]; rfl)).2,fun i hi=>?_⟩⟩;have hi2:i < ks.length:=by simpa using hi
      have hi3:i < us.length:=by omega
      refine ⟨us[i],?_,?_⟩
      ·have hO2:=hO;rw [e] at hO2;rw [hO2.cellAt i (by omega)];exact R8 hi3
      ·rw [List.getElem_map];exact av.keep (R4 _) (fun g2 h2 _=>⟨Sb HB0.out.size h2.1,rfl⟩) m _ _ (HM.out i hi3 hi2)
   obtain ⟨TL,Tf,rfl,hrow⟩:=HE.out;have UF:=ag hrow;clear hrow HE HO HM;go_wp2;go_ret;exact ⟨⟨_,_,rfl,UF.out⟩,Wt.out⟩
theorem av.old {w:World} {B B' n m:Nat} {v:Value} {G:Ru} (h:av w (ic B') n v G) (hb:B≤B') (hm:n≤m):av w (ic B) m v G:=av.up (av.keep (R4 _) (fun g hg _=>⟨Sb hb hg,rfl⟩) n v G h) hm
section
variable {w:World} {rs:List TR} {P D br bp bt bK nK n k:Nat} {n1:Int} {nr:Nat} {Mr:KL→Option Value} {Er:List (KL × RR)} {ts:List Tp} {xo xu:List Al} {np:Nat} {Mp:K3→Option Value} {vo vu:Value} {out:List Fc} {f:Fc} {TF:Option Addr} {Te:Nat} {SN:Option Addr} {capE:Nat} {rows:List ER}
theorem Px (hn:n < rows.length) (hP:PrM w P D TF Te out bK nK) (hD:DatA w rs D br bp bt n1 nr Mr Er (aW ts) xo xu np Mp vo vu) (hf:f.fits) (hts:∀ t ∈ ts,t.fits) (htl:ts.length≤40) (hex:eX w SN rows) (hre:rows.length≤1000) (hk:rows[n].e.kind=1) :
  Calls prog 67 #[.pointer (some ⟨P,0,none⟩),.slice SN rows.length capE,.int .i64 (n:Int),.agg #[.string f.a,.string f.b,.string f.r,.string f.c,.string f.d]] w fun e w'=>(∃ v,e=.returned v∧av w' (ic w.heap.size) (k + 1) v (oP ts f))∧Below w.heap.size w w':=by
 obtain ⟨b,off,SL,⟨t0,t1,t2,t3,t4⟩,hbl,hok⟩:=eX.at0 hex hn;obtain ⟨W0,hW0⟩:∃ W0,W0=rT w f rows[n]:=⟨_,rfl⟩;have HB0:Hid (Below w.heap.size w W0):=by show Below _ _ _; rw [hW0]; exact dN _ _ _
 have Ul:Hid (EnB W0 w.heap.size f rows[n]):=by show EnB _ _ _ _; rw [hW0]; exact eT _ _ _
 have hk1:(rows[n].e.kind == 1)=true:=by rw [hk]; rfl
 have Va:b < w.heap.size + 1:=by omega
 have hn1:=bn n;have hn2:(n:Int) < (rows.length:Int):=by omega
 unfold rT at hW0;have HC:=ag (Dc (hP.below HB0.out) (hD.below HB0.out) hf hts htl);clear hP hD hf hex hk hok;subst SL;go_enter func67,ntmps67;go_wp2_with fail;rw [← hW0];clear hW0 t0 t1 t2 t3 t4;refine HC.out.mono ?_;rintro e w1 ⟨⟨v,rfl,hr⟩,hb1⟩;have HB1:=ag (HB0.out.trans (hb1.mono HB0.out.size));have HR:=ag (hr.old HB0.out.size (by omega:1≤k + 1));clear hb1 hr;go_wp2;go_ret;exact ⟨⟨v,rfl,HR.out⟩,HB1.out⟩
theorem QE (hn:n < rows.length) (hf:f.fits) (hnm:rows[n].e.name.size≤maxLen) (hex:eX w SN rows) (hre:rows.length≤1000) (hk:rows[n].e.kind=2) :
  Calls prog 67 #[.pointer (some ⟨P,0,none⟩),.slice SN rows.length capE,.int .i64 (n:Int),.agg #[.string f.a,.string f.b,.string f.r,.string f.c,.string f.d]] w fun e w'=>(∃ v,e=.returned v∧av w' (ic w.heap.size) (k + 1) v (fun K=>K ⟨f.a,f.b,rows[n].e.name,f.c,f.d⟩))∧Below w.heap.size w w':=by
 obtain ⟨b,off,SL,⟨t0,t1,t2,t3,t4⟩,hbl,hok⟩:=eX.at0 hex hn;obtain ⟨W0,hW0⟩:∃ W0,W0=rT w f rows[n]:=⟨_,rfl⟩;have HB0:Hid (Below w.heap.size w W0):=by show Below _ _ _; rw [hW0]; exact dN _ _ _
 have Ul:Hid (EnB W0 w.heap.size f rows[n]):=by show EnB _ _ _ _; rw [hW0]; exact eT _ _ _
 have hk1:(rows[n].e.kind == 1)=false:=by rw [hk]; rfl
 have hk2:(rows[n].e.kind == 2)=true:=by rw [hk]; rfl
 have Va:b < w.heap.size + 1:=by omega
 have hn1:=bn n;have hn2:(n:Int) < (rows.length:Int):=by omega
 unfold rT at hW0;obtain ⟨W1,hW1⟩:∃ W1,W1=W0.alloc (.cells #[.string f.a,.string f.b,.string rows[n].e.name,.string f.c,.string f.d] 42):=⟨_,rfl⟩;have HB1:Hid (Below w.heap.size w W1):=by show Below _ _ _; rw [hW1]; exact HB0.out.alloc HB0.out.size _
 have hz0:W0.heap.size=w.heap.size + 1 + 1:=by rw [hW0]; simp
 have HR:Hid (av W1 (ic w.heap.size) (k + 1) (.iface 185 (.agg #[.slice (some ⟨w.heap.size + 1 + 1,0,none⟩) 1 1])) (fun K=>K ⟨f.a,f.b,rows[n].e.name,f.c,f.d⟩)):=by
  refine .inr (.inl ⟨_,1,[⟨f.a,f.b,rows[n].e.name,f.c,f.d⟩],rfl,.inr ⟨_,rfl,by show _≤_; omega⟩,.inr ⟨_,0,rfl,by rw [hW1]; simp; omega,fun i hi=>?_⟩,by simp,fun x hx=>?_,by funext K; simp⟩)
  ·have e:i=0:=by simp at hi; omega
   subst e;have hc:∀ o v,(Fc.row ⟨f.a,f.b,rows[n].e.name,f.c,f.d⟩)[o]?=some v→W1.cell? ⟨w.heap.size + 1 + 1,o,none⟩=some v:=fun o v h=>by
    have:=yL W0 ⟨f.a,f.b,rows[n].e.name,f.c,f.d⟩ o v h;rw [← hW1,hz0] at this;by_cases ho:o=0
    ·subst ho; simpa [Addr.add] using this
    ·simpa [Addr.add,ho] using this
   exact ⟨hc 0 _ rfl,hc 1 _ rfl,hc 2 _ rfl,hc 3 _ rfl,hc 4 _ rfl⟩
  ·simp at hx; subst hx; exact ⟨hf.1,hf.2.1,hnm,hf.2.2.2.1,hf.2.2.2.2⟩
 clear hex hk hok hf hz0;subst SL;go_enter func67,ntmps67;go_wp2;rw [← hW0];rw [← hW1];go_ret;exact ⟨⟨_,rfl,HR.out⟩,HB1.out⟩
theorem Py (hn:n < rows.length) (hP:PrM w P D TF Te out bK nK) (hD:DatA w rs D br bp bt n1 nr Mr Er (aW ts) xo xu np Mp vo vu) (hf:f.fits) (hts:∀ t ∈ ts,t.fits) (htl:ts.length≤40) (hov:rows[n].e.over.size≤maxLen∧rows[n].e.name.size≤maxLen) (hex:eX w SN rows) (hre:rows.length≤1000) (hk:rows[n].e.kind=3) :
  Calls prog 67 #[.pointer (some ⟨P,0,none⟩),.slice SN rows.length capE,.int .i64 (n:Int),.agg #[.string f.a,.string f.b,.string f.r,.string f.c,.string f.d]] w fun e w'=>(∃ v,e=.returned v∧av w' (ic w.heap.size) (k + 1) v (Bi ts rows[n].e.over rows[n].e.name f))∧Below w.heap.size w w':=by
 obtain ⟨b,off,SL,⟨t0,t1,t2,t3,t4⟩,hbl,hok⟩:=eX.at0 hex hn;obtain ⟨W0,hW0⟩:∃ W0,W0=rT w f rows[n]:=⟨_,rfl⟩;have HB0:Hid (Below w.heap.size w W0):=by show Below _ _ _; rw [hW0]; exact dN _ _ _
 have Ul:Hid (EnB W0 w.heap.size f rows[n]):=by show EnB _ _ _ _; rw [hW0]; exact eT _ _ _
 have hk1:(rows[n].e.kind == 1)=false:=by rw [hk]; rfl
 have hk2:(rows[n].e.kind == 2)=false:=by rw [hk]; rfl
 have hk3:(rows[n].e.kind == 3)=true:=by rw [hk]; rfl
 have Va:b < w.heap.size + 1:=by omega
 have hn1:=bn n;have hn2:(n:Int) < (rows.length:Int):=by omega
 unfold rT at hW0;have HC:=ag (De rows[n] (hP.below HB0.out) (hD.below HB0.out) hf hov.1 hov.2 hts htl);clear hP hD hf hex hk hok;subst SL;go_enter func67,ntmps67;go_wp2_with fail;rw [← hW0];clear hW0 t0 t1 t2 t3 t4;refine HC.out.mono ?_;rintro e w1 ⟨⟨v,rfl,hr⟩,hb1⟩;have HB1:=ag (HB0.out.trans (hb1.mono HB0.out.size));have HR:=ag (hr.old HB0.out.size (by omega:1≤k + 1));clear hb1 hr;go_wp2;go_ret;exact ⟨⟨v,rfl,HR.out⟩,HB1.out⟩
theorem NH (hn:n < rows.length) (Gk:Int→Ru) (hkl:rows[n].e.kids.length≤5) (Ww:∀ i ∈ rows[n].e.kids,NF P (.slice SN rows.length capE) f w k i (Gk i)) (hex:eX w SN rows) (hre:rows.length≤1000) (hk:rows[n].e.kind=4) :
  Calls prog 67 #[.pointer (some ⟨P,0,none⟩),.slice SN rows.length capE,.int .i64 (n:Int),.agg #[.string f.a,.string f.b,.string f.r,.string f.c,.string f.d]] w fun e w'=>(∃ v,e=.returned v∧av w' (ic w.heap.size) (k + 1) v (fun K=>rows[n].e.kids.any fun i=>Gk i K))∧Below w.heap.size w w':=by
 obtain ⟨b,off,SL,⟨t0,t1,t2,t3,t4⟩,hbl,hok⟩:=eX.at0 hex hn;obtain ⟨W0,hW0⟩:∃ W0,W0=rT w f rows[n]:=⟨_,rfl⟩;have HB0:Hid (Below w.heap.size w W0):=by show Below _ _ _; rw [hW0]; exact dN _ _ _
 have Ul:Hid (EnB W0 w.heap.size f rows[n]):=by show EnB _ _ _ _; rw [hW0]; exact eT _ _ _
 have hk1:(rows[n].e.kind == 1)=false:=by rw [hk]; rfl
 have hk2:(rows[n].e.kind == 2)=false:=by rw [hk]; rfl
 have hk3:(rows[n].e.kind == 3)=false:=by rw [hk]; rfl
 have hk4:(rows[n].e.kind == 4)=true:=by rw [hk]; rfl
 have Va:b < w.heap.size + 1:=by omega
 have hn1:=bn n;have hn2:(n:Int) < (rows.length:Int):=by omega
 unfold rT at hW0;have HC:=ag (qj k rows[n].e.kids Gk rows[n].adK rows[n].capK hkl (hok.2.below HB0.out) (fun i hi w1 hb=>Ww i hi w1 (HB0.out.trans (hb.mono HB0.out.size))));clear Ww hex hk hok;subst SL;go_enter func67,ntmps67;go_wp2_with fail;rw [← hW0];clear hW0 t0 t1 t2 t3 t4;refine HC.out.mono ?_;rintro e w1 ⟨⟨Uy,XW,rfl,hr⟩,hb1⟩;have HB1:=ag (HB0.out.trans (hb1.mono HB0.out.size));have hr2:nu w1 (ic w.heap.size) (av w1 (ic w.heap.size) k) Uy (rows[n].e.kids.map Gk):=by
  rcases hr with h | ⟨g,e,h1,h2,h3⟩
  ·exact .inl h
  ·exact .inr ⟨g,e,Sb HB0.out.size h1,h2,fun i hi=>by obtain ⟨u,hu,hp⟩:=h3 i hi; exact ⟨u,hu,hp.old HB0.out.size (R4 _)⟩⟩
 have HR:Hid (av w1 (ic w.heap.size) (k + 1) (.iface 190 (.agg #[.slice Uy rows[n].e.kids.length XW])) (fun K=>rows[n].e.kids.any fun i=>Gk i K)):=.inr (.inr (.inl ⟨Uy,XW,rows[n].e.kids.map Gk,by rw [Sv],by rw [Sv]; exact hkl,hr2,by funext K; rw [List.any_map]; rfl⟩));clear hb1 hr hr2;go_wp2;go_ret;exact ⟨⟨_,rfl,HR.out⟩,HB1.out⟩
theorem Pz (hn:n < rows.length) (Gk:Int→Ru) (hkl:rows[n].e.kids.length≤5) (Ww:∀ i ∈ rows[n].e.kids,NF P (.slice SN rows.length capE) f w k i (Gk i)) (hex:eX w SN rows) (hre:rows.length≤1000) (hk:rows[n].e.kind=5) :
  Calls prog 67 #[.pointer (some ⟨P,0,none⟩),.slice SN rows.length capE,.int .i64 (n:Int),.agg #[.string f.a,.string f.b,.string f.r,.string f.c,.string f.d]] w fun e w'=>(∃ v,e=.returned v∧av w' (ic w.heap.size) (k + 1) v (fun K=>rows[n].e.kids.all fun i=>Gk i K))∧Below w.heap.size w w':=by
 obtain ⟨b,off,SL,⟨t0,t1,t2,t3,t4⟩,hbl,hok⟩:=eX.at0 hex hn;obtain ⟨W0,hW0⟩:∃ W0,W0=rT w f rows[n]:=⟨_,rfl⟩;have HB0:Hid (Below w.heap.size w W0):=by show Below _ _ _; rw [hW0]; exact dN _ _ _
 have Ul:Hid (EnB W0 w.heap.size f rows[n]):=by show EnB _ _ _ _; rw [hW0]; exact eT _ _ _
 have hk1:(rows[n].e.kind == 1)=false:=by rw [hk]; rfl
 have hk2:(rows[n].e.kind == 2)=false:=by rw [hk]; rfl
 have hk3:(rows[n].e.kind == 3)=false:=by rw [hk]; rfl
 have hk4:(rows[n].e.kind == 4)=false:=by rw [hk]; rfl
 have hk5:(rows[n].e.kind == 5)=true:=by rw [hk]; rfl
 have Va:b < w.heap.size + 1:=by omega
 have hn1:=bn n;have hn2:(n:Int) < (rows.length:Int):=by omega
 unfold rT at hW0;have HC:=ag (qj k rows[n].e.kids Gk rows[n].adK rows[n].capK hkl (hok.2.below HB0.out) (fun i hi w1 hb=>Ww i hi w1 (HB0.out.trans (hb.mono HB0.out.size))));clear Ww hex hk hok;subst SL;go_enter func67,ntmps67;go_wp2_with fail;rw [← hW0];clear hW0 t0 t1 t2 t3 t4;refine HC.out.mono ?_;rintro e w1 ⟨⟨Uy,XW,rfl,hr⟩,hb1⟩;have HB1:=ag (HB0.out.trans (hb1.mono HB0.out.size));have hr2:nu w1 (ic w.heap.size) (av w1 (ic w.heap.size) k) Uy (rows[n].e.kids.map Gk):=by
  rcases hr with h | ⟨g,e,h1,h2,h3⟩
  ·exact .inl h
  ·exact .inr ⟨g,e,Sb HB0.out.size h1,h2,fun i hi=>by obtain ⟨u,hu,hp⟩:=h3 i hi; exact ⟨u,hu,hp.old HB0.out.size (R4 _)⟩⟩
 have HR:Hid (av w1 (ic w.heap.size) (k + 1) (.iface 191 (.agg #[.slice Uy rows[n].e.kids.length XW])) (fun K=>rows[n].e.kids.all fun i=>Gk i K)):=.inr (.inr (.inr ⟨Uy,XW,rows[n].e.kids.map Gk,by rw [Sv],by rw [Sv]; exact hkl,hr2,by funext K; rw [List.all_map]; rfl⟩));clear hb1 hr hr2;go_wp2;go_ret;exact ⟨⟨_,rfl,HR.out⟩,HB1.out⟩
end
theorem zk {es:List Ex}:∀ (ks:List Int) (a b:Nat),nI es ks a b→(ks.length:Int)≤(b:Int) - a∧∀ k ∈ ks,(k.toNat:Int) - ak es k.toNat + (ks.length:Int)≤(b:Int) - a
 | [],a,b,h=>by
  have:a=b:=h;exact ⟨by simp; omega,fun k hk=>by cases hk⟩
 | x::ks,a,b,h=>by
  obtain ⟨h1,h2⟩:=zk ks _ b h.2.2;have h3:=fJ es x.toNat;have h4:=h.2.1;rw [List.length_cons];refine ⟨by omega,fun k hk=>?_⟩;rcases List.mem_cons.1 hk with rfl | hk
  ·omega
  ·have:=h2 k hk; omega
theorem NI {es:List Ex} {n d:Nat} (ht:0≤ak es n) (h2:2≤(cZ es n).length) (hd:(n:Int) - ak es n + 1 < 2 * ((d + 1:Nat):Int)):∀ k ∈ cZ es n,(k.toNat:Int) - ak es k.toNat + 1 < 2 * (d:Int):=fun k hk=>by
 have h:=(zk _ _ _ (kG ht)).2 k hk;omega
theorem KO {es:List Ex} (h:aU es=true):∀ j,j < es.length→0≤ak es j:=by
 rw [sS] at h;unfold jQ at h;simp only [R7,Sj] at h;have h1:=h.2.1;unfold iX at h1;rw [Sg] at h1;intro j hj;simpa using h1 j (by simpa using hj)
theorem QF {W0 W w':World} (h:Below W0.heap.size W0 W) (hb:Below W.heap.size W w'):Below W0.heap.size W0 w':=h.trans (hb.mono h.size)
section
variable {w:World} {rs:List TR} {P D br bp bt bK nK n k:Nat} {n1:Int} {nr:Nat} {Mr:KL→Option Value} {Er:List (KL × RR)} {ts:List Tp} {xo xu:List Al} {np:Nat} {Mp:K3→Option Value} {vo vu:Value} {out:List Fc} {f:Fc} {TF:Option Addr} {Te:Nat} {SN:Option Addr} {capE:Nat} {rows:List ER}
theorem QG (hn:n < rows.length) (b1:Bool) (G0:Ru) (hkl:rows[n].e.kids.length≤1000) (hk2l:2≤rows[n].e.kids.length) (hP:PrM w P D TF Te out bK nK) (hH:CX D (.slice SN rows.length capE) f bK w (rows[n].e.kids.getD 1 0) b1) (hR:NF P (.slice SN rows.length capE) f w k (rows[n].e.kids.getD 0 0) G0) (hex:eX w SN rows) (hre:rows.length≤1000) (hk:rows[n].e.kind=6) :
  Calls prog 67 #[.pointer (some ⟨P,0,none⟩),.slice SN rows.length capE,.int .i64 (n:Int),.agg #[.string f.a,.string f.b,.string f.r,.string f.c,.string f.d]] w fun e w'=>(∃ v,e=.returned v∧av w' (ic w.heap.size) (k + 1) v (if b1 then fun _=>false else G0))∧Below w.heap.size w w':=by
 obtain ⟨b,off,SL,⟨t0,t1,t2,t3,t4⟩,hbl,hok⟩:=eX.at0 hex hn;obtain ⟨W0,hW0⟩:∃ W0,W0=rT w f rows[n]:=⟨_,rfl⟩;have HB0:Hid (Below w.heap.size w W0):=by show Below _ _ _; rw [hW0]; exact dN _ _ _
 have Ul:Hid (EnB W0 w.heap.size f rows[n]):=by show EnB _ _ _ _; rw [hW0]; exact eT _ _ _
 have hk1:(rows[n].e.kind == 1)=false:=by rw [hk]; rfl
 have hk2:(rows[n].e.kind == 2)=false:=by rw [hk]; rfl
 have hk3:(rows[n].e.kind == 3)=false:=by rw [hk]; rfl
 have hk4:(rows[n].e.kind == 4)=false:=by rw [hk]; rfl
 have hk5:(rows[n].e.kind == 5)=false:=by rw [hk]; rfl
 have Va:b < w.heap.size + 1:=by omega
 have hn1:=bn n;have hn2:(n:Int) < (rows.length:Int):=by omega
 unfold rT at hW0;have h0k:0 < rows[n].e.kids.length:=by omega
 have YO:1 < rows[n].e.kids.length:=by omega
 obtain ⟨bJ,TW,Tz,z0,Wx⟩:=lF.at0 hok.2 h0k;have z1:w.cell? ⟨bJ,TW + 1,none⟩=some (.int .i64 rows[n].e.kids[1]):=by
  obtain ⟨b',off',UL,z1,-⟩:=lF.at0 hok.2 YO;rw [Tz] at UL; injection UL with e; injection e with e1 e2;rw [e1,e2]; exact z1
 obtain ⟨i0,hi0⟩:∃ i,i=rows[n].e.kids[0]:=⟨_,rfl⟩;obtain ⟨i1,hi1⟩:∃ i,i=rows[n].e.kids[1]:=⟨_,rfl⟩;have g0:rows[n].e.kids.getD 0 0=i0:=by rw [hi0,List.getD_eq_getElem?_getD,R8 h0k]; rfl
 have g1:rows[n].e.kids.getD 1 0=i1:=by rw [hi1,List.getD_eq_getElem?_getD,R8 YO]; rfl
 rw [g0] at hR;rw [g1] at hH;rw [← hi0,Nat.add_zero] at z0;rw [← hi1] at z1;obtain ⟨kl,hkl'⟩:∃ kl,kl=rows[n].e.kids.length:=⟨_,rfl⟩;obtain ⟨cK,hcK⟩:∃ c,c=rows[n].capK:=⟨_,rfl⟩;have hl0:(0:Int) < (kl:Int):=by omega
 have hl1:(1:Int) < (kl:Int):=by omega
 have h0k':0 < kl:=by omega
 have h1k':1 < kl:=by omega
 have HH:Hid (∀ w1,Below W0.heap.size W0 w1→Calls prog 100 #[.pointer (some ⟨D,0,none⟩),.slice SN rows.length capE,.int .i64 i1,.agg #[.string f.a,.string f.b,.string f.r,.string f.c,.string f.d],.map (some bK)] w1 fun e w'=>e=.returned (.bool b1)∧Below w1.heap.size w1 w'):=fun w1 hb=>hH w1 (HB0.out.trans (hb.mono HB0.out.size));have HR:Hid (∀ w1,Below W0.heap.size W0 w1→Calls prog 67 #[.pointer (some ⟨P,0,none⟩),.slice SN rows.length capE,.int .i64 i0,.agg #[.string f.a,.string f.b,.string f.r,.string f.c,.string f.d]] w1 fun e w'=>(∃ v,e=.returned v∧av w' (ic w.heap.size) (k + 1) v G0)∧Below w1.heap.size w1 w'):=fun w1 hb=>(hR w1 (HB0.out.trans (hb.mono HB0.out.size))).mono fun e w' ⟨⟨v,he,hr⟩,hb2⟩=>⟨⟨v,he,hr.old (Sb HB0.out.size hb.size) (by omega)⟩,hb2⟩;have HSA:Hid (∀ w':World,Below W0.heap.size W0 w'→Below W0.heap.size W0 w'∧w'.cell? ⟨P,0,none⟩=some (.pointer (some ⟨D,0,none⟩))∧w'.cell? ⟨P,2,none⟩=some (.map (some bK))∧w'.cell? ⟨w.heap.size + 1,4,none⟩=some (.slice (some ⟨bJ,TW,none⟩) kl cK)∧w'.cell? ⟨bJ,TW,none⟩=some (.int .i64 i0)∧w'.cell? ⟨bJ,TW + 1,none⟩=some (.int .i64 i1)∧w'.cell? ⟨w.heap.size,0,none⟩=some (.string f.a)∧w'.cell? ⟨w.heap.size,1,none⟩=some (.string f.b)∧w'.cell? ⟨w.heap.size,2,none⟩=some (.string f.r)∧w'.cell? ⟨w.heap.size,3,none⟩=some (.string f.c)∧w'.cell? ⟨w.heap.size,4,none⟩=some (.string f.d)):=fun w' h=>by
  have hl:=Ul.out.lt;have hs:=HB0.out.size;have hx:∀ o v,W0.cell? ⟨w.heap.size,o,none⟩=some v→w'.cell? ⟨w.heap.size,o,none⟩=some v:=fun o v hv=>aA h (by omega) hv;have hw:∀ g o v,g < w.heap.size→w.cell? ⟨g,o,none⟩=some v→w'.cell? ⟨g,o,none⟩=some v:=fun g o v hg hv=>aA h (by omega) (aA HB0.out hg hv);refine ⟨h,hw _ _ _ hP.lt hP.c0,hw _ _ _ hP.lt hP.c2,?_,hw _ _ _ Wx z0,hw _ _ _ Wx z1,hx _ _ Ul.out.f0,hx _ _ Ul.out.f1,hx _ _ Ul.out.f2,hx _ _ Ul.out.f3,hx _ _ Ul.out.f4⟩;refine aA h hl ?_;rw [Ul.out.x4,Tz,← hkl',← hcK]
 clear hH hR hex hk hok z0 z1 Tz h0k YO g0 g1 hi0 hi1 hP hkl' hcK;subst SL;go_enter func67,ntmps67;go_wp2_with fail;rw [← hW0];clear hW0 t0 t1 t2 t3 t4 hk1 hk2 hk3 hk4 hk5
 go_region_held3 (fun w'=>Below W0.heap.size W0 w'∧w'.cell? ⟨P,0,none⟩=some (.pointer (some ⟨D,0,none⟩))∧w'.cell? ⟨P,2,none⟩=some (.map (some bK))∧w'.cell? ⟨w.heap.size + 1,4,none⟩=some (.slice (some ⟨bJ,TW,none⟩) kl cK)∧w'.cell? ⟨bJ,TW,none⟩=some (.int .i64 i0)∧w'.cell? ⟨bJ,TW + 1,none⟩=some (.int .i64 i1)∧w'.cell? ⟨w.heap.size,0,none⟩=some (.string f.a)∧w'.cell? ⟨w.heap.size,1,none⟩=some (.string f.b)∧w'.cell? ⟨w.heap.size,2,none⟩=some (.string f.r)∧w'.cell? ⟨w.heap.size,3,none⟩=some (.string f.c)∧w'.cell? ⟨w.heap.size,4,none⟩=some (.string f.d))
  (first | assumption | exact HSA.out _ (QF (And.left (by assumption)) hbx) | exact HSA.out _ (R3 _ _).drew)
  (first | (go_at_call 100; refine (HH.out _ (And.left (by assumption))).mono ?_; rintro e w2 ⟨rfl,hbx⟩))
 rename_i hJ;have HB2:=ag hJ.1;clear hJ;cases b1 with
 | true =>
  have Wt:Hid (Below w.heap.size w w2):=HB0.out.trans (HB2.out.mono HB0.out.size);have HRU:Hid (av w2 (ic w.heap.size) (k + 1) (.iface 132 (.agg #[.bool false])) (if true=true then fun _=>false else G0)):=(ny (S:=ic w.heap.size) false (by rw [if_pos rfl])).up (by omega);go_wp2;go_ret;exact ⟨⟨_,rfl,HRU.out⟩,Wt.out⟩
 | false =>
  go_wp2_with fail
  go_region_held3 (fun w'=>Below W0.heap.size W0 w'∧w'.cell? ⟨P,0,none⟩=some (.pointer (some ⟨D,0,none⟩))∧w'.cell? ⟨P,2,none⟩=some (.map (some bK))∧w'.cell? ⟨w.heap.size + 1,4,none⟩=some (.slice (some ⟨bJ,TW,none⟩) kl cK)∧w'.cell? ⟨bJ,TW,none⟩=some (.int .i64 i0)∧w'.cell? ⟨bJ,TW + 1,none⟩=some (.int .i64 i1)∧w'.cell? ⟨w.heap.size,0,none⟩=some (.string f.a)∧w'.cell? ⟨w.heap.size,1,none⟩=some (.string f.b)∧w'.cell? ⟨w.heap.size,2,none⟩=some (.string f.r)∧w'.cell? ⟨w.heap.size,3,none⟩=some (.string f.c)∧w'.cell? ⟨w.heap.size,4,none⟩=some (.string f.d))
   (first | assumption | exact HSA.out _ (QF (And.left (by assumption)) hbx) | exact HSA.out _ HB2.out.drew)
   (first | (go_at_call 67; refine (HR.out _ (And.left (by assumption))).mono ?_; rintro e w3 ⟨⟨v,rfl,WA⟩,hbx⟩; have HRV:=ag WA; clear WA))
  rename_i hJ;have HB3:=ag hJ.1;clear hJ;have Wt:Hid (Below w.heap.size w w3):=HB0.out.trans (HB3.out.mono HB0.out.size);go_wp2;go_ret;exact ⟨⟨v,rfl,HRV.out⟩,Wt.out⟩
theorem BF {e:Ex} (h:az e=true) (hk:e.kind=4 ∨ e.kind=5):2≤e.kids.length:=by
 unfold az at h;rw [if_neg (by omega),if_neg (by omega),if_neg (by omega),if_pos hk] at h;simp only [R7,Sj] at h;exact h.1.1.1.1
theorem sw (hN:UM rows) (hnb:∀ e ∈ ah rows,az e=true) (hf:f.fits) (hts:∀ t ∈ ts,t.fits) (htl:ts.length≤40) (htr:∀ j,j < (ah rows).length→0≤ak (ah rows) j) :
  ∀ (k d n:Nat) (w:World),n < k→n < rows.length→(n:Int) - ak (ah rows) n + 1 < 2 * (d:Int)→PrM w P D TF Te out bK nK→DatA w rs D br bp bt n1 nr Mr Er (aW ts) xo xu np Mp vo vu→eX w SN rows →
  Calls prog 67 #[.pointer (some ⟨P,0,none⟩),.slice SN rows.length capE,.int .i64 (n:Int),.agg #[.string f.a,.string f.b,.string f.r,.string f.c,.string f.d]] w fun e w'=>(∃ v,e=.returned v∧av w' (ic w.heap.size) d v (gN ts (ah rows) out f k n))∧Below w.heap.size w w'
 | 0,_,_,_,h,_,_,_,_,_=>absurd h (SE _)
 | k + 1,d0,n,w,hk,hn,hsp,hP,hD,hex=>by
  obtain ⟨d,rfl⟩:∃ d,d0=d + 1:=⟨d0 - 1,by have:=fJ (ah rows) n; omega⟩;have hka:cZ (ah rows) n=rows[n].e.kids:=by simp [cZ,ah,hn]
  have e:(ah rows)[n]?=some rows[n].e:=by simp [ah,hn]
  have TB:2≤rows[n].e.kids.length→∀ i ∈ rows[n].e.kids,NF P (.slice SN rows.length capE) f w d i (gN ts (ah rows) out f k i.toNat):=fun h2k i hi w1 hb1=>by
   have h1:=hN.kid hn hi;have h2:=sw hN hnb hf hts htl htr k d i.toNat w1 (by omega) (by omega) (NI (htr n (by rw [aJ]; exact hn)) (by rw [hka]; exact h2k) hsp i (by rw [hka]; exact hi)) (hP.below hb1) (hD.below hb1) (hex.below hb1);have e2:((i.toNat:Nat):Int)=i:=by omega
   rw [e2] at h2;exact h2
  have hkidH:∀ i ∈ rows[n].e.kids,CX D (.slice SN rows.length capE) f bK w i (cO ts (ah rows) out f k out i.toNat):=fun i hi w1 hb1=>by
   have h1:=hN.kid hn hi;have h2:=lq (capE:=capE) hN hnb hf hts (by omega) k i.toNat w1 (by omega) (by omega) (hD.below hb1) (hP.set.below hb1) (hex.below hb1);have e2:((i.toNat:Nat):Int)=i:=by omega
   rw [e2] at h2;exact h2
  have hm:rows[n] ∈ rows:=RY hn;have hme:rows[n].e ∈ ah rows:=Sa.2 ⟨_,hm,rfl⟩;obtain ⟨hn2,Vi,hkd⟩:=yS (hnb _ hme);unfold gN;rw [e];dsimp only;by_cases k1:rows[n].e.kind=1
  ·rw [if_pos k1];exact Px hn hP hD hf hts htl hex hN.len k1
  rw [if_neg k1];by_cases k2:rows[n].e.kind=2
  ·rw [if_pos k2];exact QE hn hf (hn2 k2) hex hN.len k2
  rw [if_neg k2];by_cases k3:rows[n].e.kind=3
  ·rw [if_pos k3];exact Py hn hP hD hf hts htl (Vi k3) hex hN.len k3
  rw [if_neg k3];by_cases k4:rows[n].e.kind=4
  ·rw [if_pos k4];exact NH hn (fun i=>gN ts (ah rows) out f k i.toNat) (mW (hnb _ hme)).1 (TB (BF (hnb _ hme) (.inl k4))) hex hN.len k4
  rw [if_neg k4];by_cases k5:rows[n].e.kind=5
  ·rw [if_pos k5];exact Pz hn (fun i=>gN ts (ah rows) out f k i.toNat) (mW (hnb _ hme)).1 (TB (BF (hnb _ hme) (.inr k5))) hex hN.len k5
  rw [if_neg k5];have k6:rows[n].e.kind=6:=by omega
  rw [if_pos k6];have h2:=hN.two _ hme k6;have hg:∀ q,q < 2→rows[n].e.kids.getD q 0 ∈ rows[n].e.kids:=fun q hq=>by
   rw [List.getD_eq_getElem?_getD,R8 (by omega)];exact RY _
  exact QG hn _ _ (hN.kids _ hm) h2 hP (hkidH _ (hg 1 (by omega))) (TB h2 _ (hg 0 (by omega))) hex hN.len k6
end
end Go.Proofs.YtdaoiceeidoehaaGreat
