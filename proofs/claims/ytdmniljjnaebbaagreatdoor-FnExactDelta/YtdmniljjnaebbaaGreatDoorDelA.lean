/- What both sides answer to what a change brings and takes. -/
import Derived.Test.YtdmniljjnaebbaaGreatDoorSq
import Derived.Test.YtdmniljjnaebbaaGreatDoorJ30
import Derived.Test.YtdmniljjnaebbaaGreatDoorJ32
import Derived.Test.YtdmniljjnaebbaaGreatDoorJ33
open Go.Proofs.Tryz
set_option maxHeartbeats 80000000
namespace Go.Proofs.YtdmniljjnaebbaaGreatDoor
set_option maxRecDepth 100000
set_option linter.unusedVariables false
set_option linter.unusedSectionVars false
open Go.ChangeShapes Go.WideShapes Go.ChangeAt Go.RowKit Go.Maps
open Pl
theorem uX {rs:List TR} {ts:List Tp} {k:Int} {t:Tp} (hf:∀ x ∈ ts,x.fits) (ht:t.fits):∀ x ∈ tJ rs ts k t,x.fits:=fun x hx=>by
 unfold tJ oD at hx;split at hx
 ·unfold kJ at hx;split at hx
  ·unfold fo at hx;split at hx
   ·exact hf x ((uh ts t x).1 hx).1
   rcases (yx ts t x).1 hx with rfl | hx
   ·exact ht
   exact hf x hx
  exact hf x hx
 cases hx
section
variable [DecidableEq Fc]
theorem vZ {st:ByteArray × ByteArray→Int} {rs:List TR} {ts:List Tp} (hfr:∀ r ∈ rs,r.fits) (hft:∀ x ∈ ts,x.fits):∀ x ∈ bi st rs ts,x.fits:=fun x hx=>vX hfr hft x ((ik _).mem_iff.1 hx)
def ow (st:ByteArray × ByteArray→Int) (rs:List TR) (ts:List Tp) (k:Int) (t:Tp):List Fc:=if LA rs ts k t=0 then eX (bi st rs (tJ rs ts k t)) (bi st rs ts) else []
def oz (st:ByteArray × ByteArray→Int) (rs:List TR) (ts:List Tp) (k:Int) (t:Tp):List Fc:=if LA rs ts k t=0 then eX (bi st rs ts) (bi st rs (tJ rs ts k t)) else []
def F8 (w:World) (M L:List Fc) (c:Int) (e:Ending) (w':World):Prop:=∃ (v1 v2:Value) (m:Nat),e=.returned (.tuple #[v1,v2,.int .i64 c])∧w'.ownsRow w.heap.size 63 5 v1 M.length (av M)∧w'.ownsRow m 63 5 v2 L.length (av L)∧w.heap.size≤m∧(∀ g,v1.ownBlock=some g→g < m)∧aa w w'
theorem F9 (st:ByteArray × ByteArray→Int) (rs:List TR) (ts:List Tp) (k:Int) (t:Tp):(ow st rs ts k t).length≤115200∧(oz st rs ts k t).length≤115200:=by
 have h0:∀ us,(bi st rs us).length≤115200:=fun us=>by rw [kN]; exact jo st
 unfold ow oz;split
 ·exact ⟨Sq (tC _ _) (h0 _),Sq (tC _ _) (h0 _)⟩
 exact ⟨by simp,by simp⟩
theorem Av (st:ByteArray × ByteArray→Int) (ad:Option Addr) (cap:Nat) (rs:List TR) (b cap':Nat) (ts:List Tp) (k:Int) (t:Tp) (w:af) (hlen:rs.length≤1048576) (hs:iN w ad rs) (hl:∀ r ∈ rs,r.light) (hfr:∀ r ∈ rs,r.fits) (hlt:ts.length≤1048576) (hcp:ts.length≤cap') (hb:b < w.heap.size) (hr:dF w b 0 ts) (hf:∀ x ∈ ts,x.fits) (ht:t.fits) (hle:aF (ag rs)=true→Least (ag rs) st) :
  Calls prog 8 #[.slice ad rs.length cap,.slice (some ⟨b,0,none⟩) ts.length cap',.agg #[.int .i64 k,.string t.a,.string t.b,.string t.r,.string t.c,.string t.d,.string t.s]] w (F8 w (ow st rs ts k t) (oz st rs ts k t) (LA rs ts k t)):=by
 obtain ⟨W0,hW0⟩:∃ W0,W0=w.alloc (.cells #[.int .i64 k,.string t.a,.string t.b,.string t.r,.string t.c,.string t.d,.string t.s] 44):=⟨_,rfl⟩;have HB0:=mY hW0;have hx0:lN W0 w.heap.size k t:=by rw [hW0]; refine ⟨?_,?_,?_,?_,?_,?_,?_,?_⟩ <;> simp
 have hr0:dF W0 b 0 ts:=fun i hi=>(hr i hi).same fun o=>HB0.out.cell (p:=⟨b,o,none⟩) hb;have HTL:Hid (Sl w (some ⟨b,0,none⟩) ts):=.inr ⟨b,0,rfl,hb,hr⟩;have HA:=aj (FR ad cap rs b cap' ts k t W0 hlen (hs.below HB0.out) hl hfr hlt hcp (Sg hb HB0.out.size) hr0 hf ht);have VT:Hid (∀ W',aa w W'→Calls prog 30 #[.slice ad rs.length cap,.slice (some ⟨b,0,none⟩) ts.length cap'] W' fun e w'=>(∃ v,e=.returned v∧w'.ownsRow W'.heap.size 63 5 v (bi st rs ts).length (av (bi st rs ts)))∧aa W' w'):=fun W' hB=>qH st ad cap rs _ cap' ts W' hlen (hs.below hB) hl hfr hlt (HTL.out.below hB) hf hle;have Ug:Hid (∀ (W':World) (VY:Option Addr) (cap5:Nat),aa w W'→Sl W' VY (tJ rs ts k t)→Calls prog 30 #[.slice ad rs.length cap,.slice VY (tJ rs ts k t).length cap5] W' fun e w'=>(∃ v,e=.returned v∧w'.ownsRow W'.heap.size 63 5 v (bi st rs (tJ rs ts k t)).length (av (bi st rs (tJ rs ts k t))))∧aa W' w'):=fun W' VY cap5 hB h5=>qH st ad cap rs VY cap5 (tJ rs ts k t) W' hlen (hs.below hB) hl hfr (Sq (JA _ _ _ _) (by decide)) h5 (uX hf ht) hle;have hn0:(bi st rs ts).length≤115200:=by rw [kN]; exact jo st
 have hn1:(bi st rs (tJ rs ts k t)).length≤115200:=by rw [kN]; exact jo st
 obtain ⟨M,hM⟩:∃ M,ow st rs ts k t=M:=⟨_,rfl⟩;obtain ⟨L,hL⟩:∃ L,oz st rs ts k t=L:=⟨_,rfl⟩;rw [hM,hL];unfold ow at hM;unfold oz at hL;obtain ⟨q,hQ⟩:∃ q,LA rs ts k t=q:=⟨_,rfl⟩;obtain ⟨L0,hL0⟩:∃ L,bi st rs ts=L:=⟨_,rfl⟩;obtain ⟨L1,hL1⟩:∃ L,bi st rs (tJ rs ts k t)=L:=⟨_,rfl⟩;obtain ⟨N,hN⟩:∃ N,tJ rs ts k t=N:=⟨_,rfl⟩;rw [hL0] at VT hn0 hM hL;rw [hL1] at Ug hn1 hM hL;rw [hQ] at HA hM hL ⊢;have HM:=aj hM.symm;have HL:=aj hL.symm;rw [hN] at HA Ug;obtain ⟨x0,x1,x2,x3,x4,x5,x6,xl⟩:=hx0;clear hs hl hfr hr hf ht hle hQ hL0 hL1 hN hM hL hr0 HTL;go_enter func8,ntmps8;go_wp2_with fail;rw [← hW0];clear hW0;refine HA.out.mono ?_;rintro e w1 ⟨VY,cap5,rfl,hs5,hb1⟩;have HB1:=aj (HB0.out.trans (hb1.mono HB0.out.size));have HS5:=aj hs5;clear hs5 hb1 HA HB0 x0 x1 x2 x3 x4 x5 x6 xl;by_cases hq:q=0
 ·subst hq;obtain rfl:M=eX L1 L0:=by rw [HM.out,if_pos rfl]
  obtain rfl:L=eX L0 L1:=by rw [HL.out,if_pos rfl]
  clear HM HL;go_wp2_with fail;refine (VT.out _ HB1.out).mono ?_;rintro e w2 ⟨⟨vA,rfl,hoA⟩,hb2⟩;obtain ⟨adA,capA,rfl,hsA⟩:=iD hoA;have HB2:=aj (HB1.out.trans (hb2.mono HB1.out.size));have HS6:=aj (HS5.out.below hb2);have HSA:=aj hsA;clear hoA hsA hb2 HB1 HS5 VT;go_wp2_with fail;refine (Ug.out _ _ _ HB2.out HS6.out).mono ?_;rintro e w3 ⟨⟨vB,rfl,hoB⟩,hb3⟩;obtain ⟨adB,Y3,rfl,hsB⟩:=iD hoB;have HB3:=aj (HB2.out.trans (hb3.mono HB2.out.size));have WW:=aj (HSA.out.below hb3);have WX:=aj hsB;clear hoB hsB hb3 HB2 HS6 HSA Ug;go_wp2_with fail;refine (tF adB Y3 L1 adA capA L0 w3 hn1 hn0 WX.out WW.out).mono ?_;rintro e w4 ⟨⟨v1,rfl,ho1⟩,hb4⟩;have TA:=aj (HB3.out.trans (hb4.mono HB3.out.size));have Y4:=aj (WW.out.below hb4);have Y5:=aj (WX.out.below hb4);have TM:=aj (kD ho1 HB3.out.size);clear ho1 hb4 HB3 WW WX;go_wp2_with fail;refine (tF adA capA L0 adB Y3 L1 w4 hn0 hn1 Y4.out Y5.out).mono ?_;rintro e w5 ⟨⟨v2,rfl,ho2⟩,hb5⟩;have TI:=aj (TA.out.trans (hb5.mono TA.out.size));have HE:Hid (F8 w (eX L1 L0) (eX L0 L1) 0 (.returned (.tuple #[v1,v2,.int .i64 0])) w5):=⟨v1,v2,w4.heap.size,rfl,aB TM.out hb5,ho2,TA.out.size,fun g hg=>(TM.out.lt g hg).2,TI.out⟩;clear ho2 hb5 TA Y4 Y5 TM;go_wp2;exact bodyPost_ret (v:=.tuple #[v1,v2,.int .i64 0]) (by simp [results,Tryz.results8,go_sem]) rfl HE.out
 have hq2:(q != 0)=true:=by simpa using hq
 obtain rfl:M=[]:=by rw [HM.out,if_neg hq]
 obtain rfl:L=[]:=by rw [HL.out,if_neg hq]
 have HE:Hid (F8 w [] [] q (.returned (.tuple #[.slice none 0 0,.slice none 0 0,.int .i64 q])) w1):=by
  show F8 _ _ _ _ _ _;exact ⟨_,_,w.heap.size,rfl,World.ownsRow_nil _ _ _ _,World.ownsRow_nil _ _ _ _,Sj _,fun g hg=>by simp [Value.ownBlock] at hg,HB1.out⟩
 clear hq VT Ug HM HL;go_wp2;exact bodyPost_ret (v:=.tuple #[.slice none 0 0,.slice none 0 0,.int .i64 q]) (by simp [results,Tryz.results8,go_sem]) rfl HE.out
theorem qI (st:ByteArray × ByteArray→Int) (a:Nat→Addr) (ad:Option Addr) (cap:Nat) (rs:List TR) (b cap':Nat) (ts:List Tp) (k:Int) (t:Tp) (w:af) (hE:ErrsD w a) (hlen:rs.length≤1048576) (hs:iN w ad rs) (hl:∀ r ∈ rs,r.light) (hfr:∀ r ∈ rs,r.fits) (XK:∀ r ∈ rs,r.caps) (hlt:ts.length≤1048576) (hcp:ts.length≤cap') (hb:b < w.heap.size) (hr:dF w b 0 ts) (hf:∀ x ∈ ts,x.fits) (ht:t.fits) (hle:aF (ag rs)=true→Least (ag rs) st) :
  Calls prog 12 #[.slice ad rs.length cap,.slice (some ⟨b,0,none⟩) ts.length cap',.agg #[.int .i64 k,.string t.a,.string t.b,.string t.r,.string t.c,.string t.d,.string t.s]] w (F8 w (ow st rs ts k t) (oz st rs ts k t) (LA rs ts k t)):=by
 obtain ⟨W0,hW0⟩:∃ W0,W0=w.alloc (.cells #[.int .i64 k,.string t.a,.string t.b,.string t.r,.string t.c,.string t.d,.string t.s] 44):=⟨_,rfl⟩;have HB0:=mY hW0;have hx0:lN W0 w.heap.size k t:=by rw [hW0]; refine ⟨?_,?_,?_,?_,?_,?_,?_,?_⟩ <;> simp
 have hr0:dF W0 b 0 ts:=fun i hi=>(hr i hi).same fun o=>HB0.out.cell (p:=⟨b,o,none⟩) hb;have HTL:Hid (Sl w (some ⟨b,0,none⟩) ts):=.inr ⟨b,0,rfl,hb,hr⟩;have HA:=aj (FT a ad cap rs b cap' ts k t W0 (hE.below HB0.out) hlen (hs.below HB0.out) hl hfr XK hlt hcp (Sg hb HB0.out.size) hr0 hf ht);have VT:Hid (∀ W',aa w W'→Calls prog 35 #[.slice ad rs.length cap,.slice (some ⟨b,0,none⟩) ts.length cap'] W' fun e w'=>(∃ v,e=.returned v∧w'.ownsRow W'.heap.size 63 5 v (bi st rs ts).length (av (bi st rs ts)))∧aa W' w'):=fun W' hB=>(qE st ad cap rs _ cap' ts W' hlen (hs.below hB) hl hfr XK hlt (HTL.out.below hB) hf hle).mono fun e w' h=>qG h;have Ug:Hid (∀ (W':World) (VY:Option Addr) (cap5:Nat),aa w W'→Sl W' VY (tJ rs ts k t)→Calls prog 35 #[.slice ad rs.length cap,.slice VY (tJ rs ts k t).length cap5] W' fun e w'=>(∃ v,e=.returned v∧w'.ownsRow W'.heap.size 63 5 v (bi st rs (tJ rs ts k t)).length (av (bi st rs (tJ rs ts k t))))∧aa W' w'):=fun W' VY cap5 hB h5=>(qE st ad cap rs VY cap5 (tJ rs ts k t) W' hlen (hs.below hB) hl hfr XK (Sq (JA _ _ _ _) (by decide)) h5 (uX hf ht) hle).mono fun e w' h=>qG h;have hn0:(bi st rs ts).length≤115200:=by rw [kN]; exact jo st
 have hn1:(bi st rs (tJ rs ts k t)).length≤115200:=by rw [kN]; exact jo st
 have HX0:=aj (vZ (st:=st) hfr hf);have UA:=aj (vZ (st:=st) hfr (uX (rs:=rs) (k:=k) hf ht));obtain ⟨M,hM⟩:∃ M,ow st rs ts k t=M:=⟨_,rfl⟩;obtain ⟨L,hL⟩:∃ L,oz st rs ts k t=L:=⟨_,rfl⟩;rw [hM,hL];unfold ow at hM;unfold oz at hL;obtain ⟨q,hQ⟩:∃ q,LA rs ts k t=q:=⟨_,rfl⟩;obtain ⟨L0,hL0⟩:∃ L,bi st rs ts=L:=⟨_,rfl⟩;obtain ⟨L1,hL1⟩:∃ L,bi st rs (tJ rs ts k t)=L:=⟨_,rfl⟩;obtain ⟨N,hN⟩:∃ N,tJ rs ts k t=N:=⟨_,rfl⟩;rw [hL0] at VT hn0 HX0 hM hL;rw [hL1] at Ug hn1 UA hM hL;rw [hQ] at HA hM hL ⊢;have HM:=aj hM.symm;have HL:=aj hL.symm;rw [hN] at HA Ug;obtain ⟨x0,x1,x2,x3,x4,x5,x6,xl⟩:=hx0;clear hs hl hfr hr hf ht hle hQ hL0 hL1 hN hM hL hr0 HTL hE XK;go_enter func12,ntmps12;go_wp2_with fail;rw [← hW0];clear hW0;refine HA.out.mono ?_;rintro e w1 ⟨VY,cap5,rfl,hs5,hb1⟩;have HB1:=aj (HB0.out.trans (hb1.mono HB0.out.size));have HS5:=aj hs5.1;clear hs5 hb1 HA HB0 x0 x1 x2 x3 x4 x5 x6 xl;by_cases hq:q=0
 ·subst hq;obtain rfl:M=eX L1 L0:=by rw [HM.out,if_pos rfl]
  obtain rfl:L=eX L0 L1:=by rw [HL.out,if_pos rfl]
  clear HM HL;go_wp2_with fail;refine (VT.out _ HB1.out).mono ?_;rintro e w2 ⟨⟨vA,rfl,hoA⟩,hb2⟩;obtain ⟨adA,capA,rfl,hsA⟩:=iD hoA;have HB2:=aj (HB1.out.trans (hb2.mono HB1.out.size));have HS6:=aj (HS5.out.below hb2);have HSA:=aj hsA;clear hoA hsA hb2 HB1 HS5 VT;go_wp2_with fail;refine (Ug.out _ _ _ HB2.out HS6.out).mono ?_;rintro e w3 ⟨⟨vB,rfl,hoB⟩,hb3⟩;obtain ⟨adB,Y3,rfl,hsB⟩:=iD hoB;have HB3:=aj (HB2.out.trans (hb3.mono HB2.out.size));have WW:=aj (HSA.out.below hb3);have WX:=aj hsB;clear hoB hsB hb3 HB2 HS6 HSA Ug;go_wp2_with fail;refine (vY adB Y3 L1 adA capA L0 w3 hn1 hn0 WX.out WW.out UA.out HX0.out).mono ?_;rintro e w4 ⟨⟨v1,rfl,ho1⟩,hb4⟩;have TA:=aj (HB3.out.trans (hb4.mono HB3.out.size));have Y4:=aj (WW.out.below hb4);have Y5:=aj (WX.out.below hb4);have TM:=aj (kD ho1 HB3.out.size);clear ho1 hb4 HB3 WW WX;go_wp2_with fail;refine (vY adA capA L0 adB Y3 L1 w4 hn0 hn1 Y4.out Y5.out HX0.out UA.out).mono ?_;rintro e w5 ⟨⟨v2,rfl,ho2⟩,hb5⟩;have TI:=aj (TA.out.trans (hb5.mono TA.out.size));have HE:Hid (F8 w (eX L1 L0) (eX L0 L1) 0 (.returned (.tuple #[v1,v2,.int .i64 0])) w5):=⟨v1,v2,w4.heap.size,rfl,aB TM.out hb5,ho2,TA.out.size,fun g hg=>(TM.out.lt g hg).2,TI.out⟩;clear ho2 hb5 TA Y4 Y5 TM;go_wp2;exact bodyPost_ret (v:=.tuple #[v1,v2,.int .i64 0]) (by simp [results,Tryz.results12,go_sem]) rfl HE.out
 have hq2:(q != 0)=true:=by simpa using hq
 obtain rfl:M=[]:=by rw [HM.out,if_neg hq]
 obtain rfl:L=[]:=by rw [HL.out,if_neg hq]
 have HE:Hid (F8 w [] [] q (.returned (.tuple #[.slice none 0 0,.slice none 0 0,.int .i64 q])) w1):=by
  show F8 _ _ _ _ _ _;exact ⟨_,_,w.heap.size,rfl,World.ownsRow_nil _ _ _ _,World.ownsRow_nil _ _ _ _,Sj _,fun g hg=>by simp [Value.ownBlock] at hg,HB1.out⟩
 clear hq VT Ug HM HL;go_wp2;exact bodyPost_ret (v:=.tuple #[.slice none 0 0,.slice none 0 0,.int .i64 q]) (by simp [results,Tryz.results12,go_sem]) rfl HE.out
end
end Go.Proofs.YtdmniljjnaebbaaGreatDoor
