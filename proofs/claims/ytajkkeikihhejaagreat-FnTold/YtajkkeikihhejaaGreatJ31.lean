/- Contract of the document's function that tells whether a tuple fits a schema. -/
import Derived.Test.YtajkkeikihhejaaGreatSq
import Derived.Test.YtajkkeikihhejaaGreatJ30
import Derived.Test.YtajkkeikihhejaaGreatJ27
import Derived.Test.YtajkkeikihhejaaGreatJ28
open Go.Proofs.Tryz
set_option maxHeartbeats 80000000
namespace Go.Proofs.YtajkkeikihhejaaGreat
open Go.ChangeShapes Go.WideShapes Go.ChangeAt Go.RowKit Go.Maps
open Pl
set_option maxRecDepth 100000 in
theorem EU (ad:Option Addr) (cap:Nat) (rs:List TR) (oa ob r c d s:bH) (w:af) (hlen:rs.length≤1048576) (hs:kW w ad rs) (hl:∀ r ∈ rs,r.light) (hf:∀ r ∈ rs,r.fits) (ha:oa.size≤maxLen) (hb:ob.size≤maxLen) (hr:r.size≤maxLen) (hc:c.size≤maxLen) (hd:d.size≤maxLen) (hz:s.size≤maxLen) :
  Calls prog 87 #[.slice ad rs.length cap,.agg #[.string oa,.string ob,.string r,.string c,.string d,.string s]] w fun e w'=>e=.returned (.bool (DC (ae rs) oa ob r c d s))∧ag w w':=by
 have HS:=az hs;have HL:=az hl;have UL:=az hf;clear hs hl hf;obtain ⟨W0,hW0⟩:∃ W0,W0=w.alloc (.cells #[.string oa,.string ob,.string r,.string c,.string d,.string s] 46):=⟨_,rfl⟩;have hal:ag w W0:=by rw [hW0]; exact (TT _ _).alloc (TS _) _
 have HB0:=az hal;have hw0:w.heap.size < W0.heap.size:=by rw [hW0]; simp
 have c0:W0.cell? ⟨w.heap.size,0,none⟩=some (.string oa):=by rw [hW0]; simp
 have c1:W0.cell? ⟨w.heap.size,1,none⟩=some (.string ob):=by rw [hW0]; simp
 have c2:W0.cell? ⟨w.heap.size,2,none⟩=some (.string r):=by rw [hW0]; simp
 have c3:W0.cell? ⟨w.heap.size,3,none⟩=some (.string c):=by rw [hW0]; simp
 have c4:W0.cell? ⟨w.heap.size,4,none⟩=some (.string d):=by rw [hW0]; simp
 have c5:W0.cell? ⟨w.heap.size,5,none⟩=some (.string s):=by rw [hW0]; simp
 clear hal;go_enter func87,ntmps87;go_wp2_with fail;rw [← hW0];clear hW0;refine (jV ad cap rs _ hlen (HS.out.below HB0.out) HL.out UL.out).mono ?_;rintro e w1 ⟨rfl,hb1⟩;have HB1:=jP HB0 hb1;have hw1:w.heap.size < w1.heap.size:=TP hw0 hb1.size;replace c0:=aG hb1 hw0 c0;replace c1:=aG hb1 hw0 c1;replace c2:=aG hb1 hw0 c2;replace c3:=aG hb1 hw0 c3;replace c4:=aG hb1 hw0 c4;replace c5:=aG hb1 hw0 c5;clear hb1 hw0;cases hd5:aJ (ae rs);case false=>
  have HN:Hid (DC (ae rs) oa ob r c d s=false):=by show _=_; unfold DC; rw [hd5]; rfl
  go_wp2;go_ret;exact ⟨by rw [HN.out]; rfl,HB1.out⟩
 have HN:Hid (DC (ae rs) oa ob r c d s=sF (ae rs) oa ob r c d s):=by show _=_; unfold DC; rw [hd5]; rfl
 go_wp2_with fail;refine (Bj ad cap rs oa ob r c d s _ hlen (HS.out.below HB1.out) HL.out ha hb hr hc hd hz).mono ?_;rintro e w2 ⟨rfl,hb2⟩;have HB2:=jP HB1 hb2;clear hb2;go_wp2;go_ret;exact ⟨by rw [HN.out]; rfl,HB2.out⟩
set_option linter.unusedVariables false
set_option maxRecDepth 100000
theorem iM.only {wc wd:af} {R base:Nat} {v:Value} {rs:List TR} (h:iM wc base v rs) (hR:R < base) (ho:Only R wc wd):iM wd base v rs :=
 h.heap mI ho.size fun g hg=>ho.block g (h.lt mI hg).2 (fun e=>by injection e with e; have:=(h.lt mI hg).1; omega)
theorem iM.slT {w:af} {R base cap:Nat} {Vw:Option Addr} {rs:List TR} (h:iM w base (.slice Vw rs.length cap) rs) (hR:R < base):∀ W,Only R w W→kW W Vw rs:=fun W hO=>by
 obtain ⟨UJ,cap',e,hs,-⟩:=(h.only hR hO).read;injection e with e1 e2 e3;subst e1;exact hs
def PS (w:World) (n:Nat) (a b r c d s:ByteArray):Prop:=w.cell? ⟨n,0,none⟩=some (.string a)∧w.cell? ⟨n,1,none⟩=some (.string b)∧w.cell? ⟨n,2,none⟩=some (.string r)∧w.cell? ⟨n,3,none⟩=some (.string c)∧w.cell? ⟨n,4,none⟩=some (.string d)∧w.cell? ⟨n,5,none⟩=some (.string s)
theorem PS.same {w w':af} {n:Nat} {a b r c d s:ByteArray} (h:PS w n a b r c d s) (hk:∀ o,w'.cell? ⟨n,o,none⟩=w.cell? ⟨n,o,none⟩):PS w' n a b r c d s :=
 ⟨(hk _).trans h.1,(hk _).trans h.2.1,(hk _).trans h.2.2.1,(hk _).trans h.2.2.2.1,(hk _).trans h.2.2.2.2.1,(hk _).trans h.2.2.2.2.2⟩
theorem EW {w w':af} {base g c n:Nat} {xs:List Value} (h:w.ownsRow base 46 6 (.slice (some ⟨g,0,none⟩) n c) n xs) (hb:ag w w'):w'.ownsRow base 46 6 (.slice (some ⟨g,0,none⟩) n c) n xs :=
 h.kept (row:=none) ⟨hb.os,hb.tape,hb.output,hb.size,fun i hi _=>hb.block i hi⟩ (.inr (by simp [Value.ownBlock]))
theorem JV (R:Nat) (ad:Option Addr) (len cap:Nat) (n:Nat) (w:af) (h:Rd w R ad len cap) (h1:1≤n) (h2:n≤200000) :
  Calls prog 49 #[.pointer (some ⟨R,0,none⟩),.int .i64 (n:Int)] w fun e w'=>(∃ x:Nat,e=.returned (.int .i64 (x:Int))∧x < n)∧Rd w' R ad len cap∧Only R w w':=by
 by_cases hn:n≤256
 ·exact fT R ad len cap n w h h1 hn
 have H:=az h;clear h;have hne:((n:Int) == 0)=false:=by simp; omega
 have hn1:¬ (n:Int)≤1:=by omega
 have hn2:¬ (n:Int)≤256:=by omega
 go_enter func49,ntmps49;go_wp2_with fail;refine (uF R ad len cap _ H.out).mono ?_;rintro e w1 ⟨⟨x,rfl,hx0,hx1⟩,U4,UW⟩;have HR:=az U4;have HO:=az UW;have hw1:IntKind.i64.wrap (x * 256)=x * 256:=by rw [IntKind.wrap_i64]; omega
 clear U4 UW;go_wp2_with fail;refine (uF R ad len cap _ HR.out).mono ?_;rintro e w2 ⟨⟨y,rfl,hy0,hy1⟩,hR2,hO2⟩;have HR2:=az hR2;have UB:Hid (Only R w w2):=HO.out.trans hO2;have hw2:IntKind.i64.wrap (x * 256 + y)=x * 256 + y:=by rw [IntKind.wrap_i64]; omega
 obtain ⟨z,hz⟩:∃ z:Nat,(x * 256 + y)=(z:Int):=⟨(x * 256 + y).toNat,by omega⟩;have HZ:Hid ((x * 256 + y) % (n:Int)=((z % n:Nat):Int)):=by show _=_; rw [hz]; exact (Int.natCast_emod z n).symm
 clear hR2 hO2 hz;go_wp2;go_ret;exact ⟨⟨z % n,by rw [← HZ.out]; rfl,Nat.mod_lt _ (by omega)⟩,HR2.out,UB.out⟩
theorem BN (R:Nat) (ad:Option Addr) (len cap:Nat) (Vw:Option Addr) (Vs base:Nat) (rs:List TR) (w:af) (h:Rd w R ad len cap) (hRb:R < base) (hT:iM w base (.slice Vw rs.length Vs) rs) (hG:GoodS rs) :
  Calls prog 46 #[.pointer (some ⟨R,0,none⟩),.slice Vw rs.length Vs,.int .i64 12] w fun e w'=>(∃ (g c:Nat) (ts:List Tp),e=.returned (.slice (some ⟨g,0,none⟩) ts.length c)∧ts.length≤12∧qU ts∧w'.ownsRow w.heap.size 46 6 (.slice (some ⟨g,0,none⟩) ts.length c) ts.length (bG ts))∧Rd w' R ad len cap∧Only R w w':=by
 have Xm:=h.lt;have HS:Hid (∀ W,Only R w W→kW W Vw rs):=hT.slT hRb;obtain ⟨hG1,hG2,hG3⟩:=hG;have hlen:rs.length≤1048576:=by omega
 have HL:=fE hG2;have HF:=fE hG3;clear hG2 hG3 hT;obtain ⟨W0,hW0⟩:∃ W0,W0=w.alloc (.cells #[] 46):=⟨_,rfl⟩;have Vg:Hid (W0.ownsRow w.heap.size 46 6 (.slice (some ⟨w.heap.size,0,none⟩) 0 0) 0 (bG [])):=by
  show World.ownsRow _ _ _ _ _ _ _;rw [hW0]; exact World.ownsRow_lit w #[] 0 (TS _) (by unfold maxLen; omega) (by simp)
 have Vy:Hid (Rd W0 R ad len cap):=by show Rd _ _ _ _ _; rw [hW0]; exact h.alloc _
 have VX:Hid (Only R w W0):=by show Only _ _ _; rw [hW0]; exact (Only.refl _ _).alloc _
 clear h;go_enter func46,ntmps46;go_wp2_with fail;rw [← hW0];clear hW0;refine (bW R ad len cap 13 _ Vy.out (by omega) (by omega)).mono ?_;rintro e w1 ⟨⟨x,rfl,hx0,hx1⟩,U4,UW⟩;have HR1:=fE U4;have UV:Hid (Only R w w1):=VX.out.trans UW;have HL1:Hid (w1.ownsRow w.heap.size 46 6 (.slice (some ⟨w.heap.size,0,none⟩) 0 0) 0 (bG [])):=oF Vg.out Xm UW;clear U4 UW Vg Vy VX;go_wp2_with fail;go_loopw [7,8] (fun v i wr=>∃ (k:Nat) (ts:List Tp) (g c:Nat),i=.int .i64 k∧ts.length + k≤12∧v=.slice (some ⟨g,0,none⟩) ts.length c∧Hid (qU ts)∧Hid (wr.ownsRow w.heap.size 46 6 v ts.length (bG ts))∧Hid (Rd wr R ad len cap)∧Hid (Only R w wr)) (fun _ i _=>(intOf i).toNat);case atStart=>exact ⟨x.toNat,[],w.heap.size,0,by rw [Int.toNat_of_nonneg hx0],by simp; omega,rfl,MF,HL1,HR1,UV⟩
 clear HL1 HR1 UV hx0 hx1;obtain ⟨k,ts,g,c,rfl,hk,rfl,HSh,Z0,HR,HO⟩:=hrel;by_cases hk0:0 < k
 ·have hk1:(0:Int) < (k:Int):=by omega
  go_wp2_with fail;refine (Ld R ad len cap _ HR.out).mono ?_;rintro e w2 ⟨⟨a,b,r,c2,d,s,rfl,ha,hb,hr,hc,hd,hs⟩,hR2,hO2⟩;have HT:Hid (Tp.short ⟨a,b,r,c2,d,s⟩):=⟨ha,hb,hr,hc,hd,hs⟩;obtain ⟨f1,f2,f3,f4,f5,f6⟩:=HT.out.fits;obtain ⟨W2,hW2⟩:∃ W2,W2=w2.alloc (.cells #[.string a,.string b,.string r,.string c2,.string d,.string s] 46):=⟨_,rfl⟩;have HR2:Hid (Rd W2 R ad len cap):=by show Rd _ _ _ _ _; rw [hW2]; exact hR2.alloc _
  have UB:Hid (Only R w W2):=by show Only _ _ _; rw [hW2]; exact (HO.out.trans hO2).alloc _
  have HOw2:Hid (W2.ownsRow w.heap.size 46 6 (.slice (some ⟨g,0,none⟩) ts.length c) ts.length (bG ts)):=by show World.ownsRow _ _ _ _ _ _ _; rw [hW2]; exact (oF Z0.out Xm hO2).alloc _
  have hz2:w2.heap.size < W2.heap.size:=by rw [hW2]; simp
  have hnR:w2.heap.size ≠ R:=by have:=hR2.lt; omega
  have HC:Hid (PS W2 w2.heap.size a b r c2 d s):=by
   show PS _ _ _ _ _ _ _ _;rw [hW2]; refine ⟨?_,?_,?_,?_,?_,?_⟩ <;> simp
  clear ha hb hr hc hd hs hR2 hO2 HR HO Z0;go_wp2_with fail;rw [← hW2];clear hW2;refine (EU Vw Vs rs _ _ _ _ _ _ _ hlen (HS.out _ UB.out) HL.out HF.out f1 f2 f3 f4 f5 f6).mono ?_;rintro e w3 ⟨rfl,hb3⟩;have HR3:=az (HR2.out.below hb3);have UX:=az (UB.out.below hb3);have XO:=fE (EW HOw2.out hb3);have Xu:=fE (HC.out.same fun o=>hb3.cell (p:=⟨_,o,none⟩) hz2);have hz3:=TP hz2 hb3.size;clear hb3 HR2 UB HOw2 HC hz2;cases hq:DC (ae rs) a b r c2 d s;case true=>
   obtain ⟨c0,c1,c2',c3,c4,c5⟩:=Xu.out;clear hq;have HA:=fE (sw g 0 c ts ⟨a,b,r,c2,d,s⟩ w3 (by omega) (nk XO.out rfl).2.2.1 (nk XO.out rfl).1 (nk XO.out rfl).2.1 HSh.out.fits HT.out.fits);go_wp2_with fail;refine HA.out.mono ?_;rintro e w5 ⟨v5,rfl,hown5,hb5⟩;have UT:=az (HR3.out.below hb5);have UK:=az (UX.out.below hb5);clear c0 c1 c2' c3 c4 c5;cases hz:rV ts ⟨a,b,r,c2,d,s⟩;case true=>
    rw [Bd hz,rP] at hown5;obtain ⟨g3,c3,rfl⟩:=sD hown5;have Yi:Hid (w5.ownsRow w.heap.size 46 6 (.slice (some ⟨g3,0,none⟩) (ts.length + 1) c3) (ts.length + 1) (bG (jL ts ⟨a,b,r,c2,d,s⟩))):=fB hown5 UX.out.size;have HSh5:Hid (qU (jL ts ⟨a,b,r,c2,d,s⟩)):=HSh.out.put HT.out;have XT:=fE (rP ts ⟨a,b,r,c2,d,s⟩);have HQ:=fE hz;clear hown5 hb5 hz HA XO HR3 UX;go_wp2;go_roundw;case rel=>exact ⟨k - 1,jL ts ⟨a,b,r,c2,d,s⟩,g3,c3,by rw [show ((k - 1:Nat):Int)=(k:Int) - 1 by omega],by rw [XT.out]; omega,by rw [XT.out],HSh5,by rw [XT.out]; exact Yi,UT,UK⟩
    simp [intOf]; omega
   have Yi:=fE (EW XO.out hb5);rw [rO hz] at hown5;obtain ⟨ad5,cap5,hv5,-,-⟩:=Og (ts:=[]) hown5 rfl;subst hv5;have HQ:=fE hz;clear hown5 hb5 hz HA XO HR3 UX;go_wp2;go_roundw;case rel=>exact ⟨k - 1,ts,g,c,by rw [show ((k - 1:Nat):Int)=(k:Int) - 1 by omega],by omega,rfl,HSh,Yi,UT,UK⟩
   simp [intOf]; omega
  clear hq;go_wp2_with fail;refine (iU R ad len cap 60 _ HR3.out (by omega) (by omega)).mono ?_;rintro e w4 ⟨⟨q,rfl⟩,Xn,hO4⟩;have HR4:=fE Xn;have UR:Hid (Only R w w4):=UX.out.trans hO4;have Yj:=fE (oF XO.out Xm hO4);have HC4:=fE (Xu.out.same fun o=>hO4.cell (b:=w2.heap.size) (o:=o) hz3 hnR);clear Xn hO4 HR3 UX XO Xu;cases q;case true=>
   obtain ⟨c0,c1,c2',c3,c4,c5⟩:=HC4.out;have HA:=fE (sw g 0 c ts ⟨a,b,r,c2,d,s⟩ w4 (by omega) (nk Yj.out rfl).2.2.1 (nk Yj.out rfl).1 (nk Yj.out rfl).2.1 HSh.out.fits HT.out.fits);go_wp2_with fail;refine HA.out.mono ?_;rintro e w5 ⟨v5,rfl,hown5,hb5⟩;have UT:=az (HR4.out.below hb5);have UK:=az (UR.out.below hb5);clear c0 c1 c2' c3 c4 c5;cases hz:rV ts ⟨a,b,r,c2,d,s⟩;case true=>
    rw [Bd hz,rP] at hown5;obtain ⟨g3,c3,rfl⟩:=sD hown5;have Yi:Hid (w5.ownsRow w.heap.size 46 6 (.slice (some ⟨g3,0,none⟩) (ts.length + 1) c3) (ts.length + 1) (bG (jL ts ⟨a,b,r,c2,d,s⟩))):=fB hown5 UR.out.size;have HSh5:Hid (qU (jL ts ⟨a,b,r,c2,d,s⟩)):=HSh.out.put HT.out;have XT:=fE (rP ts ⟨a,b,r,c2,d,s⟩);have HQ:=fE hz;clear hown5 hb5 hz HA Yj HR4 UR;go_wp2;go_roundw;case rel=>exact ⟨k - 1,jL ts ⟨a,b,r,c2,d,s⟩,g3,c3,by rw [show ((k - 1:Nat):Int)=(k:Int) - 1 by omega],by rw [XT.out]; omega,by rw [XT.out],HSh5,by rw [XT.out]; exact Yi,UT,UK⟩
    simp [intOf]; omega
   have Yi:=fE (EW Yj.out hb5);rw [rO hz] at hown5;obtain ⟨ad5,cap5,hv5,-,-⟩:=Og (ts:=[]) hown5 rfl;subst hv5;have HQ:=fE hz;clear hown5 hb5 hz HA Yj HR4 UR;go_wp2;go_roundw;case rel=>exact ⟨k - 1,ts,g,c,by rw [show ((k - 1:Nat):Int)=(k:Int) - 1 by omega],by omega,rfl,HSh,Yi,UT,UK⟩
   simp [intOf]; omega
  go_wp2;go_roundw;case rel=>exact ⟨k - 1,ts,g,c,by rw [show ((k - 1:Nat):Int)=(k:Int) - 1 by omega],by omega,rfl,HSh,Yj,HR4,UR⟩
  simp [intOf]; omega
 obtain rfl:k=0:=by omega
 go_wp2;go_ret;exact ⟨⟨g,c,ts,rfl,by omega,HSh.out,Z0.out⟩,HR.out,HO.out⟩
theorem wZ (ad:Option Addr) (cap:Nat) (rs:List TR) (w:af) (hlen:rs.length≤1048576) (hs:kW w ad rs) (hl:∀ r ∈ rs,r.light) (hf:∀ r ∈ rs,r.fits) (hcp:∀ r ∈ rs,r.caps) :
  Calls prog 52 #[.slice ad rs.length cap] w fun e w'=>e=.returned (.bool (aJ (ae rs)))∧ag w w':=by
 have HC:=vQ ad cap rs w hlen hs hl hf hcp;clear hs hl hf hcp;go_enter func52,ntmps52;go_wp2_with fail;refine HC.mono ?_;rintro e w6 ⟨hL,hb6⟩;rcases hL with ⟨bS,nS,σ,rfl,hS,-⟩ | ⟨rfl,hno⟩
 ·have HY:=xE hS;have HY2:Hid (aJ (ae rs)=true):=HY;clear HY hS HC;go_wp2;go_ret;exact ⟨ah HY2.out.symm,hb6⟩
 have HY2:Hid (aJ (ae rs)=false):=dM hno;clear hno HC;go_wp2;go_ret;exact ⟨ah HY2.out.symm,hb6⟩
def rX (ts:List Ty) (typ rel:ByteArray):List Ex:=if aJ ts then aA ts typ rel else []
set_option maxRecDepth 100000 in
theorem BO (ad:Option Addr) (cap:Nat) (rs:List TR) (typ rel:bH) (w:af) (hlen:rs.length≤1048576) (hs:kW w ad rs) (hl:∀ r ∈ rs,r.light) (hf:∀ r ∈ rs,r.fits) (hcp:∀ r ∈ rs,r.caps) (ht:typ.size≤maxLen) (hr:rel.size≤maxLen) :
  Calls prog 12 #[.slice ad rs.length cap,.string typ,.string rel] w fun e w'=>∃ (UJ:Option Addr) (cap':Nat) (qs:List ER),e=.returned (.tuple #[.slice UJ qs.length cap',.bool (!(rX (ae rs) typ rel).isEmpty)])∧aj qs=rX (ae rs) typ rel∧iH w' UJ qs∧(qs ≠ []→∃ b,UJ=some ⟨b,0,none⟩∧w.heap.size≤b∧b < w'.heap.size∧qx b w' qs∧gY w' b)∧ag w w':=by
 obtain ⟨kl,hkl⟩:=jB (typ,rel) ht hr;have Vm:Hid (keyOf prog 94 (dQ (typ,rel))=some kl):=hkl;have HS:=az hs;have HL:=az hl;have UL:=az hf;have HCP:=az hcp;clear hs hl hf hcp hkl;go_enter func12,ntmps12;go_wp2_with fail;refine (wZ ad cap rs _ hlen HS.out HL.out UL.out HCP.out).mono ?_;rintro e w1 ⟨rfl,hb1⟩;have HB1:=az hb1;clear hb1;cases hd:aJ (ae rs);case false=>
  have HN:Hid (rX (ae rs) typ rel=[]):=by show _=_; unfold rX; rw [hd]; rfl
  go_wp2;refine bodyPost_ret (v:=.tuple #[.slice none 0 0,.bool false]) ?_ rfl ⟨none,0,[],by rw [HN.out]; rfl,by rw [HN.out]; rfl,.inl rfl,fun h=>absurd rfl h,HB1.out⟩;simp [results,Tryz.results12,go_sem]
 have HN:Hid (rX (ae rs) typ rel=aA (ae rs) typ rel):=by show _=_; unfold rX; rw [hd]; rfl
 have hSP:=aY.1 hd;obtain ⟨h6,Wd,hex⟩:=bq hSP.1;have V5:Hid (∀ r ∈ rs,r.rows.length≤6):=Wd;have Zx:Hid (∀ r ∈ rs,∀ q ∈ r.rows,aK (aj q.rows)=true∧q.rows.length≤15∧∀ e ∈ q.rows,dV q.rows.length e.e.kids):=hex;have HTAB:Hid (Tab rs (nX rs)):=wG hSP.1;clear hd hSP Wd hex;go_wp2_with fail;refine (qG ad cap rs _ h6 (HS.out.below HB1.out) V5.out UL.out).mono ?_;rintro e w2 ⟨rfl,hmv,hb2⟩;have HB2:=jP HB1 hb2;have HMV:=az hmv;clear hmv hb2;cases hm:nX rs (typ,rel) with
 | none =>
  have VY:Hid (rX (ae rs) typ rel=[]):=by
   show _=_;rw [HN.out]; unfold aA; rw [HTAB.out.no _ hm]; rfl
  go_wp2_with (at_lookup; refine bZ _ rfl _ _ 91 rfl 94 33 ic underlying91 (lu _) w1.heap.size 36 (nX rs) rfl HMV.out (typ,rel) kl rfl Vm.out ?_; simp only [hm,Option.getD_none,Option.isSome_none]);refine bodyPost_ret (v:=.tuple #[.slice none 0 0,.bool false]) ?_ rfl ⟨none,0,[],by rw [VY.out]; rfl,by rw [VY.out]; rfl,.inl rfl,fun h=>absurd rfl h,HB2.out⟩;simp [results,Tryz.results12,go_sem]
 | some v =>
  obtain ⟨t,ZL,q,hq,-,rfl,e1,-⟩:=HTAB.out.yes _ v hm;have VY:Hid (rX (ae rs) typ rel=aj q.rows):=by
   show _=_;rw [HN.out]; unfold aA; rw [e1]; rfl
  have hsp:=Zx.out t ZL q hq;have HNE:Hid ((rX (ae rs) typ rel).isEmpty=false):=by
   show _=_;rw [VY.out];have:=(lm hsp.1).1;cases h:aj q.rows with
   | nil=>rw [h] at this; simp at this
   | cons a b=>rfl
  have hrl:=hsp.2.1;have WA:Hid (iH w2 q.ad q.rows):=M8.mem (kW.mem (HS.out.below HB2.out) ZL) hq;have WE:Hid (∀ r ∈ q.rows,r.e.light):=((HL.out t ZL).2 q hq).2;have HM:Hid (nX rs (typ,rel)=some (.slice q.ad q.rows.length q.cap)):=hm;clear e1 hsp hm;go_wp2_with (at_lookup; refine bZ _ rfl _ _ 91 rfl 94 33 ic underlying91 (lu _) w1.heap.size 36 (nX rs) rfl HMV.out (typ,rel) kl rfl Vm.out ?_; rw [HM.out]; simp only [Option.getD_some,Option.isSome_some]);refine (ES q.ad q.cap q.rows _ hrl WA.out WE.out).mono ?_;rintro e w3 ⟨qs,rfl,hqe,hqs,hqo,hqf,X7,hb3⟩;have HB3:=jP HB2 hb3;have HQE:Hid (aj qs=rX (ae rs) typ rel):=by show _=_; rw [hqe,VY.out]
  have HQS:Hid (iH w3 (some ⟨w2.heap.size,0,none⟩) qs):=hqs;have HQO:Hid (qs ≠ []→∃ b,(some ⟨w2.heap.size,0,none⟩:Option Addr)=some ⟨b,0,none⟩∧w.heap.size≤b∧b < w3.heap.size∧qx b w3 qs∧gY w3 b):=fun _=>⟨w2.heap.size,rfl,HB2.out.size,X7,hqo,hqf⟩;clear hqe hqs hqo hqf X7 hb3;go_wp2;refine bodyPost_ret (v:=.tuple #[.slice (some ⟨w2.heap.size,0,none⟩) qs.length qs.length,.bool true]) ?_ rfl ⟨some ⟨w2.heap.size,0,none⟩,qs.length,qs,by rw [HNE.out]; rfl,HQE.out,HQS.out,HQO.out,HB3.out⟩;simp [results,Tryz.results12,go_sem]
end Go.Proofs.YtajkkeikihhejaaGreat
