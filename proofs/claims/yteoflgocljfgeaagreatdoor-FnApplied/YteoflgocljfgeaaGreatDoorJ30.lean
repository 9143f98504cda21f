/- Contract of the document's function that tells whether a tuple fits a schema. -/
import Derived.Test.YteoflgocljfgeaaGreatDoorJ29
import Derived.Test.YteoflgocljfgeaaGreatDoorDrawSch
open Go.Proofs.Tryz
set_option maxHeartbeats 80000000
namespace Go.Proofs.YteoflgocljfgeaaGreatDoor
open Go.ChangeShapes Go.WideShapes Go.ChangeAt Go.RowKit Go.Maps
open Pl
set_option maxRecDepth 100000 in
theorem AY (ad:Option Addr) (cap:Nat) (rs:List TR) (oa ob r c d s:ByteArray) (w:World) (hlen:rs.length≤1048576) (hs:gp w ad rs) (hl:∀ r ∈ rs,r.light) (hf:∀ r ∈ rs,r.fits) (ha:oa.size≤maxLen) (hb:ob.size≤maxLen) (hr:r.size≤maxLen) (hc:c.size≤maxLen) (hd:d.size≤maxLen) (hz:s.size≤maxLen) :
  Calls prog 71 #[.slice ad rs.length cap,.agg #[.string oa,.string ob,.string r,.string c,.string d,.string s]] w fun e w'=>e=.returned (.bool (zM (ah rs) oa ob r c d s))∧Below w.heap.size w w':=by
 have HS:Hid (gp w ad rs):=hs;have HL:Hid (∀ r ∈ rs,r.light):=hl;have HFT:Hid (∀ r ∈ rs,r.fits):=hf;clear hs hl hf;obtain ⟨W0,hW0⟩:∃ W0,W0=w.alloc (.cells #[.string oa,.string ob,.string r,.string c,.string d,.string s] 41):=⟨_,rfl⟩;have hal:Below w.heap.size w W0:=by rw [hW0]; exact (Below.refl _ _).alloc (Nat.le_refl _) _
 have HB0:Hid (Below w.heap.size w W0):=hal;have hw0:w.heap.size < W0.heap.size:=by rw [hW0]; simp
 have c0:W0.cell? ⟨w.heap.size,0,none⟩=some (.string oa):=by rw [hW0]; simp
 have c1:W0.cell? ⟨w.heap.size,1,none⟩=some (.string ob):=by rw [hW0]; simp
 have c2:W0.cell? ⟨w.heap.size,2,none⟩=some (.string r):=by rw [hW0]; simp
 have c3:W0.cell? ⟨w.heap.size,3,none⟩=some (.string c):=by rw [hW0]; simp
 have c4:W0.cell? ⟨w.heap.size,4,none⟩=some (.string d):=by rw [hW0]; simp
 have c5:W0.cell? ⟨w.heap.size,5,none⟩=some (.string s):=by rw [hW0]; simp
 clear hal;go_enter func71,ntmps71;go_wp2_with fail;rw [← hW0];clear hW0;refine (iU ad cap rs _ hlen (HS.out.below HB0.out) HL.out HFT.out).mono ?_;rintro e w1 ⟨rfl,hb1⟩;have HB1:=gW HB0 hb1;have hw1:w.heap.size < w1.heap.size:=Nat.lt_of_lt_of_le hw0 hb1.size;replace c0:=ak hb1 hw0 c0;replace c1:=ak hb1 hw0 c1;replace c2:=ak hb1 hw0 c2;replace c3:=ak hb1 hw0 c3;replace c4:=ak hb1 hw0 c4;replace c5:=ak hb1 hw0 c5;clear hb1 hw0;cases hd5:aA (ah rs) with
 | false =>
  have HN:Hid (zM (ah rs) oa ob r c d s=false):=by show _=_; unfold zM; rw [hd5]; rfl
  go_wp2;go_ret;exact ⟨by rw [HN.out]; rfl,HB1.out⟩
 | true =>
  have HN:Hid (zM (ah rs) oa ob r c d s=ql (ah rs) oa ob r c d s):=by show _=_; unfold zM; rw [hd5]; rfl
  go_wp2_with fail;refine (xX ad cap rs oa ob r c d s _ hlen (HS.out.below HB1.out) HL.out ha hb hr hc hd hz).mono ?_;rintro e w2 ⟨rfl,hb2⟩;have HB2:=gW HB1 hb2;clear hb2;go_wp2;go_ret;exact ⟨by rw [HN.out]; rfl,HB2.out⟩
set_option linter.unusedVariables false
set_option maxRecDepth 100000
theorem fM.only {wc wd:World} {R base:Nat} {v:Value} {rs:List TR} (h:fM wc base v rs) (hR:R < base) (ho:Only R wc wd):fM wd base v rs :=
 h.heap kN ho.size fun g hg=>ho.block g (h.lt kN hg).2 (fun e=>by injection e with e; have:=(h.lt kN hg).1; omega)
theorem fM.slT {w:World} {R base cap:Nat} {adS:Option Addr} {rs:List TR} (h:fM w base (.slice adS rs.length cap) rs) (hR:R < base):∀ W,Only R w W→gp W adS rs:=fun W hO=>by
 obtain ⟨ad',cap',e,hs,-⟩:=(h.only hR hO).read;injection e with e1 e2 e3;subst e1;exact hs
def JA (w:World) (n:Nat) (a b r c d s:ByteArray):Prop:=w.cell? ⟨n,0,none⟩=some (.string a)∧w.cell? ⟨n,1,none⟩=some (.string b)∧w.cell? ⟨n,2,none⟩=some (.string r)∧w.cell? ⟨n,3,none⟩=some (.string c)∧w.cell? ⟨n,4,none⟩=some (.string d)∧w.cell? ⟨n,5,none⟩=some (.string s)
theorem JA.same {w w':World} {n:Nat} {a b r c d s:ByteArray} (h:JA w n a b r c d s) (hk:∀ o,w'.cell? ⟨n,o,none⟩=w.cell? ⟨n,o,none⟩):JA w' n a b r c d s :=
 ⟨(hk _).trans h.1,(hk _).trans h.2.1,(hk _).trans h.2.2.1,(hk _).trans h.2.2.2.1,(hk _).trans h.2.2.2.2.1,(hk _).trans h.2.2.2.2.2⟩
theorem AZ {w w':World} {base g c n:Nat} {xs:List Value} (h:w.ownsRow base 41 6 (.slice (some ⟨g,0,none⟩) n c) n xs) (hb:Below w.heap.size w w'):w'.ownsRow base 41 6 (.slice (some ⟨g,0,none⟩) n c) n xs :=
 h.kept (row:=none) ⟨hb.os,hb.tape,hb.output,hb.size,fun i hi _=>hb.block i hi⟩ (.inr (by simp [Value.ownBlock]))
theorem Ct (R:Nat) (ad:Option Addr) (len cap:Nat) (adS:Option Addr) (capS base:Nat) (rs:List TR) (w:World) (h:Rd w R ad len cap) (hRb:R < base) (hT:fM w base (.slice adS rs.length capS) rs) (hG:GoodS rs) :
  Calls prog 37 #[.pointer (some ⟨R,0,none⟩),.slice adS rs.length capS,.int .i64 10] w fun e w'=>(∃ (g c:Nat) (ts:List Tp),e=.returned (.slice (some ⟨g,0,none⟩) ts.length c)∧ts.length≤10∧lH ts∧w'.ownsRow w.heap.size 41 6 (.slice (some ⟨g,0,none⟩) ts.length c) ts.length (aB ts))∧Rd w' R ad len cap∧Only R w w':=by
 have hRw:=h.lt;have HS:Hid (∀ W,Only R w W→gp W adS rs):=hT.slT hRb;obtain ⟨hG1,hG2,hG3⟩:=hG;have hlen:rs.length≤1048576:=by omega
 have HL:=bG hG2;have HF:=bG hG3;clear hG2 hG3 hT;obtain ⟨W0,hW0⟩:∃ W0,W0=w.alloc (.cells #[] 41):=⟨_,rfl⟩;have HLIT:Hid (W0.ownsRow w.heap.size 41 6 (.slice (some ⟨w.heap.size,0,none⟩) 0 0) 0 (aB [])):=by
  show World.ownsRow _ _ _ _ _ _ _;rw [hW0]; exact World.ownsRow_lit w #[] 0 (Nat.le_refl _) (by unfold maxLen; omega) (by simp)
 have HR0:Hid (Rd W0 R ad len cap):=by show Rd _ _ _ _ _; rw [hW0]; exact h.alloc _
 have HO0:Hid (Only R w W0):=by show Only _ _ _; rw [hW0]; exact (Only.refl _ _).alloc _
 clear h;go_enter func37,ntmps37;go_wp2_with fail;rw [← hW0];clear hW0;refine (bD R ad len cap 11 _ HR0.out (by omega) (by omega)).mono ?_;rintro e w1 ⟨⟨x,rfl,hx0,hx1⟩,hR1,hO1⟩;have HR1:=bG hR1;have HO1:Hid (Only R w w1):=HO0.out.trans hO1;have HL1:Hid (w1.ownsRow w.heap.size 41 6 (.slice (some ⟨w.heap.size,0,none⟩) 0 0) 0 (aB [])):=oq HLIT.out hRw hO1;clear hR1 hO1 HLIT HR0 HO0;go_wp2_with fail;go_loopw [7,8] (fun v i wr=>∃ (k:Nat) (ts:List Tp) (g c:Nat),i=.int .i64 k∧ts.length + k≤10∧v=.slice (some ⟨g,0,none⟩) ts.length c∧Hid (lH ts)∧Hid (wr.ownsRow w.heap.size 41 6 v ts.length (aB ts))∧Hid (Rd wr R ad len cap)∧Hid (Only R w wr)) (fun _ i _=>(intOf i).toNat);case atStart=>exact ⟨x.toNat,[],w.heap.size,0,by rw [Int.toNat_of_nonneg hx0],by simp; omega,rfl,Gx,HL1,HR1,HO1⟩
 case round =>
  clear HL1 HR1 HO1 hx0 hx1;obtain ⟨k,ts,g,c,rfl,hk,rfl,HSh,HOw,HR,HO⟩:=hrel;by_cases hk0:0 < k
  ·have hk1:(0:Int) < (k:Int):=by omega
   go_wp2_with fail;refine (zt R ad len cap _ HR.out).mono ?_;rintro e w2 ⟨⟨a,b,r,c2,d,s,rfl,ha,hb,hr,hc,hd,hs⟩,hR2,hO2⟩;have HT:Hid (Tp.short ⟨a,b,r,c2,d,s⟩):=⟨ha,hb,hr,hc,hd,hs⟩;obtain ⟨f1,f2,f3,f4,f5,f6⟩:=HT.out.fits;obtain ⟨W2,hW2⟩:∃ W2,W2=w2.alloc (.cells #[.string a,.string b,.string r,.string c2,.string d,.string s] 41):=⟨_,rfl⟩;have HR2:Hid (Rd W2 R ad len cap):=by show Rd _ _ _ _ _; rw [hW2]; exact hR2.alloc _
   have HO2:Hid (Only R w W2):=by show Only _ _ _; rw [hW2]; exact (HO.out.trans hO2).alloc _
   have HOw2:Hid (W2.ownsRow w.heap.size 41 6 (.slice (some ⟨g,0,none⟩) ts.length c) ts.length (aB ts)):=by show World.ownsRow _ _ _ _ _ _ _; rw [hW2]; exact (oq HOw.out hRw hO2).alloc _
   have hz2:w2.heap.size < W2.heap.size:=by rw [hW2]; simp
   have hnR:w2.heap.size ≠ R:=by have:=hR2.lt; omega
   have HC:Hid (JA W2 w2.heap.size a b r c2 d s):=by
    show JA _ _ _ _ _ _ _ _;rw [hW2]; refine ⟨?_,?_,?_,?_,?_,?_⟩ <;> simp
   clear ha hb hr hc hd hs hR2 hO2 HR HO HOw;go_wp2_with fail;rw [← hW2];clear hW2;refine (AY adS capS rs _ _ _ _ _ _ _ hlen (HS.out _ HO2.out) HL.out HF.out f1 f2 f3 f4 f5 f6).mono ?_;rintro e w3 ⟨rfl,hb3⟩;have HR3:Hid (Rd w3 R ad len cap):=HR2.out.below hb3;have HO3:Hid (Only R w w3):=HO2.out.below hb3;have HOw3:=bG (AZ HOw2.out hb3);have HC3:=bG (HC.out.same fun o=>hb3.cell (p:=⟨_,o,none⟩) hz2);have hz3:=Nat.lt_of_lt_of_le hz2 hb3.size;clear hb3 HR2 HO2 HOw2 HC hz2;cases hq:zM (ah rs) a b r c2 d s with
   | true =>
    obtain ⟨c0,c1,c2',c3,c4,c5⟩:=HC3.out;clear hq;have HA:=bG (qh g 0 c ts ⟨a,b,r,c2,d,s⟩ w3 (by omega) (kL HOw3.out rfl).2.2.1 (kL HOw3.out rfl).1 (kL HOw3.out rfl).2.1 HSh.out.fits HT.out.fits);go_wp2_with fail;refine HA.out.mono ?_;rintro e w5 ⟨v5,rfl,hown5,hb5⟩;have HR5:Hid (Rd w5 R ad len cap):=HR3.out.below hb5;have HO5:Hid (Only R w w5):=HO3.out.below hb5;clear c0 c1 c2' c3 c4 c5;cases hz:pM ts ⟨a,b,r,c2,d,s⟩ with
    | true =>
     rw [xI hz,pu] at hown5;obtain ⟨g3,c3,rfl⟩:=qi hown5;have HOw5:Hid (w5.ownsRow w.heap.size 41 6 (.slice (some ⟨g3,0,none⟩) (ts.length + 1) c3) (ts.length + 1) (aB (eF ts ⟨a,b,r,c2,d,s⟩))):=fQ hown5 HO3.out.size;have HSh5:Hid (lH (eF ts ⟨a,b,r,c2,d,s⟩)):=HSh.out.put HT.out;have HLP:=bG (pu ts ⟨a,b,r,c2,d,s⟩);have HQ:=bG hz;clear hown5 hb5 hz HA HOw3 HR3 HO3;go_wp2;go_roundw;case rel=>exact ⟨k - 1,eF ts ⟨a,b,r,c2,d,s⟩,g3,c3,by rw [show ((k - 1:Nat):Int)=(k:Int) - 1 by omega],by rw [HLP.out]; omega,by rw [HLP.out],HSh5,by rw [HLP.out]; exact HOw5,HR5,HO5⟩
     case measure=>simp [intOf]; omega
    | false =>
     have HOw5:=bG (AZ HOw3.out hb5);rw [pq hz] at hown5;obtain ⟨ad5,cap5,hv5,-,-⟩:=Ff (ts:=[]) hown5 rfl;subst hv5;have HQ:=bG hz;clear hown5 hb5 hz HA HOw3 HR3 HO3;go_wp2;go_roundw;case rel=>exact ⟨k - 1,ts,g,c,by rw [show ((k - 1:Nat):Int)=(k:Int) - 1 by omega],by omega,rfl,HSh,HOw5,HR5,HO5⟩
     case measure=>simp [intOf]; omega
   | false =>
    clear hq;go_wp2_with fail;refine (dY R ad len cap 60 _ HR3.out (by omega) (by omega)).mono ?_;rintro e w4 ⟨⟨q,rfl⟩,hR4,hO4⟩;have HR4:=bG hR4;have HO4:Hid (Only R w w4):=HO3.out.trans hO4;have HOw4:=bG (oq HOw3.out hRw hO4);have HC4:=bG (HC3.out.same fun o=>hO4.cell (b:=w2.heap.size) (o:=o) hz3 hnR);clear hR4 hO4 HR3 HO3 HOw3 HC3;cases q with
    | true =>
     obtain ⟨c0,c1,c2',c3,c4,c5⟩:=HC4.out;have HA:=bG (qh g 0 c ts ⟨a,b,r,c2,d,s⟩ w4 (by omega) (kL HOw4.out rfl).2.2.1 (kL HOw4.out rfl).1 (kL HOw4.out rfl).2.1 HSh.out.fits HT.out.fits);go_wp2_with fail;refine HA.out.mono ?_;rintro e w5 ⟨v5,rfl,hown5,hb5⟩;have HR5:Hid (Rd w5 R ad len cap):=HR4.out.below hb5;have HO5:Hid (Only R w w5):=HO4.out.below hb5;clear c0 c1 c2' c3 c4 c5;cases hz:pM ts ⟨a,b,r,c2,d,s⟩ with
     | true =>
      rw [xI hz,pu] at hown5;obtain ⟨g3,c3,rfl⟩:=qi hown5;have HOw5:Hid (w5.ownsRow w.heap.size 41 6 (.slice (some ⟨g3,0,none⟩) (ts.length + 1) c3) (ts.length + 1) (aB (eF ts ⟨a,b,r,c2,d,s⟩))):=fQ hown5 HO4.out.size;have HSh5:Hid (lH (eF ts ⟨a,b,r,c2,d,s⟩)):=HSh.out.put HT.out;have HLP:=bG (pu ts ⟨a,b,r,c2,d,s⟩);have HQ:=bG hz;clear hown5 hb5 hz HA HOw4 HR4 HO4;go_wp2;go_roundw;case rel=>exact ⟨k - 1,eF ts ⟨a,b,r,c2,d,s⟩,g3,c3,by rw [show ((k - 1:Nat):Int)=(k:Int) - 1 by omega],by rw [HLP.out]; omega,by rw [HLP.out],HSh5,by rw [HLP.out]; exact HOw5,HR5,HO5⟩
      case measure=>simp [intOf]; omega
     | false =>
      have HOw5:=bG (AZ HOw4.out hb5);rw [pq hz] at hown5;obtain ⟨ad5,cap5,hv5,-,-⟩:=Ff (ts:=[]) hown5 rfl;subst hv5;have HQ:=bG hz;clear hown5 hb5 hz HA HOw4 HR4 HO4;go_wp2;go_roundw;case rel=>exact ⟨k - 1,ts,g,c,by rw [show ((k - 1:Nat):Int)=(k:Int) - 1 by omega],by omega,rfl,HSh,HOw5,HR5,HO5⟩
      case measure=>simp [intOf]; omega
    | false =>
     go_wp2;go_roundw;case rel=>exact ⟨k - 1,ts,g,c,by rw [show ((k - 1:Nat):Int)=(k:Int) - 1 by omega],by omega,rfl,HSh,HOw4,HR4,HO4⟩
     case measure=>simp [intOf]; omega
  ·obtain rfl:k=0:=by omega
   go_wp2;go_ret;exact ⟨⟨g,c,ts,rfl,by omega,HSh.out,HOw.out⟩,HR.out,HO.out⟩
theorem Eo (R:Nat) (ad:Option Addr) (len cap:Nat) (w:World) (h:Rd w R ad len cap) :
  Calls prog 102 #[.pointer (some ⟨R,0,none⟩),.int .i64 1,.int .i64 2] w fun e w'=>(∃ x:Int,e=.returned (.int .i64 x))∧Rd w' R ad len cap∧Only R w w':=by
 have H:=bG h;clear h;go_enter func102,ntmps102;go_wp2_with fail;refine (bD R ad len cap 8 _ H.out (by omega) (by omega)).mono ?_;rintro e w1 ⟨⟨x,rfl,hx0',hx1'⟩,hR1,hO1⟩;obtain ⟨x,rfl⟩:∃ y:Nat,x=(y:Int):=⟨x.toNat,by omega⟩;have hx:x < 8:=by omega
 clear hx0' hx1';have HR1:=bG hR1;have HO1:=bG hO1;clear hR1 hO1;by_cases h0:x=0
 ·subst h0;go_wp2;go_ret;exact ⟨⟨_,rfl⟩,HR1.out,HO1.out⟩
 ·have h00:((x:Int) == 0)=false:=by simp; omega
  by_cases h1:x=1
  ·subst h1;go_wp2;go_ret;exact ⟨⟨_,rfl⟩,HR1.out,HO1.out⟩
  ·have h11:((x:Int) == 1)=false:=by simp; omega
   go_wp2_with fail;refine (qN R ad len cap _ HR1.out).mono ?_;rintro e w2 ⟨⟨y,rfl⟩,hR2,hO2⟩;have HR2:=bG hR2;have HO2:Hid (Only R w w2):=HO1.out.trans hO2;clear hR2 hO2;go_wp2;go_ret;exact ⟨⟨_,rfl⟩,HR2.out,HO2.out⟩
theorem tJ (R:Nat) (ad:Option Addr) (len cap:Nat) (w:World) (h:Rd w R ad len cap) :
  Calls prog 69 #[.pointer (some ⟨R,0,none⟩),.int .i64 1,.int .i64 2] w fun e w'=>(∃ x:Int,e=.returned (.int .i64 x))∧Rd w' R ad len cap∧Only R w w':=by
 have H:=bG h;clear h;go_enter func69,ntmps69;go_wp2_with fail;refine (dY R ad len cap 24 _ H.out (by omega) (by omega)).mono ?_;rintro e w1 ⟨⟨q,rfl⟩,hR1,hO1⟩;have HR1:=bG hR1;have HO1:=bG hO1;have hRw:=hR1.lt;clear hR1 hO1;cases q with
 | false =>
  go_wp2_with fail;refine (Eo R ad len cap _ HR1.out).mono ?_;rintro e w2 ⟨⟨y,rfl⟩,hR2,hO2⟩;have HR2:=bG hR2;have HO2:Hid (Only R w w2):=HO1.out.trans hO2;clear hR2 hO2;go_wp2;go_ret;exact ⟨⟨_,rfl⟩,HR2.out,HO2.out⟩
 | true =>
  obtain ⟨W0,hW0⟩:∃ W0,W0=w1.alloc (.cells #[.int .i64 0,.int .i64 3,.int .i64 (-9223372036854775808),.int .i64 9223372036854775807] 2):=⟨_,rfl⟩;have HR0:Hid (Rd W0 R ad len cap):=by show Rd _ _ _ _ _; rw [hW0]; exact HR1.out.alloc _
  have HO0:Hid (Only R w W0):=by show Only _ _ _; rw [hW0]; exact HO1.out.alloc _
  have HC0:Hid (w1.heap.size < W0.heap.size∧∀ o,o < 4→∃ z:Int,W0.cell? ⟨w1.heap.size,o,none⟩=some (.int .i64 z)):=by
   show _∧_;rw [hW0];refine ⟨by simp,fun o ho=>?_⟩;have:o=0 ∨ o=1 ∨ o=2 ∨ o=3:=by omega
   rcases this with rfl | rfl | rfl | rfl <;> exact ⟨_,by simp; rfl⟩
  go_wp2_with fail;rw [← hW0]; clear hW0;refine (bD R ad len cap 4 _ HR0.out (by omega) (by omega)).mono ?_;rintro e w2 ⟨⟨x,rfl,hx0',hx1'⟩,hR2,hO2⟩;obtain ⟨x,rfl⟩:∃ y:Nat,x=(y:Int):=⟨x.toNat,by omega⟩;have hx:x < 4:=by omega
  clear hx0' hx1';obtain ⟨z,hz⟩:=HC0.out.2 x hx;have hz2:w2.cell? ⟨w1.heap.size,x,none⟩=some (.int .i64 z):=by rw [hO2.cell HC0.out.1 (by omega)]; exact hz
  have HR2:=bG hR2;have HO2:Hid (Only R w w2):=HO0.out.trans hO2;have hx0:=bR x;have hx1:(x:Int) < 4:=by omega
  clear hR2 hO2 hz HC0 HR0 HO0;go_wp2;go_ret;exact ⟨⟨z,rfl⟩,HR2.out,HO2.out⟩
def tK (w:World) (R n:Nat) (k:Int) (a b r c d s:ByteArray):Prop:=n ≠ R∧n < w.heap.size∧(∀ o,w.frozen? ⟨n,o,none⟩=false)∧w.cell? ⟨n,0,none⟩=some (.int .i64 k)∧w.cell? ⟨n,1,none⟩=some (.string a)∧w.cell? ⟨n,2,none⟩=some (.string b)∧w.cell? ⟨n,3,none⟩=some (.string r)∧w.cell? ⟨n,4,none⟩=some (.string c)∧w.cell? ⟨n,5,none⟩=some (.string d)∧w.cell? ⟨n,6,none⟩=some (.string s)
theorem tK.only {w w':World} {R n:Nat} {k:Int} {a b r c d s:ByteArray} (h:tK w R n k a b r c d s) (hO:Only R w w'):tK w' R n k a b r c d s:=by
 obtain ⟨h1,h2,h3,c0,c1,c2,c3,c4,c5,c6⟩:=h;have hc:=fun o=>hO.cell (b:=n) (o:=o) h2 h1;exact ⟨h1,Nat.lt_of_lt_of_le h2 hO.size,fun o=>(hO.frozen (o:=o) h2 h1).trans (h3 o),(hc 0).trans c0,(hc 1).trans c1,(hc 2).trans c2,(hc 3).trans c3,(hc 4).trans c4,(hc 5).trans c5,(hc 6).trans c6⟩
theorem tK.alloc {w:World} {R n:Nat} {k:Int} {a b r c d s:ByteArray} (h:tK w R n k a b r c d s) (o:Obj):tK (w.alloc o) R n k a b r c d s:=h.only ((Only.refl R w).alloc o)
theorem Fp {w:World} {R:Nat} (hR:R < w.heap.size) (t:TypeId) (k:Int) (a b r c d s:ByteArray):tK (w.alloc (.cells #[.int .i64 k,.string a,.string b,.string r,.string c,.string d,.string s] t)) R w.heap.size k a b r c d s:=by
 refine ⟨by omega,by simp,fun o=>by simp,?_,?_,?_,?_,?_,?_,?_⟩ <;> simp
theorem aL {w:World} {n m i j:Nat} {v:Value} (h:n ≠ m ∨ i ≠ j):(w.setCell ⟨n,i,none⟩ v).cell? ⟨m,j,none⟩=w.cell? ⟨m,j,none⟩:=by
 apply World.cell?_setCell_other;intro e;have e1:=congrArg Addr.block e;have e2:=congrArg Addr.off e;rcases h with h | h
 ·exact h e1
 ·exact h e2
theorem mM {w:World} {a:Addr} {v u:Value} (h:w.cell? a=some u):(w.setCell a v).cell? a=some v:=World.cell?_setCell_same _ _ _ h
theorem tK.set {w:World} {R n:Nat} {k k':Int} {a b r c d s a' b' r' c' d' s':ByteArray} (h:tK w R n k a b r c d s):tK (((((((w.setCell ⟨n,0,none⟩ (.int .i64 k')).setCell ⟨n,1,none⟩ (.string a')).setCell ⟨n,2,none⟩ (.string b')).setCell ⟨n,3,none⟩ (.string r')).setCell ⟨n,4,none⟩ (.string c')).setCell ⟨n,5,none⟩ (.string d')).setCell ⟨n,6,none⟩ (.string s')) R n k' a' b' r' c' d' s':=by
 obtain ⟨h1,h2,h3,c0,c1,c2,c3,c4,c5,c6⟩:=h;refine ⟨h1,by simpa using h2,fun o=>by simpa using h3 o,?_,?_,?_,?_,?_,?_,?_⟩
 ·rw [aL (.inr (by omega))]; rw [aL (.inr (by omega))]; rw [aL (.inr (by omega))]; rw [aL (.inr (by omega))]; rw [aL (.inr (by omega))]; rw [aL (.inr (by omega))]; exact mM (u:=_) (by exact c0)
 ·rw [aL (.inr (by omega))]; rw [aL (.inr (by omega))]; rw [aL (.inr (by omega))]; rw [aL (.inr (by omega))]; rw [aL (.inr (by omega))]; exact mM (u:=_) (by rw [aL (.inr (by omega))]; exact c1)
 ·rw [aL (.inr (by omega))]; rw [aL (.inr (by omega))]; rw [aL (.inr (by omega))]; rw [aL (.inr (by omega))]; exact mM (u:=_) (by rw [aL (.inr (by omega))]; rw [aL (.inr (by omega))]; exact c2)
 ·rw [aL (.inr (by omega))]; rw [aL (.inr (by omega))]; rw [aL (.inr (by omega))]; exact mM (u:=_) (by rw [aL (.inr (by omega))]; rw [aL (.inr (by omega))]; rw [aL (.inr (by omega))]; exact c3)
 ·rw [aL (.inr (by omega))]; rw [aL (.inr (by omega))]; exact mM (u:=_) (by rw [aL (.inr (by omega))]; rw [aL (.inr (by omega))]; rw [aL (.inr (by omega))]; rw [aL (.inr (by omega))]; exact c4)
 ·rw [aL (.inr (by omega))]; exact mM (u:=_) (by rw [aL (.inr (by omega))]; rw [aL (.inr (by omega))]; rw [aL (.inr (by omega))]; rw [aL (.inr (by omega))]; rw [aL (.inr (by omega))]; exact c5)
 ·exact mM (u:=_) (by rw [aL (.inr (by omega))]; rw [aL (.inr (by omega))]; rw [aL (.inr (by omega))]; rw [aL (.inr (by omega))]; rw [aL (.inr (by omega))]; rw [aL (.inr (by omega))]; exact c6)
theorem tK.setOther {w:World} {R n m:Nat} {k k':Int} {a b r c d s a' b' r' c' d' s':ByteArray} (h:tK w R m k a b r c d s) (hn:n ≠ m):tK (((((((w.setCell ⟨n,0,none⟩ (.int .i64 k')).setCell ⟨n,1,none⟩ (.string a')).setCell ⟨n,2,none⟩ (.string b')).setCell ⟨n,3,none⟩ (.string r')).setCell ⟨n,4,none⟩ (.string c')).setCell ⟨n,5,none⟩ (.string d')).setCell ⟨n,6,none⟩ (.string s')) R m k a b r c d s:=by
 obtain ⟨h1,h2,h3,c0,c1,c2,c3,c4,c5,c6⟩:=h;refine ⟨h1,by simpa using h2,fun o=>by simpa using h3 o,?_,?_,?_,?_,?_,?_,?_⟩
 ·rw [aL (.inl hn)]; rw [aL (.inl hn)]; rw [aL (.inl hn)]; rw [aL (.inl hn)]; rw [aL (.inl hn)]; rw [aL (.inl hn)]; rw [aL (.inl hn)]; exact c0
 ·rw [aL (.inl hn)]; rw [aL (.inl hn)]; rw [aL (.inl hn)]; rw [aL (.inl hn)]; rw [aL (.inl hn)]; rw [aL (.inl hn)]; rw [aL (.inl hn)]; exact c1
 ·rw [aL (.inl hn)]; rw [aL (.inl hn)]; rw [aL (.inl hn)]; rw [aL (.inl hn)]; rw [aL (.inl hn)]; rw [aL (.inl hn)]; rw [aL (.inl hn)]; exact c2
 ·rw [aL (.inl hn)]; rw [aL (.inl hn)]; rw [aL (.inl hn)]; rw [aL (.inl hn)]; rw [aL (.inl hn)]; rw [aL (.inl hn)]; rw [aL (.inl hn)]; exact c3
 ·rw [aL (.inl hn)]; rw [aL (.inl hn)]; rw [aL (.inl hn)]; rw [aL (.inl hn)]; rw [aL (.inl hn)]; rw [aL (.inl hn)]; rw [aL (.inl hn)]; exact c4
 ·rw [aL (.inl hn)]; rw [aL (.inl hn)]; rw [aL (.inl hn)]; rw [aL (.inl hn)]; rw [aL (.inl hn)]; rw [aL (.inl hn)]; rw [aL (.inl hn)]; exact c5
 ·rw [aL (.inl hn)]; rw [aL (.inl hn)]; rw [aL (.inl hn)]; rw [aL (.inl hn)]; rw [aL (.inl hn)]; rw [aL (.inl hn)]; rw [aL (.inl hn)]; exact c6
theorem iZ {w a0:World} {R n:Nat} {k':Int} {a' b' r' c' d' s':ByteArray} (h:Only R a0 w) (hn:a0.heap.size≤n):Only R a0 (((((((w.setCell ⟨n,0,none⟩ (.int .i64 k')).setCell ⟨n,1,none⟩ (.string a')).setCell ⟨n,2,none⟩ (.string b')).setCell ⟨n,3,none⟩ (.string r')).setCell ⟨n,4,none⟩ (.string c')).setCell ⟨n,5,none⟩ (.string d')).setCell ⟨n,6,none⟩ (.string s')) :=
 ((((((h.setNew hn).setNew hn).setNew hn).setNew hn).setNew hn).setNew hn).setNew hn
theorem mP {w:World} {R n:Nat} {ad:Option Addr} {len cap:Nat} {k':Int} {a' b' r' c' d' s':ByteArray} (h:Rd w R ad len cap) (hn:n ≠ R) (hb:0 < len→∀ b off,ad=some ⟨b,off,none⟩→b ≠ n):Rd (((((((w.setCell ⟨n,0,none⟩ (.int .i64 k')).setCell ⟨n,1,none⟩ (.string a')).setCell ⟨n,2,none⟩ (.string b')).setCell ⟨n,3,none⟩ (.string r')).setCell ⟨n,4,none⟩ (.string c')).setCell ⟨n,5,none⟩ (.string d')).setCell ⟨n,6,none⟩ (.string s')) R ad len cap :=
 ((((((h.setFar hn hb).setFar hn hb).setFar hn hb).setFar hn hb).setFar hn hb).setFar hn hb).setFar hn hb
def Nq (R:Nat) (ad:Option Addr) (len cap:Nat) (w:World) (e:Ending) (w':World):Prop:=(∃ (k:Int) (a b r c d s:ByteArray),e=.returned (.agg #[.int .i64 k,.string a,.string b,.string r,.string c,.string d,.string s])∧a.size≤20∧b.size≤20∧r.size≤20∧c.size≤20∧d.size≤20∧s.size≤20)∧Rd w' R ad len cap∧Only R w w'
theorem lJ {R:Nat} {ad:Option Addr} {len cap:Nat} {w w':World} {k:Int} {a b r c d s:ByteArray} (ht:a.size≤20∧b.size≤20∧r.size≤20∧c.size≤20∧d.size≤20∧s.size≤20) (hR:Rd w' R ad len cap) (hO:Only R w w'):Nq R ad len cap w (.returned (.agg #[.int .i64 k,.string a,.string b,.string r,.string c,.string d,.string s])) w':=⟨⟨k,a,b,r,c,d,s,rfl,ht⟩,hR,hO⟩
theorem Ep (R:Nat) (ad:Option Addr) (len cap g c0:Nat) (ts:List Tp) (w:World) (h:Rd w R ad len cap) (hlen:ts.length≤20) (hsh:lH ts) (hrow:dL w g 0 ts) (hg:g < w.heap.size) (hgR:g ≠ R) :
  Calls prog 38 #[.pointer (some ⟨R,0,none⟩),.slice (some ⟨g,0,none⟩) ts.length c0] w fun e w'=>Nq R ad len cap w e w':=by
 have hRw:=h.lt;have HFAR:Hid (0 < len→∀ b off,ad=some ⟨b,off,none⟩→b < w.heap.size):=fun h0 b off e=>by
  obtain ⟨b',off',e',-,hbl,-⟩:=h.bytes h0;rw [e] at e'; injection e' with e'; injection e' with e1 e2; omega
 obtain ⟨W0,hW0⟩:∃ W0,W0=w.alloc (.cells #[.int .i64 0,.string ⟨#[]⟩,.string ⟨#[]⟩,.string ⟨#[]⟩,.string ⟨#[]⟩,.string ⟨#[]⟩,.string ⟨#[]⟩] 43):=⟨_,rfl⟩;have HS0:Hid (tK W0 R w.heap.size 0 ⟨#[]⟩ ⟨#[]⟩ ⟨#[]⟩ ⟨#[]⟩ ⟨#[]⟩ ⟨#[]⟩):=by show tK _ _ _ _ _ _ _ _ _ _; rw [hW0]; exact Fp hRw _ _ _ _ _ _ _ _
 have HR0:Hid (Rd W0 R ad len cap):=by show Rd _ _ _ _ _; rw [hW0]; exact h.alloc _
 have HO0:Hid (Only R w W0):=by show Only _ _ _; rw [hW0]; exact (Only.refl _ _).alloc _
 have HRow:Hid (∀ W,Only R w W→dL W g 0 ts):=fun W hO i hi=>by
  obtain ⟨x0,x1,x2,x3,x4,x5⟩:=hrow i hi;have hc:=fun o=>hO.cell (b:=g) (o:=o) hg hgR;exact ⟨(hc _).trans x0,(hc _).trans x1,(hc _).trans x2,(hc _).trans x3,(hc _).trans x4,(hc _).trans x5⟩
 have HSH:Hid (lH ts):=hsh;clear h hrow hsh;go_enter func38,ntmps38;go_wp2_with fail;rw [← hW0];clear hW0;refine (zt R ad len cap _ HR0.out).mono ?_;rintro e w1 ⟨⟨a,b,r,c,d,s,rfl,ha,hb,hr,hc,hd,hs⟩,hR1,hO1⟩;have HT:Hid (a.size≤20∧b.size≤20∧r.size≤20∧c.size≤20∧d.size≤20∧s.size≤20):=⟨ha,hb,hr,hc,hd,hs⟩;obtain ⟨W1,hW1⟩:∃ W1,W1=w1.alloc (.cells #[.int .i64 1,.string a,.string b,.string r,.string c,.string d,.string s] 43):=⟨_,rfl⟩;have HS1:Hid (tK W1 R w.heap.size 0 ⟨#[]⟩ ⟨#[]⟩ ⟨#[]⟩ ⟨#[]⟩ ⟨#[]⟩ ⟨#[]⟩):=by show tK _ _ _ _ _ _ _ _ _ _; rw [hW1]; exact (HS0.out.only hO1).alloc _
 have HC1:Hid (tK W1 R w1.heap.size 1 a b r c d s):=by show tK _ _ _ _ _ _ _ _ _ _; rw [hW1]; exact Fp hR1.lt _ _ _ _ _ _ _ _
 have HR1:Hid (Rd W1 R ad len cap):=by show Rd _ _ _ _ _; rw [hW1]; exact hR1.alloc _
 have HO1:Hid (Only R w W1):=by show Only _ _ _; rw [hW1]; exact (HO0.out.trans hO1).alloc _
 have hBw:w.heap.size < w1.heap.size:=by have:=HS0.out.2.1; have:=hO1.size; omega
 clear ha hb hr hc hd hs hR1 hO1 HR0 HO0 HS0;by_cases hts:ts.length=0
 ·have hdc:decide ((0:Int) < (ts.length:Int))=false:=by simp [hts]
  have hdc2:decide (0 < ts.length)=false:=by simp [hts]
  clear hts;go_wp2_with fail;rw [← hW1];clear hW1;refine (dY R ad len cap 20 _ HR1.out (by omega) (by omega)).mono ?_;rintro e w5 ⟨⟨q2,rfl⟩,hR5,hO5⟩;have HS5:=bG (HS1.out.only hO5);have HC5:=bG (HC1.out.only hO5);have HR5:=bG hR5;have HO5:Hid (Only R w w5):=HO1.out.trans hO5;clear hR5 hO5 HS1 HC1 HR1 HO1;cases q2 with
  | false =>
   obtain ⟨s1,s2,s3,d0,d1,d2,d3,d4,d5,d6⟩:=HS5.out;obtain ⟨t1,t2,t3,e0,e1,e2,e3,e4,e5,e6⟩:=HC5.out;go_wp2;exact bodyPost_ret (v:=.agg #[.int .i64 1,.string a,.string b,.string r,.string c,.string d,.string s]) (by simp [results,Tryz.results38,go_sem, *]) rfl (lJ HT.out (mP HR5.out s1 (fun h0 b off e eb=>by have:=HFAR.out h0 b off e; omega)) (iZ HO5.out (Nat.le_refl _)))
  | true =>
   go_wp2_with fail;refine (tJ R ad len cap _ HR5.out).mono ?_;rintro e w6 ⟨⟨z,rfl⟩,hR6,hO6⟩;have HR6:=bG hR6;have HO6:Hid (Only R w w6):=HO5.out.trans hO6;obtain ⟨s1,s2,s3,d0,d1,d2,d3,d4,d5,d6⟩:=HS5.out.only hO6;obtain ⟨t1,t2,t3,e0,e1,e2,e3,e4,e5,e6⟩:=HC5.out.only hO6;clear hR6 hO6 HS5 HC5 HR5 HO5;go_wp2;exact bodyPost_ret (v:=.agg #[.int .i64 z,.string a,.string b,.string r,.string c,.string d,.string s]) (by simp [results,Tryz.results38,go_sem, *]) rfl (lJ HT.out (mP (HR6.out.setFar t1 (fun h0 b off e eb=>by have:=HFAR.out h0 b off e; omega)) s1 (fun h0 b off e eb=>by have:=HFAR.out h0 b off e; omega)) (iZ (HO6.out.setNew (by omega)) (Nat.le_refl _)))
 ·have hdc:decide ((0:Int) < (ts.length:Int))=true:=by simp; omega
  have hdc2:decide (0 < ts.length)=true:=by simp; omega
  go_wp2_with fail;rw [← hW1];clear hW1;refine (dY R ad len cap 3 _ HR1.out (by omega) (by omega)).mono ?_;rintro e w2 ⟨⟨q1,rfl⟩,hR2,hO2⟩;have HS2:=bG (HS1.out.only hO2);have HC2:=bG (HC1.out.only hO2);have HR2:=bG hR2;have HO2:Hid (Only R w w2):=HO1.out.trans hO2;clear hR2 hO2 HS1 HC1 HR1 HO1;cases q1 with
  | false =>
   go_wp2_with fail;refine (dY R ad len cap 20 _ HR2.out (by omega) (by omega)).mono ?_;rintro e w5 ⟨⟨q2,rfl⟩,hR5,hO5⟩;have HS5:=bG (HS2.out.only hO5);have HC5:=bG (HC2.out.only hO5);have HR5:=bG hR5;have HO5:Hid (Only R w w5):=HO2.out.trans hO5;clear hR5 hO5 HS2 HC2 HR2 HO2;cases q2 with
   | false =>
    obtain ⟨s1,s2,s3,d0,d1,d2,d3,d4,d5,d6⟩:=HS5.out;obtain ⟨t1,t2,t3,e0,e1,e2,e3,e4,e5,e6⟩:=HC5.out;go_wp2;exact bodyPost_ret (v:=.agg #[.int .i64 1,.string a,.string b,.string r,.string c,.string d,.string s]) (by simp [results,Tryz.results38,go_sem, *]) rfl (lJ HT.out (mP HR5.out s1 (fun h0 b off e eb=>by have:=HFAR.out h0 b off e; omega)) (iZ HO5.out (Nat.le_refl _)))
   | true =>
    go_wp2_with fail;refine (tJ R ad len cap _ HR5.out).mono ?_;rintro e w6 ⟨⟨z,rfl⟩,hR6,hO6⟩;have HR6:=bG hR6;have HO6:Hid (Only R w w6):=HO5.out.trans hO6;obtain ⟨s1,s2,s3,d0,d1,d2,d3,d4,d5,d6⟩:=HS5.out.only hO6;obtain ⟨t1,t2,t3,e0,e1,e2,e3,e4,e5,e6⟩:=HC5.out.only hO6;clear hR6 hO6 HS5 HC5 HR5 HO5;go_wp2;exact bodyPost_ret (v:=.agg #[.int .i64 z,.string a,.string b,.string r,.string c,.string d,.string s]) (by simp [results,Tryz.results38,go_sem, *]) rfl (lJ HT.out (mP (HR6.out.setFar t1 (fun h0 b off e eb=>by have:=HFAR.out h0 b off e; omega)) s1 (fun h0 b off e eb=>by have:=HFAR.out h0 b off e; omega)) (iZ (HO6.out.setNew (by omega)) (Nat.le_refl _)))
  | true =>
   go_wp2_with fail;refine (Gz R ad len cap ts.length _ HR2.out (by omega) (by omega)).mono ?_;rintro e w3 ⟨⟨x,rfl,hx⟩,hR3,hO3⟩;have HS3:=bG (HS2.out.only hO3);have HC3:=bG (HC2.out.only hO3);have HR3:=bG hR3;have HO3:Hid (Only R w w3):=HO2.out.trans hO3;obtain ⟨x0,x1,x2,x3,x4,x5⟩:=HRow.out w3 HO3.out x hx;rw [Nat.zero_add] at x0 x1 x2 x3 x4 x5;have HTX:Hid (ts[x].a.size≤20∧ts[x].b.size≤20∧ts[x].r.size≤20∧ts[x].c.size≤20∧ts[x].d.size≤20∧ts[x].s.size≤20):=HSH.out _ (List.getElem_mem hx);have j0:=bR x;have j1:(x:Int) < (ts.length:Int):=by omega
   obtain ⟨t1,t2,t3,e0,e1,e2,e3,e4,e5,e6⟩:=HC3.out;obtain ⟨W3,hW3⟩:∃ W3,W3=(((((((w3.setCell ⟨w1.heap.size,0,none⟩ (.int .i64 2)).setCell ⟨w1.heap.size,1,none⟩ (.string ts[x].a)).setCell ⟨w1.heap.size,2,none⟩ (.string ts[x].b)).setCell ⟨w1.heap.size,3,none⟩ (.string ts[x].r)).setCell ⟨w1.heap.size,4,none⟩ (.string ts[x].c)).setCell ⟨w1.heap.size,5,none⟩ (.string ts[x].d)).setCell ⟨w1.heap.size,6,none⟩ (.string ts[x].s)):=⟨_,rfl⟩;have HSW:Hid (tK W3 R w.heap.size 0 ⟨#[]⟩ ⟨#[]⟩ ⟨#[]⟩ ⟨#[]⟩ ⟨#[]⟩ ⟨#[]⟩):=by show tK _ _ _ _ _ _ _ _ _ _; rw [hW3]; exact HS3.out.setOther (by omega)
   have HCW:Hid (tK W3 R w1.heap.size 2 ts[x].a ts[x].b ts[x].r ts[x].c ts[x].d ts[x].s):=by show tK _ _ _ _ _ _ _ _ _ _; rw [hW3]; exact HC3.out.set
   have HRW:Hid (Rd W3 R ad len cap):=by show Rd _ _ _ _ _; rw [hW3]; exact mP HR3.out t1 (fun h0 b off e eb=>by have:=HFAR.out h0 b off e; omega)
   have HOW:Hid (Only R w W3):=by show Only _ _ _; rw [hW3]; exact iZ HO3.out (by omega)
   clear hR3 hO3 HS2 HC2 HR2 HO2;go_wp2_with fail;rw [← hW3];clear hW3;refine (dY R ad len cap 20 _ HRW.out (by omega) (by omega)).mono ?_;rintro e w5 ⟨⟨q2,rfl⟩,hR5,hO5⟩;have HS5:=bG (HSW.out.only hO5);have HC5:=bG (HCW.out.only hO5);have HR5:=bG hR5;have HO5:Hid (Only R w w5):=HOW.out.trans hO5;clear hR5 hO5 HSW HCW HRW HOW;cases q2 with
   | false =>
    obtain ⟨s1,s2,s3,d0,d1,d2,d3,d4,d5,d6⟩:=HS5.out;obtain ⟨t1,t2,t3,e0,e1,e2,e3,e4,e5,e6⟩:=HC5.out;go_wp2;exact bodyPost_ret (v:=.agg #[.int .i64 2,.string ts[x].a,.string ts[x].b,.string ts[x].r,.string ts[x].c,.string ts[x].d,.string ts[x].s]) (by simp [results,Tryz.results38,go_sem, *]) rfl (lJ HTX.out (mP HR5.out s1 (fun h0 b off e eb=>by have:=HFAR.out h0 b off e; omega)) (iZ HO5.out (Nat.le_refl _)))
   | true =>
    go_wp2_with fail;refine (tJ R ad len cap _ HR5.out).mono ?_;rintro e w6 ⟨⟨z,rfl⟩,hR6,hO6⟩;have HR6:=bG hR6;have HO6:Hid (Only R w w6):=HO5.out.trans hO6;obtain ⟨s1,s2,s3,d0,d1,d2,d3,d4,d5,d6⟩:=HS5.out.only hO6;obtain ⟨t1,t2,t3,e0,e1,e2,e3,e4,e5,e6⟩:=HC5.out.only hO6;clear hR6 hO6 HS5 HC5 HR5 HO5;go_wp2;exact bodyPost_ret (v:=.agg #[.int .i64 z,.string ts[x].a,.string ts[x].b,.string ts[x].r,.string ts[x].c,.string ts[x].d,.string ts[x].s]) (by simp [results,Tryz.results38,go_sem, *]) rfl (lJ HTX.out (mP (HR6.out.setFar t1 (fun h0 b off e eb=>by have:=HFAR.out h0 b off e; omega)) s1 (fun h0 b off e eb=>by have:=HFAR.out h0 b off e; omega)) (iZ (HO6.out.setNew (by omega)) (Nat.le_refl _)))
end Go.Proofs.YteoflgocljfgeaaGreatDoor
