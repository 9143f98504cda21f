/- Contract of the document's function that tells whether a tuple fits a schema. -/
import Derived.Test.YtajkkeikihhejaaGreatSq
import Derived.Test.YtajkkeikihhejaaGreatJ31
import Derived.Test.YtajkkeikihhejaaGreatJ37
open Go.Proofs.Tryz
set_option maxHeartbeats 80000000
namespace Go.Proofs.YtajkkeikihhejaaGreat
open Go.ChangeShapes Go.WideShapes Go.ChangeAt Go.RowKit Go.Maps
open Pl
set_option maxRecDepth 100000 in
theorem Fa (ad:Option Addr)(cap:Nat)(rs:List TR)(oa ob r c d s:bI)(w:af)(hlen:rs.length<=1048576)(hs:kX w ad rs)(hl:∀ r∈rs,r.light)(hf:∀ r∈rs,r.fits)(ha:oa.size<=maxLen)(hb:ob.size<=maxLen)(hr:r.size<=maxLen)(hc:c.size<=maxLen)(hd:d.size<=maxLen)(hz:s.size<=maxLen) :
  Calls prog 87 #[.slice ad rs.length cap,.agg #[.string oa,.string ob,.string r,.string c,.string d,.string s]] w fun e w'=>e=.returned (.bool (DF (ae rs) oa ob r c d s))/\ag w w':=by
 have HS:=aA hs;have HL:=aA hl;have UY:=aA hf;clear hs hl hf;obtain ⟨W0,hW0⟩:∃ W0,W0=w.alloc (.cells #[.string oa,.string ob,.string r,.string c,.string d,.string s] 46):=⟨_,rfl⟩;have hal:ag w W0:=by rw [hW0];exact (Uf _ _).alloc (Ue _) _
 have HB0:=aA hal;have hw0:w.heap.size<W0.heap.size:=by rw [hW0];simp
 have c0:W0.cell? ⟨w.heap.size,0,none⟩=some (.string oa):=by rw [hW0];simp
 have c1:W0.cell? ⟨w.heap.size,1,none⟩=some (.string ob):=by rw [hW0];simp
 have c2:W0.cell? ⟨w.heap.size,2,none⟩=some (.string r):=by rw [hW0];simp
 have c3:W0.cell? ⟨w.heap.size,3,none⟩=some (.string c):=by rw [hW0];simp
 have c4:W0.cell? ⟨w.heap.size,4,none⟩=some (.string d):=by rw [hW0];simp
 have c5:W0.cell? ⟨w.heap.size,5,none⟩=some (.string s):=by rw [hW0];simp
 clear hal;go_enter func87,ntmps87;go_wp2_with fail;rw [<-hW0];clear hW0;refine (jU ad cap rs _ hlen (HS.out.below HB0.out) HL.out UY.out).mono ?_;rintro e w1 ⟨rfl,hb1⟩;have HB1:=jP HB0 hb1;have hw1:w.heap.size<w1.heap.size:=Uc hw0 hb1.size;replace c0:=aH hb1 hw0 c0;replace c1:=aH hb1 hw0 c1;replace c2:=aH hb1 hw0 c2;replace c3:=aH hb1 hw0 c3;replace c4:=aH hb1 hw0 c4;replace c5:=aH hb1 hw0 c5;clear hb1 hw0;cases hd5:aL (ae rs);case false=>
  have HN:Hid (DF (ae rs) oa ob r c d s=false):=by show _=_;unfold DF;rw [hd5];rfl
  go_wp2;go_ret;exact ⟨by rw [HN.out];rfl,HB1.out⟩
 have HN:Hid (DF (ae rs) oa ob r c d s=sH (ae rs) oa ob r c d s):=by show _=_;unfold DF;rw [hd5];rfl
 go_wp2_with fail;refine (Bo ad cap rs oa ob r c d s _ hlen (HS.out.below HB1.out) HL.out ha hb hr hc hd hz).mono ?_;rintro e w2 ⟨rfl,hb2⟩;have HB2:=jP HB1 hb2;clear hb2;go_wp2;go_ret;exact ⟨by rw [HN.out];rfl,HB2.out⟩
set_option linter.unusedVariables false
set_option maxRecDepth 100000
theorem iN.only {wc wd:af}{R base:Nat}{v:Value}{rs:List TR}(h:iN wc base v rs)(hR:R<base)(ho:Only R wc wd):iN wd base v rs :=
 h.heap mJ ho.size fun g hg=>ho.block g (h.lt mJ hg).2 (fun e=>by injection e with e;have:=(h.lt mJ hg).1;omega)
theorem iN.slT {w:af}{R base cap:Nat}{Vz:Option Addr}{rs:List TR}(h:iN w base (.slice Vz rs.length cap) rs)(hR:R<base):∀ W,Only R w W->kX W Vz rs:=fun W hO=>by
 obtain ⟨UX,cap',e,hs,-⟩:=(h.only hR hO).read;injection e with e1 e2 e3;subst e1;exact hs
def Qg (w:World)(n:Nat)(a b r c d s:ByteArray):Prop:=w.cell? ⟨n,0,none⟩=some (.string a)/\w.cell? ⟨n,1,none⟩=some (.string b)/\w.cell? ⟨n,2,none⟩=some (.string r)/\w.cell? ⟨n,3,none⟩=some (.string c)/\w.cell? ⟨n,4,none⟩=some (.string d)/\w.cell? ⟨n,5,none⟩=some (.string s)
theorem Qg.same {w w':af}{n:Nat}{a b r c d s:ByteArray}(h:Qg w n a b r c d s)(hk:∀ o,w'.cell? ⟨n,o,none⟩=w.cell? ⟨n,o,none⟩):Qg w' n a b r c d s :=
 ⟨(hk _).trans h.1,(hk _).trans h.2.1,(hk _).trans h.2.2.1,(hk _).trans h.2.2.2.1,(hk _).trans h.2.2.2.2.1,(hk _).trans h.2.2.2.2.2⟩
theorem Fb {w w':af}{base g c n:Nat}{xs:List Value}(h:w.ownsRow base 46 6 (.slice (some ⟨g,0,none⟩) n c) n xs)(hb:ag w w'):w'.ownsRow base 46 6 (.slice (some ⟨g,0,none⟩) n c) n xs :=
 h.kept (row:=none) ⟨hb.os,hb.tape,hb.output,hb.size,fun i hi _=>hb.block i hi⟩ (.inr (by simp [Value.ownBlock]))
theorem J4 (R:Nat)(ad:Option Addr)(len cap:Nat)(n:Nat)(w:af)(h:Rd w R ad len cap)(h1:1<=n)(h2:n<=200000) :
  Calls prog 49 #[.pointer (some ⟨R,0,none⟩),.int .i64 (n:Int)] w fun e w'=>(∃ x:Nat,e=.returned (.int .i64 (x:Int))/\x<n)/\Rd w' R ad len cap/\Only R w w':=by
 by_cases hn:n<=256
 ·exact fQ R ad len cap n w h h1 hn
 have H:=aA h;clear h;have hne:((n:Int)==0)=false:=by simp;omega
 have hn1:¬ (n:Int)<=1:=by omega
 have hn2:¬ (n:Int)<=256:=by omega
 go_enter func49,ntmps49;go_wp2_with fail;refine (uL R ad len cap _ H.out).mono ?_;rintro e w1 ⟨⟨x,rfl,hx0,hx1⟩,Vh,U8⟩;have HR:=aA Vh;have HO:=aA U8;have hw1:IntKind.i64.wrap (x*256)=x*256:=by rw [IntKind.wrap_i64];omega
 clear Vh U8;go_wp2_with fail;refine (uL R ad len cap _ HR.out).mono ?_;rintro e w2 ⟨⟨y,rfl,hy0,hy1⟩,hR2,hO2⟩;have HR2:=aA hR2;have UN:Hid (Only R w w2):=HO.out.trans hO2;have hw2:IntKind.i64.wrap (x*256+y)=x*256+y:=by rw [IntKind.wrap_i64];omega
 obtain ⟨z,hz⟩:∃ z:Nat,(x*256+y)=(z:Int):=⟨(x*256+y).toNat,by omega⟩;have HZ:Hid ((x*256+y) % (n:Int)=((z % n:Nat):Int)):=by show _=_;rw [hz];exact (Int.natCast_emod z n).symm
 clear hR2 hO2 hz;go_wp2;go_ret;exact ⟨⟨z % n,by rw [<-HZ.out];rfl,Nat.mod_lt _ (by omega)⟩,HR2.out,UN.out⟩
theorem BV (R:Nat)(ad:Option Addr)(len cap:Nat)(Vz:Option Addr)(Vn base:Nat)(rs:List TR)(w:af)(h:Rd w R ad len cap)(hRb:R<base)(hT:iN w base (.slice Vz rs.length Vn) rs)(hG:GoodS rs) :
  Calls prog 46 #[.pointer (some ⟨R,0,none⟩),.slice Vz rs.length Vn,.int .i64 12] w fun e w'=>(∃ (g c:Nat) (ts:List Tp),e=.returned (.slice (some ⟨g,0,none⟩) ts.length c)/\ts.length<=12/\qZ ts/\w'.ownsRow w.heap.size 46 6 (.slice (some ⟨g,0,none⟩) ts.length c) ts.length (bH ts))/\Rd w' R ad len cap/\Only R w w':=by
 have XH:=h.lt;have HS:Hid (∀ W,Only R w W->kX W Vz rs):=hT.slT hRb;obtain ⟨hG1,hG2,hG3⟩:=hG;have hlen:rs.length<=1048576:=by omega
 have HL:=dw hG2;have HF:=dw hG3;clear hG2 hG3 hT;obtain ⟨W0,hW0⟩:∃ W0,W0=w.alloc (.cells #[] 46):=⟨_,rfl⟩;have Vv:Hid (W0.ownsRow w.heap.size 46 6 (.slice (some ⟨w.heap.size,0,none⟩) 0 0) 0 (bH [])):=by
  show World.ownsRow _ _ _ _ _ _ _;rw [hW0];exact World.ownsRow_lit w #[] 0 (Ue _) (by unfold maxLen;omega) (by simp)
 have VO:Hid (Rd W0 R ad len cap):=by show Rd _ _ _ _ _;rw [hW0];exact h.alloc _
 have Wn:Hid (Only R w W0):=by show Only _ _ _;rw [hW0];exact (Only.refl _ _).alloc _
 clear h;go_enter func46,ntmps46;go_wp2_with fail;rw [<-hW0];clear hW0;refine (bY R ad len cap 13 _ VO.out (by omega) (by omega)).mono ?_;rintro e w1 ⟨⟨x,rfl,hx0,hx1⟩,Vh,U8⟩;have HR1:=dw Vh;have U7:Hid (Only R w w1):=Wn.out.trans U8;have HL1:Hid (w1.ownsRow w.heap.size 46 6 (.slice (some ⟨w.heap.size,0,none⟩) 0 0) 0 (bH [])):=oJ Vv.out XH U8;clear Vh U8 Vv VO Wn;go_wp2_with fail;go_loopw [7,8] (fun v i wr=>∃ (k:Nat) (ts:List Tp) (g c:Nat),i=.int .i64 k/\ts.length+k<=12/\v=.slice (some ⟨g,0,none⟩) ts.length c/\Hid (qZ ts)/\Hid (wr.ownsRow w.heap.size 46 6 v ts.length (bH ts))/\Hid (Rd wr R ad len cap)/\Hid (Only R w wr)) (fun _ i _=>(intOf i).toNat);case atStart=>exact ⟨x.toNat,[],w.heap.size,0,by rw [Int.toNat_of_nonneg hx0],by simp;omega,rfl,M4,HL1,HR1,U7⟩
 clear HL1 HR1 U7 hx0 hx1;obtain ⟨k,ts,g,c,rfl,hk,rfl,HSh,HOw,HR,HO⟩:=hrel;by_cases hk0:0<k
 ·have hk1:(0:Int)<(k:Int):=by omega
  go_wp2_with fail;refine (Lt R ad len cap _ HR.out).mono ?_;rintro e w2 ⟨⟨a,b,r,c2,d,s,rfl,ha,hb,hr,hc,hd,hs⟩,hR2,hO2⟩;have HT:Hid (Tp.short ⟨a,b,r,c2,d,s⟩):=⟨ha,hb,hr,hc,hd,hs⟩;obtain ⟨f1,f2,f3,f4,f5,f6⟩:=HT.out.fits;obtain ⟨W2,hW2⟩:∃ W2,W2=w2.alloc (.cells #[.string a,.string b,.string r,.string c2,.string d,.string s] 46):=⟨_,rfl⟩;have HR2:Hid (Rd W2 R ad len cap):=by show Rd _ _ _ _ _;rw [hW2];exact hR2.alloc _
  have UN:Hid (Only R w W2):=by show Only _ _ _;rw [hW2];exact (HO.out.trans hO2).alloc _
  have HOw2:Hid (W2.ownsRow w.heap.size 46 6 (.slice (some ⟨g,0,none⟩) ts.length c) ts.length (bH ts)):=by show World.ownsRow _ _ _ _ _ _ _;rw [hW2];exact (oJ HOw.out XH hO2).alloc _
  have hz2:w2.heap.size<W2.heap.size:=by rw [hW2];simp
  have hnR:w2.heap.size≠R:=by have:=hR2.lt;omega
  have HC:Hid (Qg W2 w2.heap.size a b r c2 d s):=by
   show Qg _ _ _ _ _ _ _ _;rw [hW2];refine ⟨?_,?_,?_,?_,?_,?_⟩ <;> simp
  clear ha hb hr hc hd hs hR2 hO2 HR HO HOw;go_wp2_with fail;rw [<-hW2];clear hW2;refine (Fa Vz Vn rs _ _ _ _ _ _ _ hlen (HS.out _ UN.out) HL.out HF.out f1 f2 f3 f4 f5 f6).mono ?_;rintro e w3 ⟨rfl,hb3⟩;have HR3:=aA (HR2.out.below hb3);have U9:=aA (UN.out.below hb3);have Ye:=dw (Fb HOw2.out hb3);have XT:=dw (HC.out.same fun o=>hb3.cell (p:=⟨_,o,none⟩) hz2);have hz3:=Uc hz2 hb3.size;clear hb3 HR2 UN HOw2 HC hz2;cases hq:DF (ae rs) a b r c2 d s;case true=>
   obtain ⟨c0,c1,c2',c3,c4,c5⟩:=XT.out;clear hq;have HA:=dw (sK g 0 c ts ⟨a,b,r,c2,d,s⟩ w3 (by omega) (nz Ye.out rfl).2.2.1 (nz Ye.out rfl).1 (nz Ye.out rfl).2.1 HSh.out.fits HT.out.fits);go_wp2_with fail;refine HA.out.mono ?_;rintro e w5 ⟨v5,rfl,hown5,hb5⟩;have U5:=aA (HR3.out.below hb5);have UZ:=aA (U9.out.below hb5);clear c0 c1 c2' c3 c4 c5;cases hz:r9 ts ⟨a,b,r,c2,d,s⟩;case true=>
    rw [Bu hz,rU]at hown5;obtain ⟨g3,c3,rfl⟩:=sM hown5;have YB:Hid (w5.ownsRow w.heap.size 46 6 (.slice (some ⟨g3,0,none⟩) (ts.length+1) c3) (ts.length+1) (bH (jL ts ⟨a,b,r,c2,d,s⟩))):=fD hown5 U9.out.size;have HSh5:Hid (qZ (jL ts ⟨a,b,r,c2,d,s⟩)):=HSh.out.put HT.out;have Yh:=dw (rU ts ⟨a,b,r,c2,d,s⟩);have HQ:=dw hz;clear hown5 hb5 hz HA Ye HR3 U9;go_wp2;go_roundw;case rel=>exact ⟨k-1,jL ts ⟨a,b,r,c2,d,s⟩,g3,c3,by rw [show ((k-1:Nat):Int)=(k:Int)-1 by omega],by rw [Yh.out];omega,by rw [Yh.out],HSh5,by rw [Yh.out];exact YB,U5,UZ⟩
    simp [intOf];omega
   have YB:=dw (Fb Ye.out hb5);rw [rT hz]at hown5;obtain ⟨ad5,cap5,hv5,-,-⟩:=OB (ts:=[]) hown5 rfl;subst hv5;have HQ:=dw hz;clear hown5 hb5 hz HA Ye HR3 U9;go_wp2;go_roundw;case rel=>exact ⟨k-1,ts,g,c,by rw [show ((k-1:Nat):Int)=(k:Int)-1 by omega],by omega,rfl,HSh,YB,U5,UZ⟩
   simp [intOf];omega
  clear hq;go_wp2_with fail;refine (iW R ad len cap 60 _ HR3.out (by omega) (by omega)).mono ?_;rintro e w4 ⟨⟨q,rfl⟩,XI,hO4⟩;have HR4:=dw XI;have U4:Hid (Only R w w4):=U9.out.trans hO4;have YC:=dw (oJ Ye.out XH hO4);have HC4:=dw (XT.out.same fun o=>hO4.cell (b:=w2.heap.size) (o:=o) hz3 hnR);clear XI hO4 HR3 U9 Ye XT;cases q;case true=>
   obtain ⟨c0,c1,c2',c3,c4,c5⟩:=HC4.out;have HA:=dw (sK g 0 c ts ⟨a,b,r,c2,d,s⟩ w4 (by omega) (nz YC.out rfl).2.2.1 (nz YC.out rfl).1 (nz YC.out rfl).2.1 HSh.out.fits HT.out.fits);go_wp2_with fail;refine HA.out.mono ?_;rintro e w5 ⟨v5,rfl,hown5,hb5⟩;have U5:=aA (HR4.out.below hb5);have UZ:=aA (U4.out.below hb5);clear c0 c1 c2' c3 c4 c5;cases hz:r9 ts ⟨a,b,r,c2,d,s⟩;case true=>
    rw [Bu hz,rU]at hown5;obtain ⟨g3,c3,rfl⟩:=sM hown5;have YB:Hid (w5.ownsRow w.heap.size 46 6 (.slice (some ⟨g3,0,none⟩) (ts.length+1) c3) (ts.length+1) (bH (jL ts ⟨a,b,r,c2,d,s⟩))):=fD hown5 U4.out.size;have HSh5:Hid (qZ (jL ts ⟨a,b,r,c2,d,s⟩)):=HSh.out.put HT.out;have Yh:=dw (rU ts ⟨a,b,r,c2,d,s⟩);have HQ:=dw hz;clear hown5 hb5 hz HA YC HR4 U4;go_wp2;go_roundw;case rel=>exact ⟨k-1,jL ts ⟨a,b,r,c2,d,s⟩,g3,c3,by rw [show ((k-1:Nat):Int)=(k:Int)-1 by omega],by rw [Yh.out];omega,by rw [Yh.out],HSh5,by rw [Yh.out];exact YB,U5,UZ⟩
    simp [intOf];omega
   have YB:=dw (Fb YC.out hb5);rw [rT hz]at hown5;obtain ⟨ad5,cap5,hv5,-,-⟩:=OB (ts:=[]) hown5 rfl;subst hv5;have HQ:=dw hz;clear hown5 hb5 hz HA YC HR4 U4;go_wp2;go_roundw;case rel=>exact ⟨k-1,ts,g,c,by rw [show ((k-1:Nat):Int)=(k:Int)-1 by omega],by omega,rfl,HSh,YB,U5,UZ⟩
   simp [intOf];omega
  go_wp2;go_roundw;case rel=>exact ⟨k-1,ts,g,c,by rw [show ((k-1:Nat):Int)=(k:Int)-1 by omega],by omega,rfl,HSh,YC,HR4,U4⟩
  simp [intOf];omega
 obtain rfl:k=0:=by omega
 go_wp2;go_ret;exact ⟨⟨g,c,ts,rfl,by omega,HSh.out,HOw.out⟩,HR.out,HO.out⟩
end Go.Proofs.YtajkkeikihhejaaGreat
