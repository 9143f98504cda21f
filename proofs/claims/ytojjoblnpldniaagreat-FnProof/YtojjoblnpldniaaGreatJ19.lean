/- Contract of the document's function that tells whether a tuple fits a schema. -/
import Derived.Test.YtojjoblnpldniaaGreatSq
import Derived.Maps.RangeWalk
import Derived.Test.YtojjoblnpldniaaGreatJ15
import Derived.Test.YtojjoblnpldniaaGreatJ17
import Derived.Test.YtojjoblnpldniaaGreatJ18
import Derived.OpenShut
import Derived.ShutString
import Derived.HandedShaped
open Go.Proofs.Tryz
set_option maxHeartbeats 80000000
namespace Go.Proofs.YtojjoblnpldniaaGreat
open ChangeShapes WideShapes ChangeAt RowKit Maps
open Pl
set_option maxRecDepth 100000 in
theorem Hz(ad:Q02)(cap:Nat)(rs:Q06)(oa ob r c d s:dw)(w:ag)(hlen:rs.length<=1048576)(hs:kI w ad rs)(hl:∀r∈rs,r.light)(hf:∀r∈rs,r.fits)(ha:oa.size<=maxLen)(hb:ob.size<=maxLen)(hr:r.size<=maxLen)(hc:c.size<=maxLen)(hd:d.size<=maxLen)(hz:s.size<=maxLen):
  Calls prog 182 #[.slice ad rs.length cap,.agg #[.string oa,.string ob,.string r,.string c,.string d,.string s]] w fun e w'=>e=.returned (.bool (FU (ai rs) oa ob r c d s))/\ae w w':=by
 have HS:=aK hs;have HL:=aK hl;have Zd:=aK hf;clear hs hl hf;obtain⟨W0,hW0⟩:=eQx (w.alloc (.cells #[.string oa,.string ob,.string r,.string c,.string d,.string s] 29));have hal:ae w W0:=by rw[hW0];exact(XL _ _).alloc (XK _) _
 have HB0:=aK hal;have hw0:w.heap.size<W0.heap.size:=by rw[hW0];simp
 have c0:W0.cell? ⟨w.heap.size,0,none⟩=some (.string oa):=by rw[hW0];simp
 have c1:W0.cell? ⟨w.heap.size,1,none⟩=some (.string ob):=by rw[hW0];simp
 have c2:W0.cell? ⟨w.heap.size,2,none⟩=some (.string r):=by rw[hW0];simp
 have c3:W0.cell? ⟨w.heap.size,3,none⟩=some (.string c):=by rw[hW0];simp
 have c4:W0.cell? ⟨w.heap.size,4,none⟩=some (.string d):=by rw[hW0];simp
 have c5:W0.cell? ⟨w.heap.size,5,none⟩=some (.string s):=by rw[hW0];simp
 clear hal;go_enter func182,ntmps182;go_wp2_with fail;rw[<-hW0];clear hW0;refine(kZ ad cap rs _ hlen (HS.out.below HB0.out) HL.out Zd.out).mono ?_;rintro e w1 ⟨rfl,hb1⟩;have HB1:=jr HB0 hb1;have hw1:w.heap.size<w1.heap.size:=XJ hw0 hb1.size;replace c0:=aM hb1 hw0 c0;replace c1:=aM hb1 hw0 c1;replace c2:=aM hb1 hw0 c2;replace c3:=aM hb1 hw0 c3;replace c4:=aM hb1 hw0 c4;replace c5:=aM hb1 hw0 c5;clear hb1 hw0;cases hd5:aN (ai rs);case false=>
  have HN:Hid (FU (ai rs) oa ob r c d s=false):=by show _=_;unfold FU;rw[hd5];rfl
  go_wp2;go_ret;exact⟨by rw[HN.out];rfl,HB1.out⟩
 have HN:Hid (FU (ai rs) oa ob r c d s=uR (ai rs) oa ob r c d s):=by show _=_;unfold FU;rw[hd5];rfl
 go_wp2_with fail;refine(De ad cap rs oa ob r c d s _ hlen (HS.out.below HB1.out) HL.out ha hb hr hc hd hz).mono ?_;rintro e w2 ⟨rfl,hb2⟩;have HB2:=jr HB1 hb2;clear hb2;go_wp2;go_ret;exact⟨by rw[HN.out];rfl,HB2.out⟩
set_option linter.unusedVariables false
set_option maxRecDepth 100000
theorem jq.only{wc wd:ag}{R base:Nat}{v:Value}{rs:Q06}(h:jq wc base v rs)(hR:R<base)(ho:Only R wc wd):jq wd base v rs :=
 h.heap nZ ho.size fun g hg=>ho.block g (h.lt nZ hg).2 (fun e=>by injection e with e;have:=(h.lt nZ hg).1;omega)
theorem jq.slT{w:ag}{R base cap:Nat}{Zp:Q02}{rs:Q06}(h:jq w base (.slice Zp rs.length cap) rs)(hR:R<base):∀W,Only R w W->kI W Zp rs:=fun W hO=>by
 obtain⟨Y8,cap',e,hs,-⟩:=(h.only hR hO).read;injection e with e1 e2 e3;subst e1;exact hs
def TF(w:World)(n:Nat)(a b r c d s:ByteArray):Prop:=w.cell? ⟨n,0,none⟩=some (.string a)/\w.cell? ⟨n,1,none⟩=some (.string b)/\w.cell? ⟨n,2,none⟩=some (.string r)/\w.cell? ⟨n,3,none⟩=some (.string c)/\w.cell? ⟨n,4,none⟩=some (.string d)/\w.cell? ⟨n,5,none⟩=some (.string s)
theorem TF.same{w w':ag}{n:Nat}{a b r c d s:ByteArray}(h:TF w n a b r c d s)(hk:∀o,w'.cell? ⟨n,o,none⟩=w.cell? ⟨n,o,none⟩):TF w' n a b r c d s :=
 ⟨(hk _).trans h.1,(hk _).trans h.2.1,(hk _).trans h.2.2.1,(hk _).trans h.2.2.2.1,(hk _).trans h.2.2.2.2.1,(hk _).trans h.2.2.2.2.2⟩
theorem H6{w w':ag}{base g c n:Nat}{xs:Q03}(h:w.ownsRow base 29 6 (.slice (some ⟨g,0,none⟩) n c) n xs)(hb:ae w w'):w'.ownsRow base 29 6 (.slice (some ⟨g,0,none⟩) n c) n xs :=
 h.kept (row:=none) ⟨hb.os,hb.tape,hb.output,hb.size,fun i hi _=>hb.block i hi⟩ (.inr (by simp[Value.ownBlock]))
theorem MS(R:Nat)(ad:Q02)(len cap:Nat)(n:Nat)(w:ag)(h:Rd w R ad len cap)(h1:1<=n)(h2:n<=200000):
  Calls prog 90 #[.pointer (some ⟨R,0,none⟩),.int .i64 (n:Int)] w fun e w'=>(∃x:Nat,e=.returned (.int .i64 (x:Int))/\x<n)/\Rd w' R ad len cap/\Only R w w':=by
 by_cases hn:n<=256
 ·exact gM R ad len cap n w h h1 hn
 have H:=aK h;clear h;have hne:((n:Int)==0)=false:=by simp;omega
 have hn1:¬(n:Int)<=1:=by omega
 have hn2:¬(n:Int)<=256:=by omega
 go_enter func90,ntmps90;go_wp2_with fail;refine(wK R ad len cap _ H.out).mono ?_;rintro e w1 ⟨⟨x,rfl,hx0,hx1⟩,Zr,Zx⟩;have HR:=aK Zr;have HO:=aK Zx;have hw1:IntKind.i64.wrap (x*256)=x*256:=by rw[IntKind.wrap_i64];omega
 clear Zr Zx;go_wp2_with fail;refine(wK R ad len cap _ HR.out).mono ?_;rintro e w2 ⟨⟨y,rfl,hy0,hy1⟩,hR2,hO2⟩;have HR2:=aK hR2;have YZ:Hid (Only R w w2):=HO.out.trans hO2;have hw2:IntKind.i64.wrap (x*256+y)=x*256+y:=by rw[IntKind.wrap_i64];omega
 obtain⟨z,hz⟩:∃z:Nat,(x*256+y)=(z:Int):=⟨(x*256+y).toNat,by omega⟩;have HZ:Hid ((x*256+y)%(n:Int)=((z%n:Nat):Int)):=by show _=_;rw[hz];exact(Int.natCast_emod z n).symm
 clear hR2 hO2 hz;go_wp2;go_ret;exact⟨⟨z%n,by rw[<-HZ.out];rfl,Nat.mod_lt _ (by omega)⟩,HR2.out,YZ.out⟩
theorem El(R:Nat)(ad:Q02)(len cap:Nat)(Zp:Q02)(Zt base:Nat)(rs:Q06)(w:ag)(h:Rd w R ad len cap)(hRb:R<base)(hT:jq w base (.slice Zp rs.length Zt) rs)(hG:GoodS rs):
  Calls prog 109 #[.pointer (some ⟨R,0,none⟩),.slice Zp rs.length Zt,.int .i64 12] w fun e w'=>(∃(g c:Nat) (ts:Q05),e=.returned (.slice (some ⟨g,0,none⟩) ts.length c)/\ts.length<=12/\sN ts/\w'.ownsRow w.heap.size 29 6 (.slice (some ⟨g,0,none⟩) ts.length c) ts.length (bZ ts))/\Rd w' R ad len cap/\Only R w w':=by
 have hRw:=h.lt;have HS:Hid (∀W,Only R w W->kI W Zp rs):=hT.slT hRb;obtain⟨hG1,hG2,hG3⟩:=hG;have hlen:rs.length<=1048576:=by omega
 have HL:=dU hG2;have HF:=dU hG3;clear hG2 hG3 hT;obtain⟨W0,hW0⟩:=eQx (w.alloc (.cells #[] 29));have Zz:Hid (W0.ownsRow w.heap.size 29 6 (.slice (some ⟨w.heap.size,0,none⟩) 0 0) 0 (bZ [])):=by
  show World.ownsRow _ _ _ _ _ _ _;rw[hW0];exact World.ownsRow_lit w #[] 0 (XK _) (by unfold maxLen;omega) (by simp)
 have HR0:Hid (Rd W0 R ad len cap):=by show Rd _ _ _ _ _;rw[hW0];exact h.alloc _
 have HO0:Hid (Only R w W0):=by show Only _ _ _;rw[hW0];exact(Only.refl _ _).alloc _
 clear h;go_enter func109,ntmps109;go_wp2_with fail;rw[<-hW0];clear hW0;refine(df R ad len cap 13 _ HR0.out (by omega) (by omega)).mono ?_;rintro e w1 ⟨⟨x,rfl,hx0,hx1⟩,Zr,Zx⟩;have HR1:=dU Zr;have Zj:Hid (Only R w w1):=HO0.out.trans Zx;have HL1:Hid (w1.ownsRow w.heap.size 29 6 (.slice (some ⟨w.heap.size,0,none⟩) 0 0) 0 (bZ [])):=nR Zz.out hRw Zx;clear Zr Zx Zz HR0 HO0;go_wp2_with fail;go_loopw[7,8] (fun v i wr=>∃(k:Nat) (ts:Q05) (g c:Nat),i=.int .i64 k/\ts.length+k<=12/\v=.slice (some ⟨g,0,none⟩) ts.length c/\Hid (sN ts)/\Hid (wr.ownsRow w.heap.size 29 6 v ts.length (bZ ts))/\Hid (Rd wr R ad len cap)/\Hid (Only R w wr)) (fun _ i _=>(intOf i).toNat);case atStart=>exact⟨x.toNat,[],w.heap.size,0,by rw[Int.toNat_of_nonneg hx0],by simp;omega,rfl,Pn,HL1,HR1,Zj⟩
 clear HL1 HR1 Zj hx0 hx1;obtain⟨k,ts,g,c,rfl,hk,rfl,HSh,HOw,HR,HO⟩:=hrel;by_cases hk0:0<k
 ·have hk1:(0:Int)<(k:Int):=by omega
  go_wp2_with fail;refine(NU R ad len cap _ HR.out).mono ?_;rintro e w2 ⟨⟨a,b,r,c2,d,s,rfl,ha,hb,hr,hc,hd,hs⟩,hR2,hO2⟩;have HT:Hid (Tp.short ⟨a,b,r,c2,d,s⟩):=⟨ha,hb,hr,hc,hd,hs⟩;obtain⟨f1,f2,f3,f4,f5,f6⟩:=HT.out.fits;obtain⟨W2,hW2⟩:=eQx (w2.alloc (.cells #[.string a,.string b,.string r,.string c2,.string d,.string s] 29));have HR2:Hid (Rd W2 R ad len cap):=by show Rd _ _ _ _ _;rw[hW2];exact hR2.alloc _
  have YZ:Hid (Only R w W2):=by show Only _ _ _;rw[hW2];exact(HO.out.trans hO2).alloc _
  have HOw2:Hid (W2.ownsRow w.heap.size 29 6 (.slice (some ⟨g,0,none⟩) ts.length c) ts.length (bZ ts)):=by show World.ownsRow _ _ _ _ _ _ _;rw[hW2];exact(nR HOw.out hRw hO2).alloc _
  have hz2:w2.heap.size<W2.heap.size:=by rw[hW2];simp
  have hnR:w2.heap.size≠R:=by have:=hR2.lt;omega
  have HC:Hid (TF W2 w2.heap.size a b r c2 d s):=by
   show TF _ _ _ _ _ _ _ _;rw[hW2];refine⟨?_,?_,?_,?_,?_,?_⟩<;>simp
  clear ha hb hr hc hd hs hR2 hO2 HR HO HOw;go_wp2_with fail;rw[<-hW2];clear hW2;refine(Hz Zp Zt rs _ _ _ _ _ _ _ hlen (HS.out _ YZ.out) HL.out HF.out f1 f2 f3 f4 f5 f6).mono ?_;rintro e w3 ⟨rfl,hb3⟩;have HR3:=aK (HR2.out.below hb3);have Zq:=aK (YZ.out.below hb3);have HOw3:=dU (H6 HOw2.out hb3);have HC3:=dU (HC.out.same fun o=>hb3.cell (p:=⟨_,o,none⟩) hz2);have hz3:=XJ hz2 hb3.size;clear hb3 HR2 YZ HOw2 HC hz2;cases hq:FU (ai rs) a b r c2 d s;case true=>
   obtain⟨c0,c1,c2',c3,c4,c5⟩:=HC3.out;clear hq;have HA:=dU (uO g 0 c ts ⟨a,b,r,c2,d,s⟩ w3 (by omega) (oH HOw3.out rfl).2.2.1 (oH HOw3.out rfl).1 (oH HOw3.out rfl).2.1 HSh.out.fits HT.out.fits);go_wp2_with fail;refine HA.out.mono ?_;rintro e w5 ⟨v5,rfl,hown5,hb5⟩;have Zu:=aK (HR3.out.below hb5);have Ze:=aK (Zq.out.below hb5);clear c0 c1 c2' c3 c4 c5;cases hz:uD ts ⟨a,b,r,c2,d,s⟩;case true=>
    rw[Dc hz,ul]at hown5;obtain⟨g3,c3,rfl⟩:=uP hown5;have HOw5:Hid (w5.ownsRow w.heap.size 29 6 (.slice (some ⟨g3,0,none⟩) (ts.length+1) c3) (ts.length+1) (bZ (kG ts ⟨a,b,r,c2,d,s⟩))):=bW hown5 Zq.out.size;have HSh5:Hid (sN (kG ts ⟨a,b,r,c2,d,s⟩)):=HSh.out.put HT.out;have HLP:=dU (ul ts ⟨a,b,r,c2,d,s⟩);have HQ:=dU hz;clear hown5 hb5 hz HA HOw3 HR3 Zq;go_wp2;go_roundw;case rel=>exact⟨k-1,kG ts ⟨a,b,r,c2,d,s⟩,g3,c3,by rw[show((k-1:Nat):Int)=(k:Int)-1 by omega],by rw[HLP.out];omega,by rw[HLP.out],HSh5,by rw[HLP.out];exact HOw5,Zu,Ze⟩
    simp[intOf];omega
   have HOw5:=dU (H6 HOw3.out hb5);rw[uk hz]at hown5;obtain⟨ad5,cap5,hv5,-,-⟩:=QT (ts:=[]) hown5 rfl;subst hv5;have HQ:=dU hz;clear hown5 hb5 hz HA HOw3 HR3 Zq;go_wp2;go_roundw;case rel=>exact⟨k-1,ts,g,c,by rw[show((k-1:Nat):Int)=(k:Int)-1 by omega],by omega,rfl,HSh,HOw5,Zu,Ze⟩
   simp[intOf];omega
  clear hq;go_wp2_with fail;refine(jA R ad len cap 60 _ HR3.out (by omega) (by omega)).mono ?_;rintro e w4 ⟨⟨q,rfl⟩,hR4,hO4⟩;have HR4:=dU hR4;have Zg:Hid (Only R w w4):=Zq.out.trans hO4;have HOw4:=dU (nR HOw3.out hRw hO4);have HC4:=dU (HC3.out.same fun o=>hO4.cell (b:=w2.heap.size) (o:=o) hz3 hnR);clear hR4 hO4 HR3 Zq HOw3 HC3;cases q;case true=>
   obtain⟨c0,c1,c2',c3,c4,c5⟩:=HC4.out;have HA:=dU (uO g 0 c ts ⟨a,b,r,c2,d,s⟩ w4 (by omega) (oH HOw4.out rfl).2.2.1 (oH HOw4.out rfl).1 (oH HOw4.out rfl).2.1 HSh.out.fits HT.out.fits);go_wp2_with fail;refine HA.out.mono ?_;rintro e w5 ⟨v5,rfl,hown5,hb5⟩;have Zu:=aK (HR4.out.below hb5);have Ze:=aK (Zg.out.below hb5);clear c0 c1 c2' c3 c4 c5;cases hz:uD ts ⟨a,b,r,c2,d,s⟩;case true=>
    rw[Dc hz,ul]at hown5;obtain⟨g3,c3,rfl⟩:=uP hown5;have HOw5:Hid (w5.ownsRow w.heap.size 29 6 (.slice (some ⟨g3,0,none⟩) (ts.length+1) c3) (ts.length+1) (bZ (kG ts ⟨a,b,r,c2,d,s⟩))):=bW hown5 Zg.out.size;have HSh5:Hid (sN (kG ts ⟨a,b,r,c2,d,s⟩)):=HSh.out.put HT.out;have HLP:=dU (ul ts ⟨a,b,r,c2,d,s⟩);have HQ:=dU hz;clear hown5 hb5 hz HA HOw4 HR4 Zg;go_wp2;go_roundw;case rel=>exact⟨k-1,kG ts ⟨a,b,r,c2,d,s⟩,g3,c3,by rw[show((k-1:Nat):Int)=(k:Int)-1 by omega],by rw[HLP.out];omega,by rw[HLP.out],HSh5,by rw[HLP.out];exact HOw5,Zu,Ze⟩
    simp[intOf];omega
   have HOw5:=dU (H6 HOw4.out hb5);rw[uk hz]at hown5;obtain⟨ad5,cap5,hv5,-,-⟩:=QT (ts:=[]) hown5 rfl;subst hv5;have HQ:=dU hz;clear hown5 hb5 hz HA HOw4 HR4 Zg;go_wp2;go_roundw;case rel=>exact⟨k-1,ts,g,c,by rw[show((k-1:Nat):Int)=(k:Int)-1 by omega],by omega,rfl,HSh,HOw5,Zu,Ze⟩
   simp[intOf];omega
  go_wp2;go_roundw;case rel=>exact⟨k-1,ts,g,c,by rw[show((k-1:Nat):Int)=(k:Int)-1 by omega],by omega,rfl,HSh,HOw4,HR4,Zg⟩
  simp[intOf];omega
 obtain rfl:k=0:=by omega
 go_wp2;go_ret;exact⟨⟨g,c,ts,rfl,by omega,HSh.out,HOw.out⟩,HR.out,HO.out⟩
theorem Fc.short.fits{f:Fc}(h:f.short):f.fits:=by unfold Fc.short at h;unfold Fc.fits maxLen;omega
def Ve(w:World)(e:Ending)(w':World):Prop:=∃(v:Value) (rs:Q06) (g c:Nat) (ts:Q05) (f:Fc),e=.returned (.tuple #[v,.slice (some ⟨g,0,none⟩) ts.length c,.agg #[.string f.a,.string f.b,.string f.r,.string f.c,.string f.d]])/\jq w' w.heap.size v rs/\GoodS rs/\ts.length<=12/\sN ts/\f.fits/\w'.ownsRow w.heap.size 29 6 (.slice (some ⟨g,0,none⟩) ts.length c) ts.length (bZ ts)/\ae w w'
def Vf(w:World)(R n:Nat):Prop:=n≠R/\n<w.heap.size/\(∀o,w.frozen? ⟨n,o,none⟩=false)/\∀j,j<5->∃u,w.cell? ⟨n,j,none⟩=some u
theorem Vf.only{w w':ag}{R n:Nat}(h:Vf w R n)(hO:Only R w w'):Vf w' R n:=by
 obtain⟨h1,h2,h3,h4⟩:=h;exact⟨h1,XJ h2 hO.size,fun o=>(hO.frozen (o:=o) h2 h1).trans (h3 o),fun j hj=>by obtain⟨u,hu⟩:=h4 j hj;exact⟨u,(hO.cell (b:=n) (o:=j) h2 h1).trans hu⟩⟩
theorem jV{w:ag}{n i j:Nat}{v:Value}(h:i≠j):(w.setCell ⟨n,i,none⟩ v).cell? ⟨n,j,none⟩=w.cell? ⟨n,j,none⟩:=by
 apply World.cell?_setCell_other;intro e;exact h (congrArg Addr.off e)
theorem Vf.set{w:ag}{R n:Nat}(h:Vf w R n)(v0 v1 v2 v3 v4:Value)(W:ag)(hW:W=((((w.setCell ⟨n,0,none⟩ v0).setCell ⟨n,1,none⟩ v1).setCell ⟨n,2,none⟩ v2).setCell ⟨n,3,none⟩ v3).setCell ⟨n,4,none⟩ v4):W.cell? ⟨n,0,none⟩=some v0/\W.cell? ⟨n,1,none⟩=some v1/\W.cell? ⟨n,2,none⟩=some v2/\W.cell? ⟨n,3,none⟩=some v3/\W.cell? ⟨n,4,none⟩=some v4/\Only n w W:=by
 obtain⟨-,-,-,h4⟩:=h;obtain⟨u0,c0⟩:=h4 0 (by omega);obtain⟨u1,c1⟩:=h4 1 (by omega);obtain⟨u2,c2⟩:=h4 2 (by omega);obtain⟨u3,c3⟩:=h4 3 (by omega);obtain⟨u4,c4⟩:=h4 4 (by omega);subst hW;refine⟨?_,?_,?_,?_,?_,((((Only.refl n w).set 0 v0).set 1 v1).set 2 v2).set 3 v3 |>.set 4 v4⟩
 ·rw[jV (by omega),jV (by omega),jV (by omega),jV (by omega)];exact World.cell?_setCell_same _ _ _ c0
 ·rw[jV (by omega),jV (by omega),jV (by omega)];exact World.cell?_setCell_same (u:=u1) _ _ _ (by rw[jV (by omega)];exact c1)
 ·rw[jV (by omega),jV (by omega)];exact World.cell?_setCell_same (u:=u2) _ _ _ (by rw[jV (by omega),jV (by omega)];exact c2)
 ·rw[jV (by omega)];exact World.cell?_setCell_same (u:=u3) _ _ _ (by rw[jV (by omega),jV (by omega),jV (by omega)];exact c3)
 exact World.cell?_setCell_same (u:=u4) _ _ _ (by rw[jV (by omega),jV (by omega),jV (by omega),jV (by omega)];exact c4)
theorem Em[DecidableEq Fc](ad:Q02)(len cap:Nat)(w:ag)(h:Bytes w ad len):
  Calls prog 67 #[.slice ad len cap] w (Ve w):=by
 have H:=aK h;clear h;obtain⟨W0,hW0⟩:=eQx (w.alloc (.cells #[.string ⟨#[]⟩,.string ⟨#[]⟩,.string ⟨#[]⟩,.string ⟨#[]⟩,.string ⟨#[]⟩] 52));have HB0:=lX hW0;have HZ0:Hid (W0.heap.size=w.heap.size+1):=by show _=_;rw[hW0];simp
 have HS0:Hid (Vf W0 (w.heap.size+1) w.heap.size):=by
  show Vf _ _ _;rw[hW0];refine⟨by omega,by simp,fun o=>by simp,fun j hj=>?_⟩;have hc:j=0\/j=1\/j=2\/j=3\/j=4:=by omega
  rcases hc with rfl|rfl|rfl|rfl|rfl<;>exact⟨_,by simp;rfl⟩
 go_enter func67,ntmps67;go_wp2_with fail;rw[<-hW0];clear hW0;refine(QH ad len cap _ (H.out.below HB0.out)).mono ?_;rintro e w1 ⟨rfl,Zr,hb1⟩;rw[HZ0.out]at Zr ⊢;obtain⟨R,hRR⟩:=eQx (w.heap.size+1);rw[<-hRR]at Zr HS0 ⊢;have HB1:=jr HB0 hb1;have HR1:=aK Zr;have HS1:=dU (HS0.out.only (Only.of_below hb1));have hRn:w.heap.size<R:=by omega
 clear Zr hb1 HS0 HB0 HZ0 hRR;go_wp2_with fail;refine(Mx R ad len cap _ HR1.out).mono ?_;rintro e w2 ⟨v,rs,rfl,hT2,hG,hR2,hO2⟩;have hb:=HR1.out.lt;obtain⟨Zp,Zt,rfl,-,-⟩:=hT2.read;have HR2:=aK hR2;have HB2:Hid (ae w w2):=Only.toBelow HB1.out hO2 HB1.out.size (by omega);have HT2:=aK hT2;have HG:Hid (GoodS rs):=hG;have HS2:=dU (HS1.out.only hO2);clear hT2 hG hR2 hO2 HB1 HR1 HS1;go_wp2_with fail;refine(El R ad len cap Zp Zt w1.heap.size rs _ HR2.out hb HT2.out HG.out).mono ?_;rintro e w3 ⟨⟨g,c,ts,rfl,hl9,hsh,hown⟩,hR3,hO3⟩;have HB3:Hid (ae w w3):=Only.toBelow HB2.out hO3 HB2.out.size (by omega);have HT3:Hid (jq w3 w1.heap.size (.slice Zp rs.length Zt) rs):=HT2.out.only hb hO3;have hw:w.heap.size<=w1.heap.size:=by omega
 have hs2:R<w2.heap.size:=HR2.out.lt;obtain⟨hrow,hg,-,hbg⟩:=oH hown rfl;have HO:=aK hown;have HS3:=dU (HS2.out.only hO3);have HR3:=dU hR3;obtain⟨st,hle⟩:=Vs (ai rs);obtain⟨adQ,capQ,eQ,hsl,hcp⟩:=HT3.out.read;injection eQ with e1 e2 e3;subst e1;have Zd:=dU (zW (st:=st) HG.out.2.2 hsh.fits);have HFQ:=dU (Ej st Zp Zt rs (some ⟨g,0,none⟩) c ts w3 (by have:=HG.out.1;omega) hsl HG.out.2.1 HG.out.2.2 (by omega) (.inr ⟨g,0,rfl,hg,hrow⟩) hsh.fits hle);have HSH:=dU hsh;have hLl:=jJ st (rs:=rs) (ts:=ts);clear hR3 hO3 HR2 HB2 HT2 HS2 hown hrow hg hbg hsh hsl hcp e2 e3 hle;go_wp2_with fail;refine HFQ.out.mono ?_;rintro e w4 ⟨⟨vf,rfl,hof⟩,hb4⟩;have hlf:(lc st rs ts).length<=115200:=by rw[MP];exact hLl
 obtain⟨ZG,Za,rfl,hSF⟩:=gV hof;have Z7:=jr HB3 hb4;have HT4:Hid (jq w4 w1.heap.size (.slice Zp rs.length Zt) rs):=Zi.below nZ HT3.out hb4;have HR4:=aK (HR3.out.below hb4);have HS4:=dU (HS3.out.only (Only.of_below hb4));have Zg:Hid (w4.ownsRow w2.heap.size 29 6 (.slice (some ⟨g,0,none⟩) ts.length c) ts.length (bZ ts)):=nR HO.out hs2 (Only.of_below hb4);have hR4s:R<w3.heap.size:=HR3.out.lt;have HOF:=dU hof;have HSF:=dU hSF;have hn1:w.heap.size<w1.heap.size:=by omega
 have hn2:w.heap.size<w2.heap.size:=by omega
 clear hb4 hof hSF HFQ HB3 HT3 HR3 HS3 HO;obtain⟨n,hn⟩:=eQx ((lc st rs ts).length);have HNN:=dU hn;have hn5:n<=115200:=by omega
 -- a fact that was drawn,of whatever kind
 have ZK:Hid (∀(wc:World) (f:Fc),Only R w4 wc->f.fits->∀W5,W5=((((wc.setCell ⟨w.heap.size,0,none⟩ (.string f.a)).setCell ⟨w.heap.size,1,none⟩ (.string f.b)).setCell ⟨w.heap.size,2,none⟩ (.string f.r)).setCell ⟨w.heap.size,3,none⟩ (.string f.c)).setCell ⟨w.heap.size,4,none⟩ (.string f.d)->Ve w (.returned (.tuple #[.slice Zp rs.length Zt,.slice (some ⟨g,0,none⟩) ts.length c,.agg #[.string f.a,.string f.b,.string f.r,.string f.c,.string f.d]])) W5):=by
  intro wc f hO hf W5 ZZ;obtain⟨-,-,-,-,-,ZE⟩:=(HS4.out.only hO).set _ _ _ _ _ W5 ZZ;have hBc:ae w wc:=Only.toBelow Z7.out hO Z7.out.size (by omega);exact⟨_,rs,g,c,ts,f,rfl,Zi.lower ((HT4.out.only hb hO).only hn1 ZE) hw,HG.out,hl9,HSH.out,hf,bW (nR (nR Zg.out hs2 hO) hn2 ZE) (YV hn2),Only.toBelow hBc ZE hBc.size (XK _)⟩
 have HDRAW:Hid (∀wc,Only R w4 wc->Rd wc R ad len cap->Calls prog 152 #[.pointer (some ⟨R,0,none⟩)] wc fun e w'=>(∃f:Fc,e=.returned (.agg #[.string f.a,.string f.b,.string f.r,.string f.c,.string f.d])/\f.short)/\Rd w' R ad len cap/\Only R wc w'):=fun wc _ hR=>Tg R ad len cap wc hR;by_cases hz:n=0
 ·have hd1:decide ((0:Int)<(n:Int))=false:=by simp;omega
  have hd2:decide (0<n)=false:=by simp;omega
  rw[<-hn];clear hn;go_wp2_with fail;refine(HDRAW.out _ (Only.refl R w4) HR4.out).mono ?_;rintro e w6 ⟨⟨f,rfl,hsf⟩,-,hO6⟩;have HFF:=dU hsf.fits;have ZI:=dU (Only.trans (Only.refl R w4) hO6);clear hsf hO6;obtain⟨W5,ZZ⟩:=eQx (((((w6.setCell ⟨w.heap.size,0,none⟩ (.string f.a)).setCell ⟨w.heap.size,1,none⟩ (.string f.b)).setCell ⟨w.heap.size,2,none⟩ (.string f.r)).setCell ⟨w.heap.size,3,none⟩ (.string f.c)).setCell ⟨w.heap.size,4,none⟩ (.string f.d));have hS6:=HS4.out.only (ZI.out);have Zu:=dU (ZK.out w6 f (ZI.out) HFF.out W5 ZZ);have HC5:=dU (hS6.set _ _ _ _ _ W5 ZZ);obtain⟨s1,s2,s3,s4⟩:=hS6;obtain⟨u0,k0⟩:=s4 0 (by omega);obtain⟨u1,k1⟩:=s4 1 (by omega);obtain⟨u2,k2⟩:=s4 2 (by omega);obtain⟨u3,k3⟩:=s4 3 (by omega);obtain⟨u4,k4⟩:=s4 4 (by omega);clear s4;go_wp2;rw[<-ZZ];clear ZZ k0 k1 k2 k3 k4 s2 s3;obtain⟨c0,c1,c2,c3,c4,-⟩:=HC5.out;exact bodyPost_ret (v:=.tuple #[.slice Zp rs.length Zt,.slice (some ⟨g,0,none⟩) ts.length c,.agg #[.string f.a,.string f.b,.string f.r,.string f.c,.string f.d]]) (by simp[results,Tryz.results67,go_sem, *]) rfl Zu.out
 have hd1:decide ((0:Int)<(n:Int))=true:=by simp;omega
 have hd2:decide (0<n)=true:=by simp;omega
 rw[<-hn];clear hn;go_wp2_with fail;refine(jA R ad len cap 2 _ HR4.out (by omega) (by omega)).mono ?_;rintro e w5 ⟨⟨q,rfl⟩,ZB,ZE⟩;have Zu:=dU ZB;have Ze:=dU ZE;clear ZB ZE;cases q;case false=>
  go_wp2_with fail;refine(HDRAW.out _ (Ze.out) Zu.out).mono ?_;rintro e w6 ⟨⟨f,rfl,hsf⟩,-,hO6⟩;have HFF:=dU hsf.fits;have ZI:=dU (Only.trans (Ze.out) hO6);clear hsf hO6;obtain⟨W5,ZZ⟩:=eQx (((((w6.setCell ⟨w.heap.size,0,none⟩ (.string f.a)).setCell ⟨w.heap.size,1,none⟩ (.string f.b)).setCell ⟨w.heap.size,2,none⟩ (.string f.r)).setCell ⟨w.heap.size,3,none⟩ (.string f.c)).setCell ⟨w.heap.size,4,none⟩ (.string f.d));have hS6:=HS4.out.only (ZI.out);have Zu:=dU (ZK.out w6 f (ZI.out) HFF.out W5 ZZ);have HC5:=dU (hS6.set _ _ _ _ _ W5 ZZ);obtain⟨s1,s2,s3,s4⟩:=hS6;obtain⟨u0,k0⟩:=s4 0 (by omega);obtain⟨u1,k1⟩:=s4 1 (by omega);obtain⟨u2,k2⟩:=s4 2 (by omega);obtain⟨u3,k3⟩:=s4 3 (by omega);obtain⟨u4,k4⟩:=s4 4 (by omega);clear s4;go_wp2;rw[<-ZZ];clear ZZ k0 k1 k2 k3 k4 s2 s3;obtain⟨c0,c1,c2,c3,c4,-⟩:=HC5.out;exact bodyPost_ret (v:=.tuple #[.slice Zp rs.length Zt,.slice (some ⟨g,0,none⟩) ts.length c,.agg #[.string f.a,.string f.b,.string f.r,.string f.c,.string f.d]]) (by simp[results,Tryz.results67,go_sem, *]) rfl Zu.out
 have HR6:=dU (Zu.out.below (XL _ _).drew);have ZI:=dU (Ze.out.trans (Only.of_below (XL w5.heap.size w5).drew));have HB6:=dU (MS R ad len cap n w5.drew HR6.out (by omega) (by omega));go_wp2_with fail;refine wp_region_held_drew (S:=fun _=>True) (by kernel_rfl) trivial (fun hHeld=>?_);refine tk 0 26 ?_;go_frame;refine tk 1 27 ?_;go_frame;refine tk 2 28 ?_;go_frame;refine tk 3 29 ?_;go_frame;refine tk 4 30 ?_;go_frame;refine tk 5 31 ?_;go_frame;refine wpAnyH_ready (rs:=[6]) (by kernel_rfl) (by simp) ?_;refine AllReadyH.cons rfl (fun K hK=>?_) AllReadyH.nil;go_simp;refine HB6.out.mono ?_;rintro e w7 ⟨⟨x,rfl,hx⟩,-,hO7⟩;have HO7:=dU (ZI.out.trans hO7);go_wp2_with fail;refine hK.out _ _ trivial (fun _=>?_);clear hK K;have hxl:x<(lc st rs ts).length:=by have:=HNN.out;omega
 have h7:=HOF.out.kept HO7.out (.inr fun e=>by have:=(HOF.out.lt R e).1;omega);obtain⟨adX,capX,eX,hS7⟩:=gV h7;injection eX with e1 e2 e3;subst e1;rcases hS7 with hnil|⟨b,off,rfl,hbl,hrow⟩
 ·rw[hnil]at hxl;simp at hxl
 obtain⟨f,hf⟩:=eQx ((lc st rs ts)[x]);have t5:=hrow x hxl;rw[<-hf]at t5;obtain⟨t0,t1,t2,t3,t4⟩:=t5;have HFF:Hid f.fits:=by show f.fits;rw[hf];exact Zd.out _ ((nk _).mem_iff.1 (XI hxl))
 have hx1:=bG x;have hx2:(x:Int)<(n:Int):=by omega
 clear hf hrow hbl h7 e2 e3 hO7 hxl;refine tk 7 33 ?_;go_frame;refine tk 9 2 ?_;go_frame;refine tk 10 3 ?_;go_frame;refine wpAnyH_ready (rs:=[8]) (by kernel_rfl) (by simp) ?_;refine AllReadyH.cons rfl (fun K hK=>?_) AllReadyH.nil;go_simp;refine hK.out _ _ trivial (fun _=>?_);clear hK K;obtain⟨W5,ZZ⟩:=eQx (((((w7.setCell ⟨w.heap.size,0,none⟩ (.string f.a)).setCell ⟨w.heap.size,1,none⟩ (.string f.b)).setCell ⟨w.heap.size,2,none⟩ (.string f.r)).setCell ⟨w.heap.size,3,none⟩ (.string f.c)).setCell ⟨w.heap.size,4,none⟩ (.string f.d));have hS6:=HS4.out.only (HO7.out);have Zu:=dU (ZK.out w7 f (HO7.out) HFF.out W5 ZZ);have HC5:=dU (hS6.set _ _ _ _ _ W5 ZZ);obtain⟨s1,s2,s3,s4⟩:=hS6;obtain⟨u0,k0⟩:=s4 0 (by omega);obtain⟨u1,k1⟩:=s4 1 (by omega);obtain⟨u2,k2⟩:=s4 2 (by omega);obtain⟨u3,k3⟩:=s4 3 (by omega);obtain⟨u4,k4⟩:=s4 4 (by omega);clear s4;refine wpAnyH_ready (rs:=[11]) (by kernel_rfl) (by simp) ?_;refine AllReadyH.cons rfl (fun K hK=>?_) AllReadyH.nil;go_simp;rw[<-ZZ];clear ZZ k0 k1 k2 k3 k4 s2 s3;obtain⟨c0,c1,c2,c3,c4,-⟩:=HC5.out;refine hK.out _ _ trivial (fun _=>?_);clear hK K;refine wpAnyH_done (by kernel_rfl) ?_ _;go_wp2;exact bodyPost_ret (v:=.tuple #[.slice Zp rs.length Zt,.slice (some ⟨g,0,none⟩) ts.length c,.agg #[.string f.a,.string f.b,.string f.r,.string f.c,.string f.d]]) (by simp[results,Tryz.results67,go_sem, *]) rfl Zu.out
theorem Au[DecidableEq Fc](ad:Q02)(len cap:Nat)(w:ag)(h:Bytes w ad len):
  Calls prog 17 #[.slice ad len cap] w (Ve w):=by
 obtain⟨W0,hW0⟩:=eQx (w.alloc (.cells #[.string ⟨#[]⟩,.string ⟨#[]⟩,.string ⟨#[]⟩,.string ⟨#[]⟩,.string ⟨#[]⟩] 52));have HB0:=lX hW0;have hz0:w.heap.size<W0.heap.size:=by rw[hW0];simp
 have HD:=dU (Em ad len cap W0 (h.below HB0.out));have HS0:Hid (Vf W0 (w.heap.size+1) w.heap.size):=by
  show Vf _ _ _;rw[hW0];refine⟨by omega,by simp,fun o=>by simp,fun j hj=>?_⟩;have hc:j=0\/j=1\/j=2\/j=3\/j=4:=by omega
  rcases hc with rfl|rfl|rfl|rfl|rfl<;>exact⟨_,by simp;rfl⟩
 clear h;go_enter func17,ntmps17;go_wp2_with fail;rw[<-hW0];clear hW0;refine HD.out.mono ?_;rintro e w2 ⟨v,rs,g,c,ts,f,rfl,hT,hG,hl,hsh,hf,hown,hb2⟩;obtain⟨Zp,Zt,rfl,-,-⟩:=hT.read;have HB2:=jr HB0 hb2;have hS2:=HS0.out.only (Only.of_below hb2);obtain⟨W5,ZZ⟩:=eQx (((((w2.setCell ⟨w.heap.size,0,none⟩ (.string f.a)).setCell ⟨w.heap.size,1,none⟩ (.string f.b)).setCell ⟨w.heap.size,2,none⟩ (.string f.r)).setCell ⟨w.heap.size,3,none⟩ (.string f.c)).setCell ⟨w.heap.size,4,none⟩ (.string f.d));have HC5:=dU (hS2.set _ _ _ _ _ W5 ZZ);have Zu:Hid (Ve w (.returned (.tuple #[.slice Zp rs.length Zt,.slice (some ⟨g,0,none⟩) ts.length c,.agg #[.string f.a,.string f.b,.string f.r,.string f.c,.string f.d]])) W5):=by
  obtain⟨-,-,-,-,-,ZE⟩:=HC5.out;exact⟨_,rs,g,c,ts,f,rfl,Zi.lower (hT.only hz0 ZE) (YV hz0),hG,hl,hsh,hf,bW (nR hown hz0 ZE) (YV hz0),Only.toBelow HB2.out ZE HB2.out.size (XK _)⟩
 obtain⟨s1,s2,s3,s4⟩:=hS2;obtain⟨u0,k0⟩:=s4 0 (by omega);obtain⟨u1,k1⟩:=s4 1 (by omega);obtain⟨u2,k2⟩:=s4 2 (by omega);obtain⟨u3,k3⟩:=s4 3 (by omega);obtain⟨u4,k4⟩:=s4 4 (by omega);clear s4 hT hG hl hsh hf hown hb2 HB2 HD HS0 HB0;go_wp2;rw[<-ZZ];clear ZZ k0 k1 k2 k3 k4 s2 s3;obtain⟨c0,c1,c2,c3,c4,-⟩:=HC5.out;exact bodyPost_ret (v:=.tuple #[.slice Zp rs.length Zt,.slice (some ⟨g,0,none⟩) ts.length c,.agg #[.string f.a,.string f.b,.string f.r,.string f.c,.string f.d]]) (by simp[results,Tryz.results17,go_sem, *]) rfl Zu.out
set_option linter.unusedSectionVars false
section
variable  [DecidableEq Fc]
def zi(st:Q00)(rs:Q06)(ts:Q05)(f:Fc):Bool:=aR (aA st rs ts) f
def qV(st:Q00)(rs:Q06)(ts:Q05)(f:Fc):List Fc:=if aR (aA st rs ts) f then kD rs ts (aA st rs ts) f (idx (aA st rs ts) f) else []
theorem zk{st:Q00}{rs:Q06}{ts:Q05}{f:Fc}(h:aR (aA st rs ts) f=false):zi st rs ts f=false/\qV st rs ts f=[]:=by
 unfold zi qV;rw[h];exact⟨rfl,rfl⟩
theorem uu{st:Q00}{rs:Q06}{ts:Q05}{f:Fc}{k:Nat}(hk:k<(aA st rs ts).length)(h:(aA st rs ts)[k]=f):zi st rs ts f=true/\qV st rs ts f=kD rs ts (aA st rs ts) f k:=by
 have h1:aR (aA st rs ts) f=true:=aU.2 (h ▸ XI hk);have h2:idx (aA st rs ts) f=k:=by rw[<-h];exact jf _ x9 k hk
 unfold zi qV;rw[h1,h2];exact⟨rfl,rfl⟩
theorem J7(st:Q00)(ad:Q02)(cap:Nat)(rs:Q06)(Y8:Q02)(cap':Nat)(ts:Q05)(f:Fc)(w:ag)(hlen:rs.length<=1048576)(hs:kI w ad rs)(hl:∀r∈rs,r.light)(hfr:∀r∈rs,r.fits)(hlt:ts.length<=1048576)(hst:Sl w Y8 ts)(hft:∀x∈ts,x.fits)(hle:aN (ai rs)=true->Least (ai rs) st):
  Calls prog 19 #[.slice ad rs.length cap,.slice Y8 ts.length cap',.agg #[.string f.a,.string f.b,.string f.r,.string f.c,.string f.d]] w fun e w'=>∃ad5 cap5,e=.returned (.tuple #[.slice ad5 (qV st rs ts f).length cap5,.bool (zi st rs ts f)])/\jX w' ad5 (qV st rs ts f)/\ae w w' :=
 (Ap st ad cap rs Y8 cap' ts f w hlen hs hl hfr hlt hst hft (qR hfr hft) hle).mono fun e w' ⟨h,hb⟩=>by
  rcases h with⟨h,he⟩|⟨k,hk,gP,capP,h1,h2,he,h3⟩
  ·rw[(zk h).1,(zk h).2];exact⟨none,0,he,.inl rfl,hb⟩
  rw[(uu hk h1).1,(uu hk h1).2];obtain⟨_,_,e2,h4⟩:=gV h3;injection e2 with e2;subst e2;exact⟨some ⟨gP,0,none⟩,capP,he,h4,hb⟩
def XD(st:Q00)(rs:Q06)(ts:Q05)(f:Fc)(w:World)(e:Ending)(w':World):Prop:=(∃v,e=.returned (.tuple #[v,.bool (zi st rs ts f)])/\w'.ownsRow w.heap.size 52 5 v (qV st rs ts f).length (av (qV st rs ts f)))/\ae w w'
theorem Av(st:Q00)(ad:Q02)(cap:Nat)(rs:Q06)(Y8:Q02)(cap':Nat)(ts:Q05)(f:Fc)(w:ag)(hlen:rs.length<=1048576)(hs:kI w ad rs)(hl:∀r∈rs,r.light)(hfr:∀r∈rs,r.fits)(hcp:∀r∈rs,r.caps)(hlt:ts.length<=1048576)(hst:Sl w Y8 ts)(hft:∀x∈ts,x.fits)(hle:aN (ai rs)=true->Least (ai rs) st):
  Calls prog 18 #[.slice ad rs.length cap,.slice Y8 ts.length cap',.agg #[.string f.a,.string f.b,.string f.r,.string f.c,.string f.d]] w (XD st rs ts f w):=by
 have hQl:=jJ st (rs:=rs) (ts:=ts);have HQF:=ah (qR (st:=st) hfr hft);have Zf:=ah (DC (st:=st) (ts:=ts) hle);obtain⟨W0,hW0⟩:=eQx (w.alloc (.cells #[.string f.a,.string f.b,.string f.r,.string f.c,.string f.d] 52));have hB0:ae w W0:=by rw[hW0];exact(XL _ _).alloc (XK _) _
 have Zv:Hid (kC W0 w.heap.size f):=by show kC _ _ _;rw[hW0];exact World.alloc_heap_new w _
 have HC:=ah (xZ st ad cap rs Y8 cap' ts W0 hlen (hs.below hB0) hl hfr hcp hlt (hst.below hB0) hft hle);have HS:=ah (hs.below hB0);have Zd:=ah hft;have HB0:=ah hB0;have ZQ:Hid (aQ (fU rs) rs ts=false->aA st rs ts=[]):=fun h=>fV h;clear hs hl hfr hcp hst hft hle hB0;go_enter func18,ntmps18;go_wp2_with fail;rw[<-hW0];clear hW0;refine HC.out.mono ?_;rintro e w1 ⟨hb1,⟨hr,rfl⟩|⟨hr,P,D,br,bp,bt,nr,np,n1,Mr,Er,Mp,vo,vu,ZG,Za,bK,nK,rfl,hPM,hDA,hcap⟩⟩
 ·have HB1:=ah (HB0.out.trans (hb1.mono HB0.out.size));have HR:Hid (XD st rs ts f w (.returned (.tuple #[.slice none 0 0,.bool false])) w1):=by
   have h0:aR (aA st rs ts) f=false:=by rw[ZQ.out hr];rfl
   refine⟨⟨.slice none 0 0,by rw[(zk h0).1],?_⟩,HB1.out⟩;rw[(zk h0).2];exact World.ownsRow_nil _ _ _ _
  clear hb1 hr HC;go_wp2;exact bodyPost_ret (v:=.tuple #[.slice none 0 0,.bool false]) (by simp[results,Tryz.results18,go_sem]) rfl HR.out
 have hsd:aN (ai rs)=true/\ts.length<=40:=by
  unfold aQ dW at hr;simp only[XN,XU]at hr;exact⟨hr.1.1,hr.1.2.1⟩
 have HSH:=ah (bf.1 hsd.1).1;have ht40:=hsd.2;obtain⟨Q,hQ⟩:=eQx (aA st rs ts);have HQN:Hid Q.Nodup:=by show Q.Nodup;rw[hQ];exact x9
 have HOK:Hid (∀x∈Q,okB x=true):=by show ∀x∈Q,okB x=true;rw[hQ];exact Dz
 have HYES:Hid (∀k (hk:k<Q.length),Q[k]=f->zi st rs ts f=true/\qV st rs ts f=kD rs ts Q f k):=by
  show ∀k (hk:k<Q.length),Q[k]=f->zi st rs ts f=true/\qV st rs ts f=kD rs ts Q f k;rw[hQ];exact fun k hk h=>uu hk h
 have HNON:Hid (aR Q f=false->zi st rs ts f=false/\qV st rs ts f=[]):=by
  show aR Q f=false->_;rw[hQ];exact fun h=>zk h
 rw[<-hQ]at hQl HQF Zf hPM hcap;obtain⟨k0,k1,k2,k3,k4,kl⟩:=Zv.out.c;have g0:=az hb1 kl k0;have g1:=az hb1 kl k1;have g2:=az hb1 kl k2;have g3:=az hb1 kl k3;have g4:=az hb1 kl k4;have HB1:=ah (HB0.out.trans (hb1.mono HB0.out.size));have HS1:=ah (HS.out.below hb1);have HPM:=ah hPM;have HDA:=ah hDA;have hPl:=hPM.lt;have c1:=hPM.c1;have HIX:Hid (∀W',ae w1 W'->Calls prog 69 #[.slice ZG Q.length Za,.agg #[.string f.a,.string f.b,.string f.r,.string f.c,.string f.d]] W' fun e w'=>(∃r:Int,e=.returned (.int .i64 r)/\(r=-1/\aR Q f=false \/ ∃k:Nat,r=(k:Int)/\∃h:k<Q.length,Q[k]=f/\f ∉ Q.take k))/\ae W' w'):=fun W' hb=>J4 ZG Za Q f W' (by omega) (HPM.out.found.below hb);have HSA:Hid (∀w',ae w1 w'->w'.cell? ⟨P,1,none⟩=some (.slice ZG Q.length Za)/\w'.cell? ⟨w.heap.size,0,none⟩=some (.string f.a)/\w'.cell? ⟨w.heap.size,1,none⟩=some (.string f.b)/\w'.cell? ⟨w.heap.size,2,none⟩=some (.string f.r)/\w'.cell? ⟨w.heap.size,3,none⟩=some (.string f.c)/\w'.cell? ⟨w.heap.size,4,none⟩=some (.string f.d)/\ae w1 w'):=fun w' h =>
  ⟨az h hPl c1,az h (ax g0) g0,az h (ax g1) g1,az h (ax g2) g2,az h (ax g3) g3,az h (ax g4) g4,h⟩
 clear hr hsd hb1 hPM hDA hQ k0 k1 k2 k3 k4 kl HC ZQ g0 g1 g2 g3 g4 c1;go_wp2_with fail
 go_region_held3 (fun w'=>w'.cell? ⟨P,1,none⟩=some (.slice ZG Q.length Za)/\w'.cell? ⟨w.heap.size,0,none⟩=some (.string f.a)/\w'.cell? ⟨w.heap.size,1,none⟩=some (.string f.b)/\w'.cell? ⟨w.heap.size,2,none⟩=some (.string f.r)/\w'.cell? ⟨w.heap.size,3,none⟩=some (.string f.c)/\w'.cell? ⟨w.heap.size,4,none⟩=some (.string f.d)/\ae w1 w')
  (first|assumption|exact HSA.out _ (V9 (And.right (And.right (And.right (And.right (And.right (And.right (by assumption))))))) hbx)|exact HSA.out _ (XL _ _).drew)
  (first|(go_at_call 69;refine(HIX.out _ (And.right (And.right (And.right (And.right (And.right (And.right (by assumption)))))))).mono ?_;rintro e w2 ⟨⟨r,rfl,hr⟩,hbx⟩))
 rename_i hJ;have HB2:=ah hJ.2.2.2.2.2.2;have c1:=hJ.1;clear hJ hbx;rcases hr with⟨rfl,h0⟩|⟨k,rfl,hk,hkf,-⟩
 ·have HR:Hid (XD st rs ts f w (.returned (.tuple #[.slice none 0 0,.bool false])) w2):=by
   obtain⟨e1,e2⟩:=HNON.out h0;refine⟨⟨.slice none 0 0,by rw[e1],?_⟩,HB1.out.trans (HB2.out.mono HB1.out.size)⟩;rw[e2];exact World.ownsRow_nil _ _ _ _
  clear h0;go_wp2;exact bodyPost_ret (v:=.tuple #[.slice none 0 0,.bool false]) (by simp[results,Tryz.results18,go_sem]) rfl HR.out
 have hln:(Q.take (k+1)).length=k+1:=by rw[Yc];omega
 have HND:=ah (MR w2 rs ts Q ad P D br bp bt bK nK n1 nr Mr Er _ _ np Mp vo vu ZG Za ZG Za k (HPM.out.below HB2.out) (HDA.out.below HB2.out) Zd.out ht40 HSH.out (HS1.out.below HB2.out) HQF.out HQN.out hQl HOK.out Zf.out hk ((HPM.out.found.below HB2.out).takeF (k+1)) (by omega));rw[hln,hkf]at HND;have HYE:=ah (HYES.out k hk hkf);have n1:(0:Int)<=(k:Int)+1:=by omega
 have n2:(k:Int)+1<=(Za:Int):=by omega
 have n3:¬(k:Int)<0:=by omega
 have hw3:IntKind.i64.wrap ((k:Int)+1)=((k+1:Nat):Int):=by rw[IntKind.wrap_i64];omega
 have hP2:P<w2.heap.size:=XJ hPl HB2.out.size;clear hln hkf;go_wp2_with fail;refine HND.out.mono ?_;rintro e w3 ⟨⟨v,rfl,hown⟩,hb3⟩;have HR:Hid (XD st rs ts f w (.returned (.tuple #[v,.bool true])) w3):=by
  have hs2:w.heap.size<=w2.heap.size:=XR HB1.out.size HB2.out.size;refine⟨⟨v,by rw[HYE.out.1],?_⟩,(HB1.out.trans (HB2.out.mono HB1.out.size)).trans (hb3.mono hs2)⟩;rw[HYE.out.2];exact bW hown hs2
 clear hown hb3 HND;go_wp2;exact bodyPost_ret (v:=.tuple #[v,.bool true]) (by simp[results,Tryz.results18,go_sem]) rfl HR.out
end
theorem P8{rs:Q06}{ts:Q05}{Q x y:Q04}{f:Fc}(hs:∀g∈x,g∈y)(h:cO rs ts Q f (aR x)=true):cO rs ts Q f (aR y)=true:=by
 rw[pX]at h ⊢;exact PX hs h
theorem J8{R:Fc->Ru}{Q:Q04}(h:uC R Q)(n:Nat):uC R (Q.take n):=by
 have h1:uC R (Q.take n++Q.drop n):=by rw[List.take_append_drop];exact h
 exact h1.left
theorem yf(test:Nat->List Fc->Bool)(Q:Q04):∀(n:Nat) (kept:Q04),n<=Q.length->∃pre,ja test Q n kept=pre++kept/\∀x∈pre,x∈Q
 | 0,kept,_=>⟨[],rfl,fun x hx=>by cases hx⟩
 | n+1,kept,hn=>by
  have hi:n<Q.length:=by omega
  cases h:test n kept;case true=>rw[pV hi h];exact yf test Q n kept (by omega)
  rw[sI hi h];obtain⟨pre,e,hp⟩:=yf test Q n (Q[n]::kept) (by omega);refine⟨pre++[Q[n]],by rw[e];simp,fun x hx=>?_⟩;rcases XV.1 hx with h1|h1
  ·exact hp x h1
  obtain rfl:=XX.1 h1;exact XI hi
section
variable  {rs:Q06}{ts:Q05}{Q:Q04}
theorem TG{n:Nat}{kept:Q04}(hok:∀x∈Q,okB x=true)(hk:∀x∈kept,x∈Q):eY rs ts Q n kept=true↔uC (cO rs ts Q) (Q.take n++kept):=by
 unfold eY;exact sZ fun x hx=>by
  rcases XV.1 hx with h|h
  ·exact hok x (List.mem_of_mem_take h)
  exact hok x (hk x h)
theorem DJ(hok:∀x∈Q,okB x=true):∀(n:Nat) (kept:Q04),n<=Q.length->(∀x∈kept,x∈Q)->uC (cO rs ts Q) (Q.take n++kept)->uC (cO rs ts Q) (ja (eY rs ts Q) Q n kept)
 | 0,kept,_,_,h=>by
  show uC _ kept;simpa using h
 | n+1,kept,hn,hk,h=>by
  have hi:n<Q.length:=by omega
  have h1:=F9 hi hok hk h;cases ht:eY rs ts Q n kept;case true=>
   rw[ht]at h1;rw[pV hi ht];exact DJ hok n kept (by omega) hk h1
  rw[ht]at h1;rw[sI hi ht];refine DJ hok n _ (by omega) (fun x hx=>?_) h1;rcases X7.1 hx with rfl|h2
  ·exact XI hi
  exact hk x h2
theorem DK(hQ:uC (cO rs ts Q) Q)(hok:∀x∈Q,okB x=true):∀(n:Nat) (kept:Q04),n<=Q.length->(∀x∈kept,x∈Q)->(∀j,j+1<kept.length->¬uC (cO rs ts Q) (Q.take n++kept.eraseIdx j)) ->
  ∀j,j+1<(ja (eY rs ts Q) Q n kept).length->¬uC (cO rs ts Q) ((ja (eY rs ts Q) Q n kept).eraseIdx j)
 | 0,kept,_,_,h=>fun j hj=>by
  have:=h j hj;show ¬uC _ (kept.eraseIdx j);simpa using this
 | n+1,kept,hn,hk,h=>by
  have hi:n<Q.length:=by omega
  have e:Q.take (n+1)=Q.take n++[Q[n]]:=XM hi;cases ht:eY rs ts Q n kept;case true=>
   rw[pV hi ht];refine DK hQ hok n kept (by omega) hk fun j hj hp=>h j hj ?_;refine R5 (J8 hQ (n+1)) fun i hi2=>P8 (fun g hg=>?_) (hp.from hi2);rcases XV.1 hg with h1|h1
   ·exact XV.2 (.inl (by rw[e];exact XV.2 (.inl h1)))
   exact XV.2 (.inr h1)
  rw[sI hi ht];refine DK hQ hok n _ (by omega) (fun x hx=>?_) fun j hj hp=>?_
  ·rcases X7.1 hx with rfl|h2
   ·exact XI hi
   exact hk x h2
  cases j with
  | zero =>
   have:=(TG hok hk).2 hp;rw[ht]at this;cases this
  | succ j =>
   refine h j (by simpa using hj) ?_;rw[e,Ye];rw[List.eraseIdx_cons_succ]at hp;exact hp
end
section
variable  [DecidableEq Fc]
theorem TH{st:Q00}{rs:Q06}{ts:Q05}{f:Fc}(hle:aN (ai rs)=true->Least (ai rs) st)(h:zi st rs ts f=true):
  (∃pre,qV st rs ts f=pre++[f])/\((qV st rs ts f).length<=200->x8 st rs ts (qV st rs ts f)=true)/\∀j,j+1<(qV st rs ts f).length->x8 st rs ts ((qV st rs ts f).eraseIdx j)=false:=by
 have hm:f∈aA st rs ts:=aU.1 h;obtain⟨k,hk,hkf⟩:=Yk hm;have hL:=(uu hk hkf).2;have hQ:=DC (st:=st) (ts:=ts) hle;have hok:=Dz (st:=st) (rs:=rs) (ts:=ts);have hr:aQ (fU rs) rs ts=true:=by
  cases e:aQ (fU rs) rs ts;case true=>rfl
  rw[fV e]at hm;cases hm
 have h1:∀x∈[f],x∈aA st rs ts:=fun x hx=>by obtain rfl:=XX.1 hx;exact hm
 have h2:uC (cO rs ts (aA st rs ts)) ((aA st rs ts).take k++[f]):=by
  have:=J8 hQ (k+1);rw[XM hk,hkf]at this;exact this
 rw[hL];unfold kD;obtain⟨pre,e,hp⟩:=yf (eY rs ts (aA st rs ts)) (aA st rs ts) k [f] (by omega);have hmem:∀x∈ja (eY rs ts (aA st rs ts)) (aA st rs ts) k [f],x∈aA st rs ts:=fun x hx=>by
  rw[e]at hx;rcases XV.1 hx with h3|h3
  ·exact hp x h3
  exact h1 x h3
 refine⟨⟨pre,e⟩,fun h200=>?_,fun j hj=>?_⟩
 ·have h3:=(sZ (Q:=aA st rs ts) fun x hx=>hok x (hmem x hx)).2 (DJ hok k [f] (by omega) h1 h2);unfold x8;rw[hr,h3,decide_eq_true h200,decide_eq_true (show 1<=_ by rw[e];simp)];rfl
 have h3:=DK hQ hok k [f] (by omega) h1 (fun j hj=>by simp at hj) j hj;unfold x8;cases h4:oQ rs ts (aA st rs ts) ((ja (eY rs ts (aA st rs ts)) (aA st rs ts) k [f]).eraseIdx j) ((ja (eY rs ts (aA st rs ts)) (aA st rs ts) k [f]).eraseIdx j).length;case false=>simp
 exact absurd ((sZ (Q:=aA st rs ts) fun x hx=>hok x (hmem x (List.mem_of_mem_eraseIdx hx))).1 h4) h3
end
end Go.Proofs.YtojjoblnpldniaaGreat
namespace Go.Proofs.YtojjoblnpldniaaGreat.fnProof
open Go.Sort
open ChangeShapes WideShapes ChangeAt RowKit
open Pl
set_option linter.unusedVariables false
set_option linter.unusedSimpArgs false
structure St(w:World)(Zp:Q02)(g n:Nat)(rs:Q06)(ts:Q05)(f:Fc)(W:World):Prop where
 bel:ae w W
 sl:kI W Zp rs
 tu:Sl W (some ⟨g,0,none⟩) ts
 lt:n<W.heap.size
 bx:W.cell? ⟨n,0,none⟩=some (.string f.a)/\W.cell? ⟨n,1,none⟩=some (.string f.b)/\W.cell? ⟨n,2,none⟩=some (.string f.r)/\W.cell? ⟨n,3,none⟩=some (.string f.c)/\W.cell? ⟨n,4,none⟩=some (.string f.d)
theorem St.later{w W W':ag}{Zp:Q02}{g n:Nat}{rs:Q06}{ts:Q05}{f:Fc}(h:St w Zp g n rs ts f W)(hb:ae W W'):St w Zp g n rs ts f W' :=
 ⟨h.bel.trans (hb.mono h.bel.size),h.sl.below hb,h.tu.below hb,XJ h.lt hb.size,by
  obtain⟨c0,c1,c2,c3,c4⟩:=h.bx;have hk:=fun o=>hb.cell (p:=⟨n,o,none⟩) h.lt;exact⟨(hk _).trans c0,(hk _).trans c1,(hk _).trans c2,(hk _).trans c3,(hk _).trans c4⟩⟩
theorem Vg[DecidableEq Fc]{st:Q00}{rs:Q06}{ts:Q05}{f:Fc}(h:zi st rs ts f=true):∀x∈qV st rs ts f,x∈aA st rs ts:=by
 have hm:f∈aA st rs ts:=aU.1 h;obtain⟨k,hk,hkf⟩:=Yk hm;rw[(uu hk hkf).2];unfold kD;obtain⟨pre,e,hp⟩:=yf (eY rs ts (aA st rs ts)) (aA st rs ts) k [f] (by omega);intro x hx;rw[e]at hx;rcases XV.1 hx with h3|h3
 ·exact hp x h3
 obtain rfl:=XX.1 h3;exact hm
theorem TI[DecidableEq Fc]{st:Q00}{rs:Q06}{ts:Q05}{f:Fc}(h:zi st rs ts f=true):(qV st rs ts f).length<=115200:=by
 have hm:f∈aA st rs ts:=aU.1 h;obtain⟨k,hk,hkf⟩:=Yk hm;rw[(uu hk hkf).2];have hl:=jJ st (rs:=rs) (ts:=ts);have:∀(n:Nat) (kept:Q04),(ja (eY rs ts (aA st rs ts)) (aA st rs ts) n kept).length<=n+kept.length:=by
  intro n
  induction n with
  | zero=>intro kept;simp[ja]
  | succ n ih =>
   intro kept;unfold ja;split
   ·omega
   split
   ·have:=ih kept;omega
   refine XR (ih _) ?_;simp only[Yh];omega
 have h2:=this k [f];unfold kD;simp only[Yr]at h2;omega
set_option maxRecDepth 100000 in
theorem walk[DecidableEq Fc](ad:Q02)(len cap:Nat)(w:ag)(h:Bytes w ad len):
  Calls prog 4 #[.slice ad len cap] w fun e w'=>e=.returned (.bool true)/\ae w w':=by
 have H:=dU h;clear h;obtain⟨iR,hiR,zR0,zR1,zR2⟩:=mI;have Zk:Hid (prog.info? 52=some iR/\iR.zero=some (.agg #[.string ⟨#[]⟩,.string ⟨#[]⟩,.string ⟨#[]⟩,.string ⟨#[]⟩,.string ⟨#[]⟩])/\iR.size=5/\iR.bytes=80):=⟨hiR,zR0,zR1,zR2⟩;clear hiR zR0 zR1 zR2;go_enter func4,ntmps4;go_wp2_with fail;refine(TW ad len cap w).mono ?_;rintro e w0 ⟨rfl,rfl⟩;by_cases hbig:(1048576:Int)<(len:Int)
 ·go_wp2;go_ret;exact⟨rfl,XL _ _⟩
 go_wp2_with fail;refine(Au ad len cap _ H.out).mono ?_;rintro e w1 ⟨v,rs,g,c,ts,f,rfl,hT,⟨hG1,hG2,hG3⟩,hl9,hsh,hff,hown,hb1⟩;obtain⟨Zp,Zt,rfl,hs1,hcp⟩:=hT.read;obtain⟨hrow,hg,hgc,-⟩:=oH hown rfl;obtain⟨W1,hW1⟩:=eQx (w1.alloc (.cells #[.string f.a,.string f.b,.string f.r,.string f.c,.string f.d] 52));have hba:ae w1 W1:=by rw[hW1];exact(XL _ _).alloc (XK _) _
 have K1:Hid (St w0 Zp g w1.heap.size rs ts f W1):=by
  refine⟨hb1.trans (hba.mono hb1.size),hs1.below hba,Sl.below (.inr ⟨g,0,rfl,hg,hrow⟩) hba,by rw[hW1];simp,?_⟩;refine⟨?_,?_,?_,?_,?_⟩<;>(rw[hW1];simp)
 have hlen:rs.length<=1048576:=by omega
 have hlt:ts.length<=1048576:=by omega
 obtain⟨st,hst0⟩:=Vs (ai rs);have ZH:=dU hst0;have HL:=dU hG2;have HF:=dU hG3;have HC:=dU hcp;have Zd:=dU hsh.fits;obtain⟨q,hq⟩:∃q,zi st rs ts f=q:=⟨_,rfl⟩;have HQ:=dU hq;have HCK:Hid (aR (aA st rs ts) f=q):=hq;obtain⟨L,hL⟩:∃L,qV st rs ts f=L:=⟨_,rfl⟩;have HLL:=dU hL;have hLn:L.length<=115200:=by
  rw[<-hL];cases q
  ·rw[(zk (show aR (aA st rs ts) f=false from hq)).2];simp
  exact TI hq
 clear hT hG2 hG3 hcp hb1 hs1 hbig hown hsh hff hrow hg hgc hba H hst0 hq hL;obtain⟨x0,x1,x2,x3,x4⟩:=K1.out.bx;go_wp2_with fail;rw[<-hW1];clear hW1;refine(Av st Zp Zt rs _ c ts f _ hlen K1.out.sl HL.out HF.out HC.out hlt K1.out.tu Zd.out ZH.out).mono ?_;rintro e w2 ⟨⟨vp,rfl,hop⟩,hb2⟩;rw[HLL.out]at hop;rw[HQ.out];obtain⟨adP,capP,rfl,hsP⟩:=gV hop;have K2:=dU (K1.out.later hb2);have Zc:=dU hsP;have YZ:=dU hop;clear hb2 K1 hop hsP x0 x1 x2 x3 x4;obtain⟨x0,x1,x2,x3,x4⟩:=K2.out.bx;go_wp2_with fail;refine(J7 st Zp Zt rs _ c ts f _ hlen K2.out.sl HL.out HF.out hlt K2.out.tu Zd.out ZH.out).mono ?_;rintro e w3 ⟨adW,capW,rfl,hsW,hb3⟩;rw[HLL.out]at hsW;rw[HLL.out,HQ.out];have K3:=dU (K2.out.later hb3);have HP3:=dU (Zc.out.below hb3);have Zq:=dU (aP YZ.out hb3);have HW3:=dU hsW;clear hb3 K2 Zc YZ hsW x0 x1 x2 x3 x4;have hqn:(q != q)=false:=by cases q<;>rfl
 have hqq:(q==q)=true:=by cases q<;>rfl
 go_wp2_with fail;refine(uQ adP adW capP capW L _ (by omega) HP3.out HW3.out).mono ?_;rintro e w4 ⟨rfl,hb4⟩;have K4:=dU (K3.out.later hb4);have HP4:=dU (HP3.out.below hb4);have Zg:=dU (aP Zq.out hb4);have HW4:=dU (HW3.out.below hb4);clear hb4 K3 HP3 Zq HW3;obtain⟨x0,x1,x2,x3,x4⟩:=K4.out.bx;go_wp2_with fail;refine(uV st Zp Zt rs _ c ts f _ hlen K4.out.sl HL.out HF.out HC.out hlt K4.out.tu Zd.out ZH.out).mono ?_;rintro e w5 ⟨rfl,hb5⟩;rw[HCK.out];have K5:=dU (K4.out.later hb5);have HP5:=dU (HP4.out.below hb5);have Ze:=dU (aP Zg.out hb5);have HW5:=dU (HW4.out.below hb5);clear hb5 K4 HP4 Zg HW4 x0 x1 x2 x3 x4;cases q
 ·go_wp2_with fail;refine(uQ adP adW capP capW L _ (by omega) HP5.out HW5.out).mono ?_;rintro e w6 ⟨rfl,hb6⟩;have K6:=dU (K5.out.later hb6);clear hb6 K5 HP5 Ze HW5;obtain⟨x0,x1,x2,x3,x4⟩:=K6.out.bx;go_wp2_with fail;refine(uV st Zp Zt rs _ c ts f _ hlen K6.out.sl HL.out HF.out HC.out hlt K6.out.tu Zd.out ZH.out).mono ?_;rintro e w7 ⟨rfl,hb7⟩;rw[HCK.out];have HBe:=dU (K6.out.later hb7).bel;clear hb7 x0 x1 x2 x3 x4;go_wp2;go_ret;exact⟨rfl,HBe.out⟩
 have HPA:=dU (TH ZH.out HQ.out);rw[HLL.out]at HPA;have HLF:Hid (∀x∈L,x.fits):=fun x hx=>qR HF.out Zd.out x (Vg HQ.out x (by rw[HLL.out];exact hx));obtain⟨pre,hpre⟩:=HPA.out.1;have hL1:L.length=pre.length+1:=by rw[hpre];simp
 obtain⟨gP,hgP,-⟩:=pM Ze.out (by omega);subst hgP;have hcap:=xq Ze.out;have hgl5:gP<w5.heap.size:=(Ze.out.lt gP rfl).2;have HPRE:=dU hpre;have HL1:=dU hL1;have hL0:0<L.length:=by omega
 clear hL1;clear hpre HCK HW5 HP5;go_wp2_with fail;go_loopw[10] (fun i wr=>∃m:Nat,m+1<=L.length/\i=.int .i64 m/\Hid (ae w5 wr)) (fun i _=>L.length-(intOf i).toNat);case atStart=>exact⟨0,by omega,rfl,XL _ _⟩
 obtain⟨m,hm,rfl,HB⟩:=hrel;have hm0:=bG m;have hwr:IntKind.i64.wrap ((m:Int)+1)=(m:Int)+1:=by rw[IntKind.wrap_i64];omega
 by_cases ZA:m+1<L.length
 ·have hmd:decide ((m:Int)+1<(L.length:Int))=true:=by simp;omega
  have hmd2:(m:Int)+1<(L.length:Int):=by omega
  have hm2:(m:Int)<=(L.length:Int):=by omega
  have hmc:(m:Int)<=(capP:Int):=by omega
  have hq1:(0:Int)<=(m:Int)+1:=by omega
  have hq2:(m:Int)+1<=(L.length:Int):=by omega
  have hq3:¬(capP=m+1):=by omega
  have hq4:¬(m+1=capP):=by omega
  obtain⟨W7,hW7⟩:=eQx ((wr.alloc (.cells #[] 52)).drew);have Zz:Hid (W7.ownsRow wr.heap.size 52 5 (.slice (some ⟨wr.heap.size,0,none⟩) 0 0) 0 []):=by
   show World.ownsRow _ _ _ _ _ _ _;rw[hW7];exact aP (World.ownsRow_lit wr #[] 0 (XK _) (by unfold maxLen;omega) (by simp)) (XL _ _).drew
  have HB7:Hid (ae wr W7):=by show Below _ _ _;rw[hW7];exact((XL _ _).alloc (XK _) _).drew
  have HOr:=dU (aP Ze.out HB.out);have HR7:=dU (aP HOr.out HB7.out);have hz7:wr.heap.size<=W7.heap.size:=HB7.out.size;have hgl:gP<wr.heap.size:=XJ hgl5 HB.out.size;go_wp2_with fail;refine wp_region_held_drew (S:=fun _=>True) (by kernel_rfl) trivial (fun hHeld=>?_);refine tk 1 79 ?_;go_frame;refine tk 2 80 ?_;go_frame;refine tk 5 83 ?_;go_frame;refine tk 6 84 ?_;go_frame;refine tk 3 81 ?_;go_frame;refine tk 7 85 ?_;go_frame;refine tk 8 86 ?_;go_frame;refine wpAnyH_ready (rs:=[0]) (by kernel_rfl) (by simp) ?_;refine AllReadyH.cons rfl (fun K hK=>?_) AllReadyH.nil;go_simp;rw[<-hW7];clear hW7;refine hK.out _ _ trivial (fun _=>?_);clear hK K;refine wpAnyH_ready (rs:=[4]) (by kernel_rfl) (by simp) ?_;refine AllReadyH.cons rfl (fun K hK=>?_) AllReadyH.nil;rw[if_pos (by kernel_rfl)];refine wp_append_own W7 _ _ 44 rfl wr.heap.size 52 iR (.agg #[.string ⟨#[]⟩,.string ⟨#[]⟩,.string ⟨#[]⟩,.string ⟨#[]⟩,.string ⟨#[]⟩]) 5 80 underlying44 Zk.out.1 Zk.out.2.1 Zk.out.2.2.1 Zk.out.2.2.2 rfl (by decide) _ 0 [] rfl Zz.out ⟨gP,0,none⟩ m capP (av (L.take m)) rfl (by rw[fe,Yc];congr 1;omega) (qH HR7.out m (by omega)) (kv _) (by unfold maxLen;omega) (by omega) hz7 ?_;intro v8 w8 Zy hgr8 _;have HO8:Hid (w8.ownsRow wr.heap.size 52 5 v8 m (av (L.take m))):=by
   show World.ownsRow _ _ _ _ _ _ _
   first|exact Zy|(rw[Yg,YI]at Zy;exact Zy)|simpa using Zy
  have HB8:Hid (ae wr w8):=HB7.out.grown hgr8 HB7.out.size (fun z hz=>(Zz.out.lt z hz).1);have hz8:wr.heap.size<=w8.heap.size:=HB8.out.size;have HR8:=dU (aP HOr.out HB8.out);clear Zy hgr8 Zz HB7 HR7 hz7;refine hK.out _ _ trivial (fun _=>?_);clear hK K;go_frame;refine wpAnyH_ready (rs:=[9]) (by kernel_rfl) (by simp) ?_;refine AllReadyH.cons rfl (fun K hK=>?_) AllReadyH.nil;rw[if_pos (by kernel_rfl)];refine wp_append_own w8 _ _ 44 rfl wr.heap.size 52 iR (.agg #[.string ⟨#[]⟩,.string ⟨#[]⟩,.string ⟨#[]⟩,.string ⟨#[]⟩,.string ⟨#[]⟩]) 5 80 underlying44 Zk.out.1 Zk.out.2.1 Zk.out.2.2.1 Zk.out.2.2.2 rfl (by decide) v8 m (av (L.take m)) rfl HO8.out ⟨gP,(m+1)*5,none⟩ (L.length-(m+1)) (capP-(m+1)) (av (L.drop (m+1))) rfl (by rw[fe,YD]) (vQ HR8.out (m+1) (by omega)) (kv _) (by unfold maxLen;omega) (by omega) hz8 ?_;intro v9 w9 hown9 hgr9 _;have hNk:m+(L.length-(m+1))=(L.eraseIdx m).length:=by rw[List.length_eraseIdx_of_lt (by omega)];omega
  have HO9:Hid (w9.ownsRow wr.heap.size 52 5 v9 (L.eraseIdx m).length (av (L.eraseIdx m))):=by
   show World.ownsRow _ _ _ _ _ _ _;rw[hNk,<-F6,<-List.eraseIdx_eq_take_drop_succ]at hown9;exact hown9
  have HB9:Hid (ae wr w9):=HB8.out.grown hgr9 HB8.out.size (fun z hz=>(HO8.out.lt z hz).1);obtain⟨ad9,cap9,rfl,hs9⟩:=gV HO9.out;have HS9:=dU hs9;have HLF9:Hid (∀x∈L.eraseIdx m,x.fits):=fun x hx=>HLF.out x (List.mem_of_mem_eraseIdx hx);have ZQ:=dU (HPA.out.2.2 m ZA);have hl9:(L.eraseIdx m).length<=1048576:=by omega
  obtain⟨L9,hL9⟩:=eQx (L.eraseIdx m);rw[<-hL9]at HS9 HLF9 ZQ hl9 ⊢;clear hown9 hgr9 HO8 HO9 HB8 HR8 hz8 hs9 hNk hL9;refine hK.out _ _ trivial (fun _=>?_);clear hK K;go_frame;refine tk 10 11 ?_;go_frame;refine wpAnyH_done (by kernel_rfl) ?_ _;have K9:=dU ((K5.out.later HB.out).later HB9.out);go_wp2_with fail;refine(rf st Zp Zt rs _ c ts ad9 cap9 L9 _ hlen K9.out.sl HL.out HF.out HC.out hlt K9.out.tu Zd.out hl9 HS9.out HLF9.out ZH.out).mono ?_;rintro e w10 ⟨rfl,hb10⟩;rw[ZQ.out];have HBn:Hid (ae w5 w10):=HB.out.trans ((HB9.out.trans (hb10.mono HB9.out.size)).mono HB.out.size);clear HB9 K9 ZQ hb10 HB HS9 HLF9 HOr;go_wp2;go_roundw;case rel=>exact⟨m+1,by omega,by go_num,HBn⟩
  simp[intOf]<;>omega
 obtain rfl:m=pre.length:=by have:=HL1.out;omega
 have hmd:decide ((pre.length:Int)+1<(L.length:Int))=false:=by have:=HL1.out;simp;omega
 have K6:=dU (K5.out.later HB.out);have ZI:=dU (aP Ze.out HB.out);obtain⟨w6,hw6⟩:=eQx wr;rw[<-hw6]at K6 ZI ⊢;clear hw6 HB K5 Ze;obtain⟨adX,capX,heX,hsX⟩:=gV ZI.out;injection heX with e1 e2 e3;subst e1;obtain⟨b,off,YW,⟨t0,t1,t2,t3,t4⟩,hbl⟩:=jX.at0 hsX (show pre.length<L.length by have:=HL1.out;omega);have hlast:L[pre.length]'(by have:=HL1.out;omega)=f:=by
  have h1:=HPRE.out;have h2:L[pre.length]?=some f:=by rw[h1];simp
  rw[XQ (by have:=HL1.out;omega)]at h2;exact Option.some.inj h2
 rw[hlast]at t0 t1 t2 t3 t4;injection YW with YW;injection YW with e4 e5;subst e4 e5;simp only[Yg]at t0 t1 t2 t3 t4;obtain⟨x0,x1,x2,x3,x4⟩:=K6.out.bx;replace t0:=cell_regrown t0;replace t1:=cell_regrown t1;replace t2:=cell_regrown t2;replace t3:=cell_regrown t3;replace t4:=cell_regrown t4;replace x0:=cell_regrown x0;replace x1:=cell_regrown x1;replace x2:=cell_regrown x2;replace x3:=cell_regrown x3;replace x4:=cell_regrown x4;have HCM:Hid (L.length<=200->∀d os,Calls prog 21 #[.slice Zp rs.length Zt,.slice (some ⟨g,0,none⟩) ts.length c,.slice (some ⟨gP,0,none⟩) L.length capX] (grow (redrawn w6 d) os) fun e w2=>e=.returned (.bool true)/\∃p:Regrown,w2=grow (redrawn w6 p.d) p.os):=by
  intro h200 d os;refine dz (fun W' hb=>?_) d os;refine(rf st Zp Zt rs _ c ts _ capX L W' hlen (K6.out.later hb).sl HL.out HF.out HC.out hlt (K6.out.later hb).tu Zd.out (by omega) (hsX.below hb) HLF.out ZH.out).mono ?_;rintro e w' ⟨rfl,hb'⟩;exact⟨by rw[HPA.out.2.1 h200],hb'⟩
 have hlm:IntKind.i64.wrap ((L.length:Int)-1)=(pre.length:Int):=by have:=HL1.out;rw[IntKind.wrap_i64]<;>omega
 have hp0:(0:Int)<=(pre.length:Int):=by omega
 have hp1:(pre.length:Int)<(L.length:Int):=by have:=HL1.out;omega
 have HBe:=dU K6.out.bel;by_cases h200:L.length<=200
 ·have hgt:decide ((200:Int)<(L.length:Int))=false:=by simp;omega
  have HCK:=dU (HCM.out h200);clear HCM hsX;go_wp2_with fail;refine wp_region_quiet_below (by kernel_rfl) (by kernel_rfl) ?_
  repeat(go_big_quiet_step (exact HCK.out _ _))
  refine wpQuiet_nil ?_;rintro _ ⟨⟨dq,osq⟩,rfl⟩;have HB2:=dU (HBe.out.trans ((below_regrown w6 dq osq).mono HBe.out.size));clear t0 t1 t2 t3 t4 x0 x1 x2 x3 x4;go_wp2;go_ret;exact⟨by simp,HB2.out⟩
 have hgt:decide ((200:Int)<(L.length:Int))=true:=by simp;omega
 clear HCM hsX;go_wp2_with fail;refine wp_region_quiet_below (by kernel_rfl) (by kernel_rfl) ?_
 repeat(go_big_quiet_step (fail))
 refine wpQuiet_nil ?_;rintro _ ⟨⟨dq,osq⟩,rfl⟩;have HB2:=dU (HBe.out.trans ((below_regrown w6 dq osq).mono HBe.out.size));clear t0 t1 t2 t3 t4 x0 x1 x2 x3 x4;go_wp2;go_ret;exact⟨by simp,HB2.out⟩
end Go.Proofs.YtojjoblnpldniaaGreat.fnProof
