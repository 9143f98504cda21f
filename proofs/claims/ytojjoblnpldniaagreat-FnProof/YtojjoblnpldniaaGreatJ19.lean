/- Contract of the document's function that tells whether a tuple fits a schema. -/
import Derived.Test.YtojjoblnpldniaaGreatSq
import Derived.Maps.RangeWalk
import Derived.Test.YtojjoblnpldniaaGreatJ15
import Derived.Test.YtojjoblnpldniaaGreatJ17
import Derived.Test.YtojjoblnpldniaaGreatJ18
import Derived.OpenShut
import Derived.ShutString
import Derived.HandedShaped
open Go.Proofs.Tryz
set_option maxHeartbeats 80000000
set_option linter.defProp false
namespace Go.Proofs.YtojjoblnpldniaaGreat
open ChangeShapes WideShapes ChangeAt RowKit Maps
open Pl
set_option maxRecDepth 100000 in
def Hz(ad:Q02)(cap:Nat)(rs:Q06)(oa ob r c d s:dw)(w:ag)(hlen:a7 rs)(hs:kI w ad rs)(hl:∀r∈rs,r.light)(hf:∀r∈rs,r.fits)(ha:oa.size<=maxLen)(hb:ob.size<=maxLen)(hr:r.size<=maxLen)(hc:c.size<=maxLen)(hd:d.size<=maxLen)(hz:s.size<=maxLen):
  Calls prog 182 #[.slice ad rs.length cap,.agg #[.string oa,.string ob,.string r,.string c,.string d,.string s]] w (a8 w<|.bool<|FU (ai rs) oa ob r c d s):=by
 have HS:=aK hs;have HL:=aK hl;have Zd:=aK hf;clear hs hl hf;obtain⟨W0,hW0⟩:=eQx<|w.alloc<|.cells (b9 oa ob r c d s) 29;have hal:ae w W0:=by rw[hW0];exact(XL _ _).alloc (XK _) _
 have HB0:=aK hal;have hw0:w.heap.size<W0.heap.size:=by rw[hW0];simp
 have c0:W0.cell? (aE w)=some (.string oa):=by rw[hW0];simp
 have c1:W0.cell? (a6 w 1)=some (.string ob):=by rw[hW0];simp
 have c2:W0.cell? (a6 w 2)=some (.string r):=by rw[hW0];simp
 have c3:W0.cell? (a6 w 3)=some (.string c):=by rw[hW0];simp
 have c4:W0.cell? (a6 w 4)=some (.string d):=by rw[hW0];simp
 have c5:W0.cell? (a6 w 5)=some (.string s):=by rw[hW0];simp
 clear hal;go_enter func182,ntmps182;go_wp2_with fail;rw[<-hW0];clear hW0;refine(kZ ad cap rs _ hlen (HS.below HB0) HL Zd).mono ?_;rintro e w1 ⟨rfl,hb1⟩;have HB1:=jr HB0 hb1;have hw1:cX w w1:=XJ hw0 hb1.size;replace c0:=aM hb1 hw0 c0;replace c1:=aM hb1 hw0 c1;replace c2:=aM hb1 hw0 c2;replace c3:=aM hb1 hw0 c3;replace c4:=aM hb1 hw0 c4;replace c5:=aM hb1 hw0 c5;clear hb1 hw0;cases hd5:aN (ai rs);case false=>
  have HN:O (FU (ai rs) oa ob r c d s=false):=by show _=_;unfold FU;rw[hd5];rfl
  go_wp2;go_ret;exact⟨by rw[HN];rfl,HB1⟩
 have HN:O (FU (ai rs) oa ob r c d s=uR (ai rs) oa ob r c d s):=by show _=_;unfold FU;rw[hd5];rfl
 go_wp2_with fail;refine(De ad cap rs oa ob r c d s _ hlen (HS.below HB1) HL ha hb hr hc hd hz).mono ?_;rintro e w2 ⟨rfl,hb2⟩;have HB2:=jr HB1 hb2;clear hb2;go_wp2;go_ret;exact⟨by rw[HN];rfl,HB2⟩
set_option linter.unusedVariables false
set_option maxRecDepth 100000
def jq.only{wc wd:ag}{R base:Nat}{v:Value}{rs:Q06}(h:jq wc base v rs)(hR:R<base)(ho:Only R wc wd):jq wd base v rs :=
 h.heap nZ ho.size fun g hg=>ho.block g (h.lt nZ hg).2 (fun e=>by injection e with e;have:=(h.lt nZ hg).1;omega)
def jq.slT{w:ag}{R base cap:Nat}{Zp:Q02}{rs:Q06}(h:jq w base (.slice Zp rs.length cap) rs)(hR:R<base):∀W,Only R w W->kI W Zp rs:=fun W hO=>by
 obtain⟨Y8,cap',e,hs,-⟩:=(h.only hR hO).read;injection e with e1 e2 e3;subst e1;exact hs
def TF(w:World)(n:Nat)(a b r c d s:ByteArray):Prop:=w.cell? ⟨n,0,none⟩=some (.string a)/\w.cell? ⟨n,1,none⟩=some (.string b)/\w.cell? ⟨n,2,none⟩=some (.string r)/\w.cell? ⟨n,3,none⟩=some (.string c)/\w.cell? ⟨n,4,none⟩=some (.string d)/\w.cell? ⟨n,5,none⟩=some (.string s)
def TF.same{w w':ag}{n:Nat}{a b r c d s:ByteArray}(h:TF w n a b r c d s)(hk:∀o,w'.cell? (ap n o)=w.cell? (ap n o)):TF w' n a b r c d s :=
 ⟨(hk _).trans h.1,(hk _).trans h.2.1,(hk _).trans h.2.2.1,(hk _).trans h.2.2.2.1,(hk _).trans h.2.2.2.2.1,(hk _).trans h.2.2.2.2.2⟩
def H6{w w':ag}{base g c n:Nat}{xs:Q03}(h:w.ownsRow base 29 6 (.slice (some<|am g) n c) n xs)(hb:ae w w'):w'.ownsRow base 29 6 (.slice (some<|am g) n c) n xs :=
 h.kept (row:=none) ⟨hb.os,hb.tape,hb.output,hb.size,fun i hi _=>hb.block i hi⟩ (.inr<|by simp[Value.ownBlock])
def MS(R:Nat)(ad:Q02)(len cap:Nat)(n:Nat)(w:ag)(h:Rd w R ad len cap)(h1:1<=n)(h2:n<=200000):
  Calls prog 90 #[.pointer (some<|am R),.int .i64 (n:Int)] w fun e w'=>(∃x:Nat,e=.returned (.int .i64 (x:Int))/\x<n)/\Rd w' R ad len cap/\Only R w w':=by
 by_cases hn:n<=256
 ·exact gM R ad len cap n w h h1 hn
 have H:=aK h;clear h;have hne:((n:Int)==0)=false:=by simp;omega
 have hn1:¬(n:Int)<=1:=cq;have hn2:¬(n:Int)<=256:=cq;go_enter func90,ntmps90;go_wp2_with fail;refine(wK R ad len cap _ H).mono ?_;rintro e w1 ⟨⟨x,rfl,hx0,hx1⟩,Zr,Zx⟩;have HR:=aK Zr;have HO:=aK Zx;have hw1:IntKind.i64.wrap (x*256)=x*256:=by rw[IntKind.wrap_i64];omega
 clear Zr Zx;go_wp2_with fail;refine(wK R ad len cap _ HR).mono ?_;rintro e w2 ⟨⟨y,rfl,hy0,hy1⟩,hR2,hO2⟩;have HR2:=aK hR2;have YZ:O (Only R w w2):=HO.trans hO2;have hw2:IntKind.i64.wrap (x*256+y)=x*256+y:=by rw[IntKind.wrap_i64];omega
 obtain⟨z,hz⟩:∃z:Nat,(x*256+y)=(z:Int):=⟨(x*256+y).toNat,cq⟩;have HZ:O ((x*256+y)%(n:Int)=((z%n:Nat):Int)):=by show _=_;rw[hz];exact(Int.natCast_emod z n).symm
 clear hR2 hO2 hz;go_wp2;go_ret;exact⟨⟨z%n,by rw[<-HZ];rfl,Nat.mod_lt _ cq⟩,HR2,YZ⟩
def El(R:Nat)(ad:Q02)(len cap:Nat)(Zp:Q02)(Zt base:Nat)(rs:Q06)(w:ag)(h:Rd w R ad len cap)(hRb:R<base)(hT:jq w base (.slice Zp rs.length Zt) rs)(hG:GoodS rs):
  Calls prog 109 #[.pointer (some<|am R),.slice Zp rs.length Zt,.int .i64 12] w fun e w'=>(∃(g c:Nat) (ts:Q05),e=.returned (.slice (some<|am g) ts.length c)/\ts.length<=12/\sN ts/\bj w w' 29 6 (.slice (some<|am g) ts.length c) ts.length (bZ ts))/\Rd w' R ad len cap/\Only R w w':=by
 have hRw:=h.lt;have HS:O (∀W,Only R w W->kI W Zp rs):=hT.slT hRb;obtain⟨hG1,hG2,hG3⟩:=hG;have hlen:a7 rs:=cq;have HL:=dU hG2;have HF:=dU hG3;clear hG2 hG3 hT;obtain⟨W0,hW0⟩:=eQx<|w.alloc<|.cells #[] 29;have Zz:O (bj w W0 29 6 (.slice (some<|aE w) 0 0) 0<|bZ []):=by
  show World.ownsRow _ _ _ _ _ _ _;rw[hW0];exact World.ownsRow_lit w #[] 0 (XK _) cy ct
 have HR0:O (Rd W0 R ad len cap):=by show Rd _ _ _ _ _;rw[hW0];exact h.alloc _
 have HO0:O (Only R w W0):=by show Only _ _ _;rw[hW0];exact(Only.refl _ _).alloc _
 clear h;go_enter func109,ntmps109;go_wp2_with fail;rw[<-hW0];clear hW0;refine(df R ad len cap 13 _ HR0 cq cq).mono ?_;rintro e w1 ⟨⟨x,rfl,hx0,hx1⟩,Zr,Zx⟩;have HR1:=dU Zr;have Zj:O (Only R w w1):=HO0.trans Zx;have HL1:O (bj w w1 29 6 (.slice (some<|aE w) 0 0) 0<|bZ []):=nR Zz hRw Zx;clear Zr Zx Zz HR0 HO0;go_wp2_with fail;go_loopw[7,8] (fun v i wr=>∃(k:Nat) (ts:Q05) (g c:Nat),i=.int .i64 k/\ts.length+k<=12/\v=.slice (some<|am g) ts.length c/\O (sN ts)/\O (bj w wr 29 6 v ts.length<|bZ ts)/\O (Rd wr R ad len cap)/\O (Only R w wr)) (fun _ i _=>(intOf i).toNat);case atStart=>exact⟨x.toNat,[],w.heap.size,0,by rw[Int.toNat_of_nonneg hx0],by simp;omega,rfl,Pn,HL1,HR1,Zj⟩
 clear HL1 HR1 Zj hx0 hx1;obtain⟨k,ts,g,c,rfl,hk,rfl,HSh,HOw,HR,HO⟩:=hrel;by_cases hk0:0<k
 ·have hk1:(0:Int)<(k:Int):=cq;go_wp2_with fail;refine(NU R ad len cap _ HR).mono ?_;rintro e w2 ⟨⟨a,b,r,c2,d,s,rfl,ha,hb,hr,hc,hd,hs⟩,hR2,hO2⟩;have HT:O (Tp.short ⟨a,b,r,c2,d,s⟩):=⟨ha,hb,hr,hc,hd,hs⟩;obtain⟨f1,f2,f3,f4,f5,f6⟩:=HT.fits;obtain⟨W2,hW2⟩:=eQx<|w2.alloc<|.cells (b9 a b r c2 d s) 29;have HR2:O (Rd W2 R ad len cap):=by show Rd _ _ _ _ _;rw[hW2];exact hR2.alloc _
  have YZ:O (Only R w W2):=by show Only _ _ _;rw[hW2];exact(HO.trans hO2).alloc _
  have HOw2:O (bj w W2 29 6 (.slice (some<|am g) ts.length c) ts.length<|bZ ts):=by show World.ownsRow _ _ _ _ _ _ _;rw[hW2];exact(nR HOw hRw hO2).alloc _
  have hz2:w2.heap.size<W2.heap.size:=by rw[hW2];simp
  have hnR:w2.heap.size≠R:=by have:=hR2.lt;omega
  have HC:O (TF W2 w2.heap.size a b r c2 d s):=by
   show TF _ _ _ _ _ _ _ _;rw[hW2];refine⟨?_,?_,?_,?_,?_,?_⟩<;>simp
  clear ha hb hr hc hd hs hR2 hO2 HR HO HOw;go_wp2_with fail;rw[<-hW2];clear hW2;refine(Hz Zp Zt rs _ _ _ _ _ _ _ hlen (HS _ YZ) HL HF f1 f2 f3 f4 f5 f6).mono ?_;rintro e w3 ⟨rfl,hb3⟩;have HR3:=aK<|HR2.below hb3;have Zq:=aK<|YZ.below hb3;have HOw3:=dU<|H6 HOw2 hb3;have HC3:=dU<|HC.same fun o=>hb3.cell (p:=⟨_,o,none⟩) hz2;have hz3:=XJ hz2 hb3.size;clear hb3 HR2 YZ HOw2 HC hz2;cases hq:FU (ai rs) a b r c2 d s;case true=>
   obtain⟨c0,c1,c2',c3,c4,c5⟩:=HC3.out;clear hq;have HA:=dU<|uO g 0 c ts ⟨a,b,r,c2,d,s⟩ w3 cq (oH HOw3 rfl).2.2.1 (oH HOw3 rfl).1 (oH HOw3 rfl).2.1 HSh.fits HT.fits;go_wp2_with fail;refine HA.mono ?_;rintro e w5 ⟨v5,rfl,hown5,hb5⟩;have Zu:=aK<|HR3.below hb5;have Ze:=aK<|Zq.below hb5;clear c0 c1 c2' c3 c4 c5;cases hz:uD ts ⟨a,b,r,c2,d,s⟩;case true=>
    rw[Dc hz,ul]at hown5;obtain⟨g3,c3,rfl⟩:=uP hown5;have HOw5:O (bj w w5 29 6 (.slice (some<|am g3) (ts.length+1) c3) (ts.length+1)<|bZ<|kG ts ⟨a,b,r,c2,d,s⟩):=bW hown5 Zq.size;have HSh5:O (sN<|kG ts ⟨a,b,r,c2,d,s⟩):=HSh.put HT;have HLP:=dU<|ul ts ⟨a,b,r,c2,d,s⟩;have HQ:=dU hz;clear hown5 hb5 hz HA HOw3 HR3 Zq;go_wp2;go_roundw;case rel=>exact⟨k-1,kG ts ⟨a,b,r,c2,d,s⟩,g3,c3,by rw[show((k-1:Nat):Int)=(k:Int)-1 by omega],by rw[HLP];omega,by rw[HLP],HSh5,by rw[HLP];exact HOw5,Zu,Ze⟩
    simp[intOf];omega
   have HOw5:=dU<|H6 HOw3 hb5;rw[uk hz]at hown5;obtain⟨ad5,cap5,hv5,-,-⟩:=QT (ts:=[]) hown5 rfl;subst hv5;have HQ:=dU hz;clear hown5 hb5 hz HA HOw3 HR3 Zq;go_wp2;go_roundw;case rel=>exact⟨k-1,ts,g,c,by rw[show((k-1:Nat):Int)=(k:Int)-1 by omega],cq,rfl,HSh,HOw5,Zu,Ze⟩
   simp[intOf];omega
  clear hq;go_wp2_with fail;refine(jA R ad len cap 60 _ HR3 cq cq).mono ?_;rintro e w4 ⟨⟨q,rfl⟩,hR4,hO4⟩;have HR4:=dU hR4;have Zg:O (Only R w w4):=Zq.trans hO4;have HOw4:=dU<|nR HOw3 hRw hO4;have HC4:=dU<|HC3.same fun o=>hO4.cell (b:=w2.heap.size) (o:=o) hz3 hnR;clear hR4 hO4 HR3 Zq HOw3 HC3;cases q;case true=>
   obtain⟨c0,c1,c2',c3,c4,c5⟩:=HC4.out;have HA:=dU<|uO g 0 c ts ⟨a,b,r,c2,d,s⟩ w4 cq (oH HOw4 rfl).2.2.1 (oH HOw4 rfl).1 (oH HOw4 rfl).2.1 HSh.fits HT.fits;go_wp2_with fail;refine HA.mono ?_;rintro e w5 ⟨v5,rfl,hown5,hb5⟩;have Zu:=aK<|HR4.below hb5;have Ze:=aK<|Zg.below hb5;clear c0 c1 c2' c3 c4 c5;cases hz:uD ts ⟨a,b,r,c2,d,s⟩;case true=>
    rw[Dc hz,ul]at hown5;obtain⟨g3,c3,rfl⟩:=uP hown5;have HOw5:O (bj w w5 29 6 (.slice (some<|am g3) (ts.length+1) c3) (ts.length+1)<|bZ<|kG ts ⟨a,b,r,c2,d,s⟩):=bW hown5 Zg.size;have HSh5:O (sN<|kG ts ⟨a,b,r,c2,d,s⟩):=HSh.put HT;have HLP:=dU<|ul ts ⟨a,b,r,c2,d,s⟩;have HQ:=dU hz;clear hown5 hb5 hz HA HOw4 HR4 Zg;go_wp2;go_roundw;case rel=>exact⟨k-1,kG ts ⟨a,b,r,c2,d,s⟩,g3,c3,by rw[show((k-1:Nat):Int)=(k:Int)-1 by omega],by rw[HLP];omega,by rw[HLP],HSh5,by rw[HLP];exact HOw5,Zu,Ze⟩
    simp[intOf];omega
   have HOw5:=dU<|H6 HOw4 hb5;rw[uk hz]at hown5;obtain⟨ad5,cap5,hv5,-,-⟩:=QT (ts:=[]) hown5 rfl;subst hv5;have HQ:=dU hz;clear hown5 hb5 hz HA HOw4 HR4 Zg;go_wp2;go_roundw;case rel=>exact⟨k-1,ts,g,c,by rw[show((k-1:Nat):Int)=(k:Int)-1 by omega],cq,rfl,HSh,HOw5,Zu,Ze⟩
   simp[intOf];omega
  go_wp2;go_roundw;case rel=>exact⟨k-1,ts,g,c,by rw[show((k-1:Nat):Int)=(k:Int)-1 by omega],cq,rfl,HSh,HOw4,HR4,Zg⟩
  simp[intOf];omega
 obtain rfl:k=0:=cq;go_wp2;go_ret;exact⟨⟨g,c,ts,rfl,cq,HSh,HOw⟩,HR,HO⟩
def Fc.short.fits{f:Fc}(h:f.short):f.fits:=by unfold Fc.short at h;unfold Fc.fits maxLen;omega
def Ve(w:World)(e:Ending)(w':World):Prop:=∃(v:Value) (rs:Q06) (g c:Nat) (ts:Q05) (f:Fc),e=.returned (.tuple #[v,.slice (some ⟨g,0,none⟩) ts.length c,.agg #[.string f.a,.string f.b,.string f.r,.string f.c,.string f.d]])/\jq w' w.heap.size v rs/\GoodS rs/\ts.length<=12/\sN ts/\f.fits/\w'.ownsRow w.heap.size 29 6 (.slice (some ⟨g,0,none⟩) ts.length c) ts.length (bZ ts)/\ae w w'
def Vf(w:World)(R n:Nat):Prop:=n≠R/\n<w.heap.size/\(∀o,w.frozen? ⟨n,o,none⟩=false)/\∀j,j<5->∃u,w.cell? ⟨n,j,none⟩=some u
def Vf.only{w w':ag}{R n:Nat}(h:Vf w R n)(hO:Only R w w'):Vf w' R n:=by
 obtain⟨h1,h2,h3,h4⟩:=h;exact⟨h1,XJ h2 hO.size,fun o=>(hO.frozen (o:=o) h2 h1).trans<|h3 o,fun j hj=>by obtain⟨u,hu⟩:=h4 j hj;exact⟨u,(hO.cell (b:=n) (o:=j) h2 h1).trans hu⟩⟩
def jV{w:ag}{n i j:Nat}{v:Value}(h:i≠j):(w.setCell (ap n i) v).cell? (ap n j)=w.cell? (ap n j):=by
 apply World.cell?_setCell_other;intro e;exact h<|congrArg Addr.off e
def Vf.set{w:ag}{R n:Nat}(h:Vf w R n)(v0 v1 v2 v3 v4:Value)(W:ag)(hW:W=((((w.setCell (am n) v0).setCell (ap n 1) v1).setCell (ap n 2) v2).setCell (ap n 3) v3).setCell (ap n 4) v4):W.cell? (am n)=some v0/\W.cell? (ap n 1)=some v1/\W.cell? (ap n 2)=some v2/\W.cell? (ap n 3)=some v3/\W.cell? (ap n 4)=some v4/\Only n w W:=by
 obtain⟨-,-,-,h4⟩:=h;obtain⟨u0,c0⟩:=h4 0 cq;obtain⟨u1,c1⟩:=h4 1 cq;obtain⟨u2,c2⟩:=h4 2 cq;obtain⟨u3,c3⟩:=h4 3 cq;obtain⟨u4,c4⟩:=h4 4 cq;subst hW;refine⟨?_,?_,?_,?_,?_,((((Only.refl n w).set 0 v0).set 1 v1).set 2 v2).set 3 v3 |>.set 4 v4⟩
 ·rw[jV cq,jV cq,jV cq,jV cq];exact World.cell?_setCell_same _ _ _ c0
 ·rw[jV cq,jV cq,jV cq];exact World.cell?_setCell_same (u:=u1) _ _ _ (by rw[jV cq];exact c1)
 ·rw[jV cq,jV cq];exact World.cell?_setCell_same (u:=u2) _ _ _ (by rw[jV cq,jV cq];exact c2)
 ·rw[jV cq];exact World.cell?_setCell_same (u:=u3) _ _ _ (by rw[jV cq,jV cq,jV cq];exact c3)
 exact World.cell?_setCell_same (u:=u4) _ _ _ (by rw[jV cq,jV cq,jV cq,jV cq];exact c4)
def Em[DecidableEq Fc](ad:Q02)(len cap:Nat)(w:ag)(h:Bytes w ad len):
  Calls prog 67 #[.slice ad len cap] w (Ve w):=by
 have H:=aK h;clear h;obtain⟨W0,hW0⟩:=eQx<|w.alloc<|.cells ar 52;have HB0:=lX hW0;have HZ0:O (W0.heap.size=w.heap.size+1):=by show _=_;rw[hW0];simp
 have HS0:O (Vf W0 (w.heap.size+1) w.heap.size):=by
  show Vf _ _ _;rw[hW0];refine⟨cq,ct,fun o=>ct,fun j hj=>?_⟩;have hc:j=0\/j=1\/j=2\/j=3\/j=4:=cq
  rcases hc with rfl|rfl|rfl|rfl|rfl<;>exact⟨_,by simp;rfl⟩
 go_enter func67,ntmps67;go_wp2_with fail;rw[<-hW0];clear hW0;refine(QH ad len cap _<|H.below HB0).mono ?_;rintro e w1 ⟨rfl,Zr,hb1⟩;rw[HZ0]at Zr ⊢;obtain⟨R,hRR⟩:=eQx<|w.heap.size+1;rw[<-hRR]at Zr HS0 ⊢;have HB1:=jr HB0 hb1;have HR1:=aK Zr;have HS1:=dU<|HS0.only<|Only.of_below hb1;have hRn:w.heap.size<R:=cq;clear Zr hb1 HS0 HB0 HZ0 hRR;go_wp2_with fail;refine(Mx R ad len cap _ HR1).mono ?_;rintro e w2 ⟨v,rs,rfl,hT2,hG,hR2,hO2⟩;have hb:=HR1.lt;obtain⟨Zp,Zt,rfl,-,-⟩:=hT2.read;have HR2:=aK hR2;have HB2:O (ae w w2):=Only.toBelow HB1 hO2 HB1.size cq;have HT2:=aK hT2;have HG:O (GoodS rs):=hG;have HS2:=dU<|HS1.only hO2;clear hT2 hG hR2 hO2 HB1 HR1 HS1;go_wp2_with fail;refine(El R ad len cap Zp Zt w1.heap.size rs _ HR2 hb HT2 HG).mono ?_;rintro e w3 ⟨⟨g,c,ts,rfl,hl9,hsh,hown⟩,hR3,hO3⟩;have HB3:O (ae w w3):=Only.toBelow HB2 hO3 HB2.size cq;have HT3:O (jq w3 w1.heap.size (.slice Zp rs.length Zt) rs):=HT2.only hb hO3;have hw:cY w w1:=cq;have hs2:cW R w2:=HR2.lt;obtain⟨hrow,hg,-,hbg⟩:=oH hown rfl;have HO:=aK hown;have HS3:=dU<|HS2.only hO3;have HR3:=dU hR3;obtain⟨st,hle⟩:=Vs<|ai rs;obtain⟨adQ,capQ,eQ,hsl,hcp⟩:=HT3.read;injection eQ with e1 e2 e3;subst e1;have Zd:=dU<|zW (st:=st) HG.2.2 hsh.fits;have HFQ:=dU (Ej st Zp Zt rs (some<|am g) c ts w3 (by have:=HG.1;omega) hsl HG.2.1 HG.2.2 cq (.inr ⟨g,0,rfl,hg,hrow⟩) hsh.fits hle);have HSH:=dU hsh;have hLl:=jJ st (rs:=rs) (ts:=ts);clear hR3 hO3 HR2 HB2 HT2 HS2 hown hrow hg hbg hsh hsl hcp e2 e3 hle;go_wp2_with fail;refine HFQ.mono ?_;rintro e w4 ⟨⟨vf,rfl,hof⟩,hb4⟩;have hlf:(lc st rs ts).length<=115200:=by rw[MP];exact hLl
 obtain⟨ZG,Za,rfl,hSF⟩:=gV hof;have Z7:=jr HB3 hb4;have HT4:O (jq w4 w1.heap.size (.slice Zp rs.length Zt) rs):=Zi.below nZ HT3 hb4;have HR4:=aK<|HR3.below hb4;have HS4:=dU<|HS3.only<|Only.of_below hb4;have Zg:O (bj w2 w4 29 6 (.slice (some<|am g) ts.length c) ts.length<|bZ ts):=nR HO hs2<|Only.of_below hb4;have hR4s:cW R w3:=HR3.lt;have HOF:=dU hof;have HSF:=dU hSF;have hn1:cX w w1:=cq;have hn2:cX w w2:=cq;clear hb4 hof hSF HFQ HB3 HT3 HR3 HS3 HO;obtain⟨n,hn⟩:=eQx<|(lc st rs ts).length;have HNN:=dU hn;have hn5:n<=115200:=cq
 -- a fact that was drawn,of whatever kind
 have ZK:O (∀(wc:World) (f:Fc),Only R w4 wc->f.fits->∀W5,W5=((((wc.setCell (aE w)<|.string f.a).setCell (a6 w 1)<|.string f.b).setCell (a6 w 2)<|.string f.r).setCell (a6 w 3)<|.string f.c).setCell (a6 w 4) (.string f.d)->Ve w (.returned<|.tuple #[.slice Zp rs.length Zt,.slice (some<|am g) ts.length c,.agg<|cf f]) W5):=by
  intro wc f hO hf W5 ZZ;obtain⟨-,-,-,-,-,ZE⟩:=(HS4.only hO).set _ _ _ _ _ W5 ZZ;have hBc:ae w wc:=Only.toBelow Z7 hO Z7.size cq;exact⟨_,rs,g,c,ts,f,rfl,Zi.lower ((HT4.only hb hO).only hn1 ZE) hw,HG,hl9,HSH,hf,bW (nR (nR Zg hs2 hO) hn2 ZE)<|YV hn2,Only.toBelow hBc ZE hBc.size<|XK _⟩
 have HDRAW:O (∀wc,Only R w4 wc->Rd wc R ad len cap->Calls prog 152 #[.pointer (some<|am R)] wc fun e w'=>(∃f:Fc,e=.returned (.agg<|cf f)/\f.short)/\Rd w' R ad len cap/\Only R wc w'):=fun wc _ hR=>Tg R ad len cap wc hR;by_cases hz:n=0
 ·have hd1:decide ((0:Int)<(n:Int))=false:=by simp;omega
  have hd2:decide (0<n)=false:=by simp;omega
  rw[<-hn];clear hn;go_wp2_with fail;refine(HDRAW _ (Only.refl R w4) HR4).mono ?_;rintro e w6 ⟨⟨f,rfl,hsf⟩,-,hO6⟩;have HFF:=dU hsf.fits;have ZI:=dU<|Only.trans (Only.refl R w4) hO6;clear hsf hO6;obtain⟨W5,ZZ⟩:=eQx<|((((w6.setCell (aE w)<|.string f.a).setCell (a6 w 1)<|.string f.b).setCell (a6 w 2)<|.string f.r).setCell (a6 w 3)<|.string f.c).setCell (a6 w 4)<|.string f.d;have hS6:=HS4.only<|ZI;have Zu:=dU<|ZK w6 f (ZI) HFF W5 ZZ;have HC5:=dU<|hS6.set _ _ _ _ _ W5 ZZ;obtain⟨s1,s2,s3,s4⟩:=hS6;obtain⟨u0,k0⟩:=s4 0 cq;obtain⟨u1,k1⟩:=s4 1 cq;obtain⟨u2,k2⟩:=s4 2 cq;obtain⟨u3,k3⟩:=s4 3 cq;obtain⟨u4,k4⟩:=s4 4 cq;clear s4;go_wp2;rw[<-ZZ];clear ZZ k0 k1 k2 k3 k4 s2 s3;obtain⟨c0,c1,c2,c3,c4,-⟩:=HC5.out;exact bodyPost_ret (v:=.tuple #[.slice Zp rs.length Zt,.slice (some<|am g) ts.length c,.agg<|cf f]) (by simp[results,Tryz.results67,go_sem, *]) rfl Zu
 have hd1:decide ((0:Int)<(n:Int))=true:=by simp;omega
 have hd2:decide (0<n)=true:=by simp;omega
 rw[<-hn];clear hn;go_wp2_with fail;refine(jA R ad len cap 2 _ HR4 cq cq).mono ?_;rintro e w5 ⟨⟨q,rfl⟩,ZB,ZE⟩;have Zu:=dU ZB;have Ze:=dU ZE;clear ZB ZE;cases q;case false=>
  go_wp2_with fail;refine(HDRAW _ (Ze) Zu).mono ?_;rintro e w6 ⟨⟨f,rfl,hsf⟩,-,hO6⟩;have HFF:=dU hsf.fits;have ZI:=dU<|Only.trans (Ze) hO6;clear hsf hO6;obtain⟨W5,ZZ⟩:=eQx<|((((w6.setCell (aE w)<|.string f.a).setCell (a6 w 1)<|.string f.b).setCell (a6 w 2)<|.string f.r).setCell (a6 w 3)<|.string f.c).setCell (a6 w 4)<|.string f.d;have hS6:=HS4.only<|ZI;have Zu:=dU<|ZK w6 f (ZI) HFF W5 ZZ;have HC5:=dU<|hS6.set _ _ _ _ _ W5 ZZ;obtain⟨s1,s2,s3,s4⟩:=hS6;obtain⟨u0,k0⟩:=s4 0 cq;obtain⟨u1,k1⟩:=s4 1 cq;obtain⟨u2,k2⟩:=s4 2 cq;obtain⟨u3,k3⟩:=s4 3 cq;obtain⟨u4,k4⟩:=s4 4 cq;clear s4;go_wp2;rw[<-ZZ];clear ZZ k0 k1 k2 k3 k4 s2 s3;obtain⟨c0,c1,c2,c3,c4,-⟩:=HC5.out;exact bodyPost_ret (v:=.tuple #[.slice Zp rs.length Zt,.slice (some<|am g) ts.length c,.agg<|cf f]) (by simp[results,Tryz.results67,go_sem, *]) rfl Zu
 have HR6:=dU<|Zu.below (XL _ _).drew;have ZI:=dU<|Ze.trans<|Only.of_below (XL w5.heap.size w5).drew;have HB6:=dU<|MS R ad len cap n w5.drew HR6 cq cq;go_wp2_with fail;refine wp_region_held_drew (S:=fun _=>True) cw trivial (fun hHeld=>?_);refine tk 0 26 ?_;go_frame;refine tk 1 27 ?_;go_frame;refine tk 2 28 ?_;go_frame;refine tk 3 29 ?_;go_frame;refine tk 4 30 ?_;go_frame;refine tk 5 31 ?_;go_frame;refine wpAnyH_ready (rs:=[6]) cw ct ?_;refine AllReadyH.cons rfl (fun K hK=>?_) AllReadyH.nil;go_simp;refine HB6.mono ?_;rintro e w7 ⟨⟨x,rfl,hx⟩,-,hO7⟩;have HO7:=dU<|ZI.trans hO7;go_wp2_with fail;refine hK _ _ trivial (fun _=>?_);clear hK K;have hxl:x<(lc st rs ts).length:=by have:=HNN.out;omega
 have h7:=HOF.kept HO7 (.inr fun e=>by have:=(HOF.lt R e).1;omega);obtain⟨adX,capX,eX,hS7⟩:=gV h7;injection eX with e1 e2 e3;subst e1;rcases hS7 with hnil|⟨b,off,rfl,hbl,hrow⟩
 ·rw[hnil]at hxl;simp at hxl
 obtain⟨f,hf⟩:=eQx<|(lc st rs ts)[x];have t5:=hrow x hxl;rw[<-hf]at t5;obtain⟨t0,t1,t2,t3,t4⟩:=t5;have HFF:O f.fits:=by show f.fits;rw[hf];exact Zd _<|(nk _).mem_iff.1<|XI hxl
 have hx1:=bG x;have hx2:(x:Int)<(n:Int):=cq;clear hf hrow hbl h7 e2 e3 hO7 hxl;refine tk 7 33 ?_;go_frame;refine tk 9 2 ?_;go_frame;refine tk 10 3 ?_;go_frame;refine wpAnyH_ready (rs:=[8]) cw ct ?_;refine AllReadyH.cons rfl (fun K hK=>?_) AllReadyH.nil;go_simp;refine hK _ _ trivial (fun _=>?_);clear hK K;obtain⟨W5,ZZ⟩:=eQx<|((((w7.setCell (aE w)<|.string f.a).setCell (a6 w 1)<|.string f.b).setCell (a6 w 2)<|.string f.r).setCell (a6 w 3)<|.string f.c).setCell (a6 w 4)<|.string f.d;have hS6:=HS4.only<|HO7;have Zu:=dU<|ZK w7 f (HO7) HFF W5 ZZ;have HC5:=dU<|hS6.set _ _ _ _ _ W5 ZZ;obtain⟨s1,s2,s3,s4⟩:=hS6;obtain⟨u0,k0⟩:=s4 0 cq;obtain⟨u1,k1⟩:=s4 1 cq;obtain⟨u2,k2⟩:=s4 2 cq;obtain⟨u3,k3⟩:=s4 3 cq;obtain⟨u4,k4⟩:=s4 4 cq;clear s4;refine wpAnyH_ready (rs:=[11]) cw ct ?_;refine AllReadyH.cons rfl (fun K hK=>?_) AllReadyH.nil;go_simp;rw[<-ZZ];clear ZZ k0 k1 k2 k3 k4 s2 s3;obtain⟨c0,c1,c2,c3,c4,-⟩:=HC5.out;refine hK _ _ trivial (fun _=>?_);clear hK K;refine wpAnyH_done cw ?_ _;go_wp2;exact bodyPost_ret (v:=.tuple #[.slice Zp rs.length Zt,.slice (some<|am g) ts.length c,.agg<|cf f]) (by simp[results,Tryz.results67,go_sem, *]) rfl Zu
def Au[DecidableEq Fc](ad:Q02)(len cap:Nat)(w:ag)(h:Bytes w ad len):
  Calls prog 17 #[.slice ad len cap] w (Ve w):=by
 obtain⟨W0,hW0⟩:=eQx<|w.alloc<|.cells ar 52;have HB0:=lX hW0;have hz0:w.heap.size<W0.heap.size:=by rw[hW0];simp
 have HD:=dU<|Em ad len cap W0<|h.below HB0;have HS0:O (Vf W0 (w.heap.size+1) w.heap.size):=by
  show Vf _ _ _;rw[hW0];refine⟨cq,ct,fun o=>ct,fun j hj=>?_⟩;have hc:j=0\/j=1\/j=2\/j=3\/j=4:=cq
  rcases hc with rfl|rfl|rfl|rfl|rfl<;>exact⟨_,by simp;rfl⟩
 clear h;go_enter func17,ntmps17;go_wp2_with fail;rw[<-hW0];clear hW0;refine HD.mono ?_;rintro e w2 ⟨v,rs,g,c,ts,f,rfl,hT,hG,hl,hsh,hf,hown,hb2⟩;obtain⟨Zp,Zt,rfl,-,-⟩:=hT.read;have HB2:=jr HB0 hb2;have hS2:=HS0.only<|Only.of_below hb2;obtain⟨W5,ZZ⟩:=eQx<|((((w2.setCell (aE w)<|.string f.a).setCell (a6 w 1)<|.string f.b).setCell (a6 w 2)<|.string f.r).setCell (a6 w 3)<|.string f.c).setCell (a6 w 4)<|.string f.d;have HC5:=dU<|hS2.set _ _ _ _ _ W5 ZZ;have Zu:O (Ve w (.returned<|.tuple #[.slice Zp rs.length Zt,.slice (some<|am g) ts.length c,.agg<|cf f]) W5):=by
  obtain⟨-,-,-,-,-,ZE⟩:=HC5.out;exact⟨_,rs,g,c,ts,f,rfl,Zi.lower (hT.only hz0 ZE)<|YV hz0,hG,hl,hsh,hf,bW (nR hown hz0 ZE)<|YV hz0,Only.toBelow HB2 ZE HB2.size<|XK _⟩
 obtain⟨s1,s2,s3,s4⟩:=hS2;obtain⟨u0,k0⟩:=s4 0 cq;obtain⟨u1,k1⟩:=s4 1 cq;obtain⟨u2,k2⟩:=s4 2 cq;obtain⟨u3,k3⟩:=s4 3 cq;obtain⟨u4,k4⟩:=s4 4 cq;clear s4 hT hG hl hsh hf hown hb2 HB2 HD HS0 HB0;go_wp2;rw[<-ZZ];clear ZZ k0 k1 k2 k3 k4 s2 s3;obtain⟨c0,c1,c2,c3,c4,-⟩:=HC5.out;exact bodyPost_ret (v:=.tuple #[.slice Zp rs.length Zt,.slice (some<|am g) ts.length c,.agg<|cf f]) (by simp[results,Tryz.results17,go_sem, *]) rfl Zu
set_option linter.unusedSectionVars false
section
variable  [DecidableEq Fc]
def zi(st:Q00)(rs:Q06)(ts:Q05)(f:Fc):Bool:=aR (aA st rs ts) f
def qV(st:Q00)(rs:Q06)(ts:Q05)(f:Fc):List Fc:=if aR (aA st rs ts) f then kD rs ts (aA st rs ts) f (idx (aA st rs ts) f) else []
def zk{st:Q00}{rs:Q06}{ts:Q05}{f:Fc}(h:aR (aA st rs ts) f=false):zi st rs ts f=false/\qV st rs ts f=[]:=by
 unfold zi qV;rw[h];exact⟨rfl,rfl⟩
def uu{st:Q00}{rs:Q06}{ts:Q05}{f:Fc}{k:Nat}(hk:k<(aA st rs ts).length)(h:(aA st rs ts)[k]=f):zi st rs ts f=true/\qV st rs ts f=kD rs ts (aA st rs ts) f k:=by
 have h1:aR (aA st rs ts) f=true:=aU.2<|h ▸ XI hk;have h2:idx (aA st rs ts) f=k:=by rw[<-h];exact jf _ x9 k hk
 unfold zi qV;rw[h1,h2];exact⟨rfl,rfl⟩
def J7(st:Q00)(ad:Q02)(cap:Nat)(rs:Q06)(Y8:Q02)(cap':Nat)(ts:Q05)(f:Fc)(w:ag)(hlen:a7 rs)(hs:kI w ad rs)(hl:∀r∈rs,r.light)(hfr:∀r∈rs,r.fits)(hlt:a7 ts)(hst:Sl w Y8 ts)(hft:∀x∈ts,x.fits)(hle:aN (ai rs)=true->Least (ai rs) st):
  Calls prog 19 #[.slice ad rs.length cap,.slice Y8 ts.length cap',.agg<|cf f] w fun e w'=>∃ad5 cap5,e=.returned (.tuple #[.slice ad5 (qV st rs ts f).length cap5,.bool<|zi st rs ts f])/\jX w' ad5 (qV st rs ts f)/\ae w w' :=
 (Ap st ad cap rs Y8 cap' ts f w hlen hs hl hfr hlt hst hft (qR hfr hft) hle).mono fun e w' ⟨h,hb⟩=>by
  rcases h with⟨h,he⟩|⟨k,hk,gP,capP,h1,h2,he,h3⟩
  ·rw[(zk h).1,(zk h).2];exact⟨none,0,he,.inl rfl,hb⟩
  rw[(uu hk h1).1,(uu hk h1).2];obtain⟨_,_,e2,h4⟩:=gV h3;injection e2 with e2;subst e2;exact⟨some<|am gP,capP,he,h4,hb⟩
def XD(st:Q00)(rs:Q06)(ts:Q05)(f:Fc)(w:World)(e:Ending)(w':World):Prop:=(∃v,e=.returned (.tuple #[v,.bool<|zi st rs ts f])/\w'.ownsRow w.heap.size 52 5 v (qV st rs ts f).length (av<|qV st rs ts f))/\ae w w'
def Av(st:Q00)(ad:Q02)(cap:Nat)(rs:Q06)(Y8:Q02)(cap':Nat)(ts:Q05)(f:Fc)(w:ag)(hlen:a7 rs)(hs:kI w ad rs)(hl:∀r∈rs,r.light)(hfr:∀r∈rs,r.fits)(hcp:∀r∈rs,r.caps)(hlt:a7 ts)(hst:Sl w Y8 ts)(hft:∀x∈ts,x.fits)(hle:aN (ai rs)=true->Least (ai rs) st):
  Calls prog 18 #[.slice ad rs.length cap,.slice Y8 ts.length cap',.agg<|cf f] w (XD st rs ts f w):=by
 have hQl:=jJ st (rs:=rs) (ts:=ts);have HQF:=ah<|qR (st:=st) hfr hft;have Zf:=ah<|DC (st:=st) (ts:=ts) hle;obtain⟨W0,hW0⟩:=eQx<|w.alloc<|.cells (cf f) 52;have hB0:ae w W0:=by rw[hW0];exact(XL _ _).alloc (XK _) _
 have Zv:O (kC W0 w.heap.size f):=by show kC _ _ _;rw[hW0];exact World.alloc_heap_new w _
 have HC:=ah<|xZ st ad cap rs Y8 cap' ts W0 hlen (hs.below hB0) hl hfr hcp hlt (hst.below hB0) hft hle;have HS:=ah<|hs.below hB0;have Zd:=ah hft;have HB0:=ah hB0;have ZQ:O (aQ (fU rs) rs ts=false->aA st rs ts=[]):=fun h=>fV h;clear hs hl hfr hcp hst hft hle hB0;go_enter func18,ntmps18;go_wp2_with fail;rw[<-hW0];clear hW0;refine HC.mono ?_;rintro e w1 ⟨hb1,⟨hr,rfl⟩|⟨hr,P,D,br,bp,bt,nr,np,n1,Mr,Er,Mp,vo,vu,ZG,Za,bK,nK,rfl,hPM,hDA,hcap⟩⟩
 ·have HB1:=ah<|HB0.trans<|hb1.mono HB0.size;have HR:O (XD st rs ts f w (.returned<|.tuple #[.slice none 0 0,.bool false]) w1):=by
   have h0:aR (aA st rs ts) f=false:=by rw[ZQ hr];rfl
   refine⟨⟨.slice none 0 0,by rw[(zk h0).1],?_⟩,HB1⟩;rw[(zk h0).2];exact World.ownsRow_nil _ _ _ _
  clear hb1 hr HC;go_wp2;exact bodyPost_ret (v:=.tuple #[.slice none 0 0,.bool false]) (by simp[results,Tryz.results18,go_sem]) rfl HR
 have hsd:aN (ai rs)=true/\ts.length<=40:=by
  unfold aQ dW at hr;simp only[XN,XU]at hr;exact⟨hr.1.1,hr.1.2.1⟩
 have HSH:=ah (bf.1 hsd.1).1;have ht40:=hsd.2;obtain⟨Q,hQ⟩:=eQx<|aA st rs ts;have HQN:O Q.Nodup:=by show Q.Nodup;rw[hQ];exact x9
 have HOK:O (∀x∈Q,okB x=true):=by show ∀x∈Q,okB x=true;rw[hQ];exact Dz
 have HYES:O (∀k (hk:k<Q.length),Q[k]=f->zi st rs ts f=true/\qV st rs ts f=kD rs ts Q f k):=by
  show ∀k (hk:k<Q.length),Q[k]=f->zi st rs ts f=true/\qV st rs ts f=kD rs ts Q f k;rw[hQ];exact fun k hk h=>uu hk h
 have HNON:O (aR Q f=false->zi st rs ts f=false/\qV st rs ts f=[]):=by
  show aR Q f=false->_;rw[hQ];exact fun h=>zk h
 rw[<-hQ]at hQl HQF Zf hPM hcap;obtain⟨k0,k1,k2,k3,k4,kl⟩:=Zv.c;have g0:=az hb1 kl k0;have g1:=az hb1 kl k1;have g2:=az hb1 kl k2;have g3:=az hb1 kl k3;have g4:=az hb1 kl k4;have HB1:=ah<|HB0.trans<|hb1.mono HB0.size;have HS1:=ah<|HS.below hb1;have HPM:=ah hPM;have HDA:=ah hDA;have hPl:=hPM.lt;have c1:=hPM.c1;have HIX:O (∀W',ae w1 W'->Calls prog 69 #[.slice ZG Q.length Za,.agg<|cf f] W' fun e w'=>(∃r:Int,e=.returned (.int .i64 r)/\(r=-1/\aR Q f=false \/ ∃k:Nat,r=(k:Int)/\∃h:k<Q.length,Q[k]=f/\f ∉ Q.take k))/\ae W' w'):=fun W' hb=>J4 ZG Za Q f W' cq<|HPM.found.below hb;have HSA:O (∀w',ae w1 w'->ac w' P 1 (.slice ZG Q.length Za)/\ab w' w.heap.size (.string f.a)/\ac w' w.heap.size 1 (.string f.b)/\ac w' w.heap.size 2 (.string f.r)/\ac w' w.heap.size 3 (.string f.c)/\ac w' w.heap.size 4 (.string f.d)/\ae w1 w'):=fun w' h =>
  ⟨az h hPl c1,az h (ax g0) g0,az h (ax g1) g1,az h (ax g2) g2,az h (ax g3) g3,az h (ax g4) g4,h⟩
 clear hr hsd hb1 hPM hDA hQ k0 k1 k2 k3 k4 kl HC ZQ g0 g1 g2 g3 g4 c1;go_wp2_with fail
 go_region_held3 (fun w'=>w'.cell? (ap P 1)=some (.slice ZG Q.length Za)/\w'.cell? (aE w)=some (.string f.a)/\w'.cell? (a6 w 1)=some (.string f.b)/\w'.cell? (a6 w 2)=some (.string f.r)/\w'.cell? (a6 w 3)=some (.string f.c)/\w'.cell? (a6 w 4)=some (.string f.d)/\ae w1 w')
  (first|assumption|exact HSA _ (V9 (And.right<|And.right<|And.right<|And.right<|And.right<|And.right cE) hbx)|exact HSA _ (XL _ _).drew)
  (first|(go_at_call 69;refine(HIX _<|And.right<|And.right<|And.right<|And.right<|And.right<|And.right cE).mono ?_;rintro e w2 ⟨⟨r,rfl,hr⟩,hbx⟩))
 rename_i hJ;have HB2:=ah hJ.2.2.2.2.2.2;have c1:=hJ.1;clear hJ hbx;rcases hr with⟨rfl,h0⟩|⟨k,rfl,hk,hkf,-⟩
 ·have HR:O (XD st rs ts f w (.returned<|.tuple #[.slice none 0 0,.bool false]) w2):=by
   obtain⟨e1,e2⟩:=HNON h0;refine⟨⟨.slice none 0 0,by rw[e1],?_⟩,HB1.trans<|HB2.mono HB1.size⟩;rw[e2];exact World.ownsRow_nil _ _ _ _
  clear h0;go_wp2;exact bodyPost_ret (v:=.tuple #[.slice none 0 0,.bool false]) (by simp[results,Tryz.results18,go_sem]) rfl HR
 have hln:(Q.take<|k+1).length=k+1:=by rw[Yc];omega
 have HND:=ah<|MR w2 rs ts Q ad P D br bp bt bK nK n1 nr Mr Er _ _ np Mp vo vu ZG Za ZG Za k (HPM.below HB2) (HDA.below HB2) Zd ht40 HSH (HS1.below HB2) HQF HQN hQl HOK Zf hk ((HPM.found.below HB2).takeF<|k+1) cq;rw[hln,hkf]at HND;have HYE:=ah<|HYES k hk hkf;have n1:(0:Int)<=(k:Int)+1:=cq;have n2:(k:Int)+1<=(Za:Int):=cq;have n3:¬(k:Int)<0:=cq;have hw3:IntKind.i64.wrap ((k:Int)+1)=((k+1:Nat):Int):=by rw[IntKind.wrap_i64];omega
 have hP2:cW P w2:=XJ hPl HB2.size;clear hln hkf;go_wp2_with fail;refine HND.mono ?_;rintro e w3 ⟨⟨v,rfl,hown⟩,hb3⟩;have HR:O (XD st rs ts f w (.returned<|.tuple #[v,.bool true]) w3):=by
  have hs2:cY w w2:=XR HB1.size HB2.size;refine⟨⟨v,by rw[HYE.1],?_⟩,(HB1.trans<|HB2.mono HB1.size).trans<|hb3.mono hs2⟩;rw[HYE.2];exact bW hown hs2
 clear hown hb3 HND;go_wp2;exact bodyPost_ret (v:=.tuple #[v,.bool true]) (by simp[results,Tryz.results18,go_sem]) rfl HR
end
def P8{rs:Q06}{ts:Q05}{Q x y:Q04}{f:Fc}(hs:∀g∈x,g∈y)(h:cO rs ts Q f (aR x)=true):cO rs ts Q f (aR y)=true:=by
 rw[pX]at h ⊢;exact PX hs h
def J8{R:Fc->Ru}{Q:Q04}(h:uC R Q)(n:Nat):uC R (Q.take n):=by
 have h1:uC R (Q.take n++Q.drop n):=by rw[List.take_append_drop];exact h
 exact h1.left
def yf(test:Nat->List Fc->Bool)(Q:Q04):∀(n:Nat) (kept:Q04),n<=Q.length->∃pre,ja test Q n kept=pre++kept/\∀x∈pre,x∈Q
 | 0,kept,_=>⟨[],rfl,fun x hx=>by cases hx⟩
 | n+1,kept,hn=>by
  have hi:n<Q.length:=cq;cases h:test n kept;case true=>rw[pV hi h];exact yf test Q n kept cq
  rw[sI hi h];obtain⟨pre,e,hp⟩:=yf test Q n (Q[n]::kept) cq;refine⟨pre++[Q[n]],by rw[e];simp,fun x hx=>?_⟩;rcases XV.1 hx with h1|h1
  ·exact hp x h1
  obtain rfl:=XX.1 h1;exact XI hi
section
variable  {rs:Q06}{ts:Q05}{Q:Q04}
def TG{n:Nat}{kept:Q04}(hok:∀x∈Q,okB x=true)(hk:∀x∈kept,x∈Q):eY rs ts Q n kept=true↔uC (cO rs ts Q) (Q.take n++kept):=by
 unfold eY;exact sZ fun x hx=>by
  rcases XV.1 hx with h|h
  ·exact hok x<|List.mem_of_mem_take h
  exact hok x<|hk x h
def DJ(hok:∀x∈Q,okB x=true):∀(n:Nat) (kept:Q04),n<=Q.length->(∀x∈kept,x∈Q)->uC (cO rs ts Q) (Q.take n++kept)->uC (cO rs ts Q) (ja (eY rs ts Q) Q n kept)
 | 0,kept,_,_,h=>by
  show uC _ kept;simpa using h
 | n+1,kept,hn,hk,h=>by
  have hi:n<Q.length:=cq;have h1:=F9 hi hok hk h;cases ht:eY rs ts Q n kept;case true=>
   rw[ht]at h1;rw[pV hi ht];exact DJ hok n kept cq hk h1
  rw[ht]at h1;rw[sI hi ht];refine DJ hok n _ cq (fun x hx=>?_) h1;rcases X7.1 hx with rfl|h2
  ·exact XI hi
  exact hk x h2
def DK(hQ:uC (cO rs ts Q) Q)(hok:∀x∈Q,okB x=true):∀(n:Nat) (kept:Q04),n<=Q.length->(∀x∈kept,x∈Q)->(∀j,j+1<kept.length->¬uC (cO rs ts Q) (Q.take n++kept.eraseIdx j)) ->
  ∀j,j+1<(ja (eY rs ts Q) Q n kept).length->¬uC (cO rs ts Q) ((ja (eY rs ts Q) Q n kept).eraseIdx j)
 | 0,kept,_,_,h=>fun j hj=>by
  have:=h j hj;show ¬uC _ (kept.eraseIdx j);simpa using this
 | n+1,kept,hn,hk,h=>by
  have hi:n<Q.length:=cq;have e:Q.take (n+1)=Q.take n++[Q[n]]:=XM hi;cases ht:eY rs ts Q n kept;case true=>
   rw[pV hi ht];refine DK hQ hok n kept cq hk fun j hj hp=>h j hj ?_;refine R5 (J8 hQ<|n+1) fun i hi2=>P8 (fun g hg=>?_) (hp.from hi2);rcases XV.1 hg with h1|h1
   ·exact XV.2 (.inl<|by rw[e];exact XV.2<|.inl h1)
   exact XV.2<|.inr h1
  rw[sI hi ht];refine DK hQ hok n _ cq (fun x hx=>?_) fun j hj hp=>?_
  ·rcases X7.1 hx with rfl|h2
   ·exact XI hi
   exact hk x h2
  cases j with
  | zero =>
   have:=(TG hok hk).2 hp;rw[ht]at this;cases this
  | succ j =>
   refine h j (by simpa using hj) ?_;rw[e,Ye];rw[List.eraseIdx_cons_succ]at hp;exact hp
end
section
variable  [DecidableEq Fc]
def TH{st:Q00}{rs:Q06}{ts:Q05}{f:Fc}(hle:aN (ai rs)=true->Least (ai rs) st)(h:zi st rs ts f=true):
  (∃pre,qV st rs ts f=pre++[f])/\((qV st rs ts f).length<=200->x8 st rs ts (qV st rs ts f)=true)/\∀j,j+1<(qV st rs ts f).length->x8 st rs ts ((qV st rs ts f).eraseIdx j)=false:=by
 have hm:f∈aA st rs ts:=aU.1 h;obtain⟨k,hk,hkf⟩:=Yk hm;have hL:=(uu hk hkf).2;have hQ:=DC (st:=st) (ts:=ts) hle;have hok:=Dz (st:=st) (rs:=rs) (ts:=ts);have hr:aQ (fU rs) rs ts=true:=by
  cases e:aQ (fU rs) rs ts;case true=>rfl
  rw[fV e]at hm;cases hm
 have h1:∀x∈[f],x∈aA st rs ts:=fun x hx=>by obtain rfl:=XX.1 hx;exact hm
 have h2:uC (cO rs ts<|aA st rs ts) ((aA st rs ts).take k++[f]):=by
  have:=J8 hQ<|k+1;rw[XM hk,hkf]at this;exact this
 rw[hL];unfold kD;obtain⟨pre,e,hp⟩:=yf (eY rs ts<|aA st rs ts) (aA st rs ts) k [f] cq;have hmem:∀x∈ja (eY rs ts<|aA st rs ts) (aA st rs ts) k [f],x∈aA st rs ts:=fun x hx=>by
  rw[e]at hx;rcases XV.1 hx with h3|h3
  ·exact hp x h3
  exact h1 x h3
 refine⟨⟨pre,e⟩,fun h200=>?_,fun j hj=>?_⟩
 ·have h3:=(sZ (Q:=aA st rs ts) fun x hx=>hok x<|hmem x hx).2 (DJ hok k [f] cq h1 h2);unfold x8;rw[hr,h3,decide_eq_true h200,decide_eq_true (show 1<=_ by rw[e];simp)];rfl
 have h3:=DK hQ hok k [f] cq h1 (fun j hj=>by simp at hj) j hj;unfold x8;cases h4:oQ rs ts (aA st rs ts) ((ja (eY rs ts<|aA st rs ts) (aA st rs ts) k [f]).eraseIdx j) ((ja (eY rs ts<|aA st rs ts) (aA st rs ts) k [f]).eraseIdx j).length;case false=>simp
 exact absurd ((sZ (Q:=aA st rs ts) fun x hx=>hok x<|hmem x<|List.mem_of_mem_eraseIdx hx).1 h4) h3
end
end Go.Proofs.YtojjoblnpldniaaGreat
namespace Go.Proofs.YtojjoblnpldniaaGreat.fnProof
open Go.Sort
open ChangeShapes WideShapes ChangeAt RowKit
open Pl
set_option linter.unusedVariables false
set_option linter.unusedSimpArgs false
structure St(w:World)(Zp:Q02)(g n:Nat)(rs:Q06)(ts:Q05)(f:Fc)(W:World):Prop where
 bel:ae w W
 sl:kI W Zp rs
 tu:Sl W (some ⟨g,0,none⟩) ts
 lt:n<W.heap.size
 bx:W.cell? ⟨n,0,none⟩=some (.string f.a)/\W.cell? ⟨n,1,none⟩=some (.string f.b)/\W.cell? ⟨n,2,none⟩=some (.string f.r)/\W.cell? ⟨n,3,none⟩=some (.string f.c)/\W.cell? ⟨n,4,none⟩=some (.string f.d)
def St.later{w W W':ag}{Zp:Q02}{g n:Nat}{rs:Q06}{ts:Q05}{f:Fc}(h:St w Zp g n rs ts f W)(hb:ae W W'):St w Zp g n rs ts f W' :=
 ⟨h.bel.trans<|hb.mono h.bel.size,h.sl.below hb,h.tu.below hb,XJ h.lt hb.size,by
  obtain⟨c0,c1,c2,c3,c4⟩:=h.bx;have hk:=fun o=>hb.cell (p:=⟨n,o,none⟩) h.lt;exact⟨(hk _).trans c0,(hk _).trans c1,(hk _).trans c2,(hk _).trans c3,(hk _).trans c4⟩⟩
def Vg[DecidableEq Fc]{st:Q00}{rs:Q06}{ts:Q05}{f:Fc}(h:zi st rs ts f=true):∀x∈qV st rs ts f,x∈aA st rs ts:=by
 have hm:f∈aA st rs ts:=aU.1 h;obtain⟨k,hk,hkf⟩:=Yk hm;rw[(uu hk hkf).2];unfold kD;obtain⟨pre,e,hp⟩:=yf (eY rs ts<|aA st rs ts) (aA st rs ts) k [f] cq;intro x hx;rw[e]at hx;rcases XV.1 hx with h3|h3
 ·exact hp x h3
 obtain rfl:=XX.1 h3;exact hm
def TI[DecidableEq Fc]{st:Q00}{rs:Q06}{ts:Q05}{f:Fc}(h:zi st rs ts f=true):(qV st rs ts f).length<=115200:=by
 have hm:f∈aA st rs ts:=aU.1 h;obtain⟨k,hk,hkf⟩:=Yk hm;rw[(uu hk hkf).2];have hl:=jJ st (rs:=rs) (ts:=ts);have:∀(n:Nat) (kept:Q04),(ja (eY rs ts<|aA st rs ts) (aA st rs ts) n kept).length<=n+kept.length:=by
  intro n
  induction n with
  | zero=>intro kept;simp[ja]
  | succ n ih =>
   intro kept;unfold ja;split
   ·omega
   split
   ·have:=ih kept;omega
   refine XR (ih _) ?_;simp only[Yh];omega
 have h2:=this k [f];unfold kD;simp only[Yr]at h2;omega
set_option maxRecDepth 100000 in
def walk[DecidableEq Fc](ad:Q02)(len cap:Nat)(w:ag)(h:Bytes w ad len):
  Calls prog 4 #[.slice ad len cap] w (a8 w<|.bool true):=by
 have H:=dU h;clear h;obtain⟨iR,hiR,zR0,zR1,zR2⟩:=mI;have Zk:O (prog.info? 52=some iR/\iR.zero=some (.agg ar)/\iR.size=5/\iR.bytes=80):=⟨hiR,zR0,zR1,zR2⟩;clear hiR zR0 zR1 zR2;go_enter func4,ntmps4;go_wp2_with fail;refine(TW ad len cap w).mono ?_;rintro e w0 ⟨rfl,rfl⟩;by_cases hbig:(1048576:Int)<(len:Int)
 ·go_wp2;go_ret;exact⟨rfl,XL _ _⟩
 go_wp2_with fail;refine(Au ad len cap _ H).mono ?_;rintro e w1 ⟨v,rs,g,c,ts,f,rfl,hT,⟨hG1,hG2,hG3⟩,hl9,hsh,hff,hown,hb1⟩;obtain⟨Zp,Zt,rfl,hs1,hcp⟩:=hT.read;obtain⟨hrow,hg,hgc,-⟩:=oH hown rfl;obtain⟨W1,hW1⟩:=eQx<|w1.alloc<|.cells (cf f) 52;have hba:ae w1 W1:=by rw[hW1];exact(XL _ _).alloc (XK _) _
 have K1:O (St w0 Zp g w1.heap.size rs ts f W1):=by
  refine⟨hb1.trans<|hba.mono hb1.size,hs1.below hba,Sl.below (.inr ⟨g,0,rfl,hg,hrow⟩) hba,by rw[hW1];simp,?_⟩;refine⟨?_,?_,?_,?_,?_⟩<;>(rw[hW1];simp)
 have hlen:a7 rs:=cq;have hlt:a7 ts:=cq;obtain⟨st,hst0⟩:=Vs<|ai rs;have ZH:=dU hst0;have HL:=dU hG2;have HF:=dU hG3;have HC:=dU hcp;have Zd:=dU hsh.fits;obtain⟨q,hq⟩:∃q,zi st rs ts f=q:=⟨_,rfl⟩;have HQ:=dU hq;have HCK:O (aR (aA st rs ts) f=q):=hq;obtain⟨L,hL⟩:∃L,qV st rs ts f=L:=⟨_,rfl⟩;have HLL:=dU hL;have hLn:L.length<=115200:=by
  rw[<-hL];cases q
  ·rw[(zk (show aR (aA st rs ts) f=false from hq)).2];simp
  exact TI hq
 clear hT hG2 hG3 hcp hb1 hs1 hbig hown hsh hff hrow hg hgc hba H hst0 hq hL;obtain⟨x0,x1,x2,x3,x4⟩:=K1.bx;go_wp2_with fail;rw[<-hW1];clear hW1;refine(Av st Zp Zt rs _ c ts f _ hlen K1.sl HL HF HC hlt K1.tu Zd ZH).mono ?_;rintro e w2 ⟨⟨vp,rfl,hop⟩,hb2⟩;rw[HLL]at hop;rw[HQ];obtain⟨adP,capP,rfl,hsP⟩:=gV hop;have K2:=dU<|K1.later hb2;have Zc:=dU hsP;have YZ:=dU hop;clear hb2 K1 hop hsP x0 x1 x2 x3 x4;obtain⟨x0,x1,x2,x3,x4⟩:=K2.bx;go_wp2_with fail;refine(J7 st Zp Zt rs _ c ts f _ hlen K2.sl HL HF hlt K2.tu Zd ZH).mono ?_;rintro e w3 ⟨adW,capW,rfl,hsW,hb3⟩;rw[HLL]at hsW;rw[HLL,HQ];have K3:=dU<|K2.later hb3;have HP3:=dU<|Zc.below hb3;have Zq:=dU<|aP YZ hb3;have HW3:=dU hsW;clear hb3 K2 Zc YZ hsW x0 x1 x2 x3 x4;have hqn:(q != q)=false:=by cases q<;>rfl
 have hqq:(q==q)=true:=by cases q<;>rfl
 go_wp2_with fail;refine(uQ adP adW capP capW L _ cq HP3 HW3).mono ?_;rintro e w4 ⟨rfl,hb4⟩;have K4:=dU<|K3.later hb4;have HP4:=dU<|HP3.below hb4;have Zg:=dU<|aP Zq hb4;have HW4:=dU<|HW3.below hb4;clear hb4 K3 HP3 Zq HW3;obtain⟨x0,x1,x2,x3,x4⟩:=K4.bx;go_wp2_with fail;refine(uV st Zp Zt rs _ c ts f _ hlen K4.sl HL HF HC hlt K4.tu Zd ZH).mono ?_;rintro e w5 ⟨rfl,hb5⟩;rw[HCK];have K5:=dU<|K4.later hb5;have HP5:=dU<|HP4.below hb5;have Ze:=dU<|aP Zg hb5;have HW5:=dU<|HW4.below hb5;clear hb5 K4 HP4 Zg HW4 x0 x1 x2 x3 x4;cases q
 ·go_wp2_with fail;refine(uQ adP adW capP capW L _ cq HP5 HW5).mono ?_;rintro e w6 ⟨rfl,hb6⟩;have K6:=dU<|K5.later hb6;clear hb6 K5 HP5 Ze HW5;obtain⟨x0,x1,x2,x3,x4⟩:=K6.bx;go_wp2_with fail;refine(uV st Zp Zt rs _ c ts f _ hlen K6.sl HL HF HC hlt K6.tu Zd ZH).mono ?_;rintro e w7 ⟨rfl,hb7⟩;rw[HCK];have HBe:=dU (K6.later hb7).bel;clear hb7 x0 x1 x2 x3 x4;go_wp2;go_ret;exact⟨rfl,HBe⟩
 have HPA:=dU<|TH ZH HQ;rw[HLL]at HPA;have HLF:O (∀x∈L,x.fits):=fun x hx=>qR HF Zd x (Vg HQ x<|by rw[HLL];exact hx);obtain⟨pre,hpre⟩:=HPA.1;have hL1:L.length=pre.length+1:=by rw[hpre];simp
 obtain⟨gP,hgP,-⟩:=pM Ze cq;subst hgP;have hcap:=xq Ze;have hgl5:cW gP w5:=(Ze.lt gP rfl).2;have HPRE:=dU hpre;have HL1:=dU hL1;have hL0:0<L.length:=cq;clear hL1;clear hpre HCK HW5 HP5;go_wp2_with fail;go_loopw[10] (fun i wr=>∃m:Nat,m+1<=L.length/\i=.int .i64 m/\O (ae w5 wr)) (fun i _=>L.length-(intOf i).toNat);case atStart=>exact⟨0,cq,rfl,XL _ _⟩
 obtain⟨m,hm,rfl,HB⟩:=hrel;have hm0:=bG m;have hwr:IntKind.i64.wrap ((m:Int)+1)=(m:Int)+1:=by rw[IntKind.wrap_i64];omega
 by_cases ZA:m+1<L.length
 ·have hmd:decide ((m:Int)+1<(L.length:Int))=true:=by simp;omega
  have hmd2:(m:Int)+1<(L.length:Int):=cq;have hm2:(m:Int)<=(L.length:Int):=cq;have hmc:(m:Int)<=(capP:Int):=cq;have hq1:(0:Int)<=(m:Int)+1:=cq;have hq2:(m:Int)+1<=(L.length:Int):=cq;have hq3:¬(capP=m+1):=cq;have hq4:¬(m+1=capP):=cq;obtain⟨W7,hW7⟩:=eQx<|(wr.alloc<|.cells #[] 52).drew;have Zz:O (bj wr W7 52 5 (.slice (some<|aE wr) 0 0) 0 []):=by
   show World.ownsRow _ _ _ _ _ _ _;rw[hW7];exact aP (World.ownsRow_lit wr #[] 0 (XK _) cy ct) (XL _ _).drew
  have HB7:O (ae wr W7):=by show Below _ _ _;rw[hW7];exact((XL _ _).alloc (XK _) _).drew
  have HOr:=dU<|aP Ze HB;have HR7:=dU<|aP HOr HB7;have hz7:cY wr W7:=HB7.size;have hgl:cW gP wr:=XJ hgl5 HB.size;go_wp2_with fail;refine wp_region_held_drew (S:=fun _=>True) cw trivial (fun hHeld=>?_);refine tk 1 79 ?_;go_frame;refine tk 2 80 ?_;go_frame;refine tk 5 83 ?_;go_frame;refine tk 6 84 ?_;go_frame;refine tk 3 81 ?_;go_frame;refine tk 7 85 ?_;go_frame;refine tk 8 86 ?_;go_frame;refine wpAnyH_ready (rs:=[0]) cw ct ?_;refine AllReadyH.cons rfl (fun K hK=>?_) AllReadyH.nil;go_simp;rw[<-hW7];clear hW7;refine hK _ _ trivial (fun _=>?_);clear hK K;refine wpAnyH_ready (rs:=[4]) cw ct ?_;refine AllReadyH.cons rfl (fun K hK=>?_) AllReadyH.nil;rw[if_pos cw];refine wp_append_own W7 _ _ 44 rfl wr.heap.size 52 iR (.agg ar) 5 80 underlying44 Zk.1 Zk.2.1 Zk.2.2.1 Zk.2.2.2 rfl cv _ 0 [] rfl Zz ⟨gP,0,none⟩ m capP (av<|L.take m) rfl (by rw[fe,Yc];congr 1;omega) (qH HR7 m cq) (kv _) cy cq hz7 ?_;intro v8 w8 Zy hgr8 _;have HO8:O (bj wr w8 52 5 v8 m<|av<|L.take m):=by
   show World.ownsRow _ _ _ _ _ _ _
   first|exact Zy|(rw[Yg,YI]at Zy;exact Zy)|simpa using Zy
  have HB8:O (ae wr w8):=HB7.grown hgr8 HB7.size fun z hz=>(Zz.lt z hz).1;have hz8:cY wr w8:=HB8.size;have HR8:=dU<|aP HOr HB8;clear Zy hgr8 Zz HB7 HR7 hz7;refine hK _ _ trivial (fun _=>?_);clear hK K;go_frame;refine wpAnyH_ready (rs:=[9]) cw ct ?_;refine AllReadyH.cons rfl (fun K hK=>?_) AllReadyH.nil;rw[if_pos cw];refine wp_append_own w8 _ _ 44 rfl wr.heap.size 52 iR (.agg ar) 5 80 underlying44 Zk.1 Zk.2.1 Zk.2.2.1 Zk.2.2.2 rfl cv v8 m (av<|L.take m) rfl HO8 ⟨gP,(m+1)*5,none⟩ (L.length-(m+1)) (capP-(m+1)) (av<|L.drop<|m+1) rfl (by rw[fe,YD]) (vQ HR8 (m+1) cq) (kv _) cy cq hz8 ?_;intro v9 w9 hown9 hgr9 _;have hNk:m+(L.length-(m+1))=(L.eraseIdx m).length:=by rw[List.length_eraseIdx_of_lt cq];omega
  have HO9:O (bj wr w9 52 5 v9 (L.eraseIdx m).length<|av<|L.eraseIdx m):=by
   show World.ownsRow _ _ _ _ _ _ _;rw[hNk,<-F6,<-List.eraseIdx_eq_take_drop_succ]at hown9;exact hown9
  have HB9:O (ae wr w9):=HB8.grown hgr9 HB8.size fun z hz=>(HO8.lt z hz).1;obtain⟨ad9,cap9,rfl,hs9⟩:=gV HO9;have HS9:=dU hs9;have HLF9:O (∀x∈L.eraseIdx m,x.fits):=fun x hx=>HLF x<|List.mem_of_mem_eraseIdx hx;have ZQ:=dU<|HPA.2.2 m ZA;have hl9:(L.eraseIdx m).length<=1048576:=cq
  obtain⟨L9,hL9⟩:=eQx<|L.eraseIdx m;rw[<-hL9]at HS9 HLF9 ZQ hl9 ⊢;clear hown9 hgr9 HO8 HO9 HB8 HR8 hz8 hs9 hNk hL9;refine hK _ _ trivial (fun _=>?_);clear hK K;go_frame;refine tk 10 11 ?_;go_frame;refine wpAnyH_done cw ?_ _;have K9:=dU<|(K5.later HB).later HB9;go_wp2_with fail;refine(rf st Zp Zt rs _ c ts ad9 cap9 L9 _ hlen K9.sl HL HF HC hlt K9.tu Zd hl9 HS9 HLF9 ZH).mono ?_;rintro e w10 ⟨rfl,hb10⟩;rw[ZQ];have HBn:O (ae w5 w10):=HB.trans<|(HB9.trans<|hb10.mono HB9.size).mono HB.size;clear HB9 K9 ZQ hb10 HB HS9 HLF9 HOr;go_wp2;go_roundw;case rel=>exact⟨m+1,cq,cx,HBn⟩
  simp[intOf]<;>omega
 obtain rfl:m=pre.length:=by have:=HL1.out;omega
 have hmd:decide ((pre.length:Int)+1<(L.length:Int))=false:=by have:=HL1.out;simp;omega
 have K6:=dU<|K5.later HB;have ZI:=dU<|aP Ze HB;obtain⟨w6,hw6⟩:=eQx wr;rw[<-hw6]at K6 ZI ⊢;clear hw6 HB K5 Ze;obtain⟨adX,capX,heX,hsX⟩:=gV ZI;injection heX with e1 e2 e3;subst e1;obtain⟨b,off,YW,⟨t0,t1,t2,t3,t4⟩,hbl⟩:=jX.at0 hsX (show pre.length<L.length by have:=HL1.out;omega);have hlast:L[pre.length]'(by have:=HL1.out;omega)=f:=by
  have h1:=HPRE.out;have h2:L[pre.length]?=some f:=by rw[h1];simp
  rw[XQ (by have:=HL1.out;omega)]at h2;exact Option.some.inj h2
 rw[hlast]at t0 t1 t2 t3 t4;injection YW with YW;injection YW with e4 e5;subst e4 e5;simp only[Yg]at t0 t1 t2 t3 t4;obtain⟨x0,x1,x2,x3,x4⟩:=K6.bx;replace t0:=cell_regrown t0;replace t1:=cell_regrown t1;replace t2:=cell_regrown t2;replace t3:=cell_regrown t3;replace t4:=cell_regrown t4;replace x0:=cell_regrown x0;replace x1:=cell_regrown x1;replace x2:=cell_regrown x2;replace x3:=cell_regrown x3;replace x4:=cell_regrown x4;have HCM:O (L.length<=200->∀d os,Calls prog 21 #[.slice Zp rs.length Zt,.slice (some<|am g) ts.length c,.slice (some<|am gP) L.length capX] (grow (redrawn w6 d) os) fun e w2=>e=.returned (.bool true)/\∃p:Regrown,w2=grow (redrawn w6 p.d) p.os):=by
  intro h200 d os;refine dz (fun W' hb=>?_) d os;refine(rf st Zp Zt rs _ c ts _ capX L W' hlen (K6.later hb).sl HL HF HC hlt (K6.later hb).tu Zd cq (hsX.below hb) HLF ZH).mono ?_;rintro e w' ⟨rfl,hb'⟩;exact⟨by rw[HPA.2.1 h200],hb'⟩
 have hlm:IntKind.i64.wrap ((L.length:Int)-1)=(pre.length:Int):=by have:=HL1.out;rw[IntKind.wrap_i64]<;>omega
 have hp0:(0:Int)<=(pre.length:Int):=cq;have hp1:(pre.length:Int)<(L.length:Int):=by have:=HL1.out;omega
 have HBe:=dU K6.bel;by_cases h200:L.length<=200
 ·have hgt:decide ((200:Int)<(L.length:Int))=false:=by simp;omega
  have HCK:=dU<|HCM h200;clear HCM hsX;go_wp2_with fail;refine wp_region_quiet_below cw cw ?_
  repeat(go_big_quiet_step (exact HCK _ _))
  refine wpQuiet_nil ?_;rintro _ ⟨⟨dq,osq⟩,rfl⟩;have HB2:=dU<|HBe.trans<|(below_regrown w6 dq osq).mono HBe.size;clear t0 t1 t2 t3 t4 x0 x1 x2 x3 x4;go_wp2;go_ret;exact⟨ct,HB2⟩
 have hgt:decide ((200:Int)<(L.length:Int))=true:=by simp;omega
 clear HCM hsX;go_wp2_with fail;refine wp_region_quiet_below cw cw ?_
 repeat(go_big_quiet_step (fail))
 refine wpQuiet_nil ?_;rintro _ ⟨⟨dq,osq⟩,rfl⟩;have HB2:=dU<|HBe.trans<|(below_regrown w6 dq osq).mono HBe.size;clear t0 t1 t2 t3 t4 x0 x1 x2 x3 x4;go_wp2;go_ret;exact⟨ct,HB2⟩
end Go.Proofs.YtojjoblnpldniaaGreat.fnProof
