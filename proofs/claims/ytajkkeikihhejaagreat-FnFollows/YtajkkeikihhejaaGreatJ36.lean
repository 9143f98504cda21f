/- Tuples that mostly fit, twelve at most; a number below any. -/
import Derived.Test.YtajkkeikihhejaaGreatSq
import Derived.Maps.RangeWalk
import Derived.Test.YtajkkeikihhejaaGreatDrawFit
import Derived.Test.YtajkkeikihhejaaGreatJ34
open Go.Proofs.Tryz
set_option maxHeartbeats 80000000
namespace Go.Proofs.YtajkkeikihhejaaGreat
set_option maxRecDepth 100000
set_option linter.unusedVariables false
open ChangeShapes WideShapes ChangeAt RowKit Maps
open Pl
theorem KC(R:Nat)(ad:Q02)(len cap:Nat)(n:Nat)(w:af)(h:Rd w R ad len cap)(h1:1<=n)(h2:n<=200000):
  Calls prog 49 #[.pointer (some ⟨R,0,none⟩),.int .i64 (n:Int)] w fun e w'=>(∃x:Nat,e=.returned (.int .i64 (x:Int))/\x<n)/\Rd w' R ad len cap/\Only R w w':=by
 by_cases hn:n<=256
 ·exact gu R ad len cap n w h h1 hn
 have H:=aC h;clear h;have hne:((n:Int)==0)=false:=by simp;omega
 have hn1:¬(n:Int)<=1:=by omega
 have hn2:¬(n:Int)<=256:=by omega
 go_enter func49,ntmps49;go_wp2_with fail;refine(vV R ad len cap _ H.out).mono ?_;rintro e w1 ⟨⟨x,rfl,hx0,hx1⟩,WF,Wv⟩;have HR:=aC WF;have HO:=aC Wv;have hw1:IntKind.i64.wrap (x*256)=x*256:=by rw[IntKind.wrap_i64];omega
 clear WF Wv;go_wp2_with fail;refine(vV R ad len cap _ HR.out).mono ?_;rintro e w2 ⟨⟨y,rfl,hy0,hy1⟩,hR2,hO2⟩;have HR2:=aC hR2;have V7:Hid (Only R w w2):=HO.out.trans hO2;have hw2:IntKind.i64.wrap (x*256+y)=x*256+y:=by rw[IntKind.wrap_i64];omega
 obtain⟨z,hz⟩:∃z:Nat,(x*256+y)=(z:Int):=⟨(x*256+y).toNat,by omega⟩;have HZ:Hid ((x*256+y)%(n:Int)=((z%n:Nat):Int)):=by show _=_;rw[hz];exact(Int.natCast_emod z n).symm
 clear hR2 hO2 hz;go_wp2;go_ret;exact⟨⟨z%n,by rw[<-HZ.out];rfl,Nat.mod_lt _ (by omega)⟩,HR2.out,V7.out⟩
theorem Cx(R:Nat)(ad:Q02)(len cap:Nat)(WQ:Q02)(WG base:Nat)(rs:Q06)(w:af)(h:Rd w R ad len cap)(hRb:R<base)(hT:iX w base (.slice WQ rs.length WG) rs)(hG:GoodS rs):
  Calls prog 46 #[.pointer (some ⟨R,0,none⟩),.slice WQ rs.length WG,.int .i64 12] w fun e w'=>(∃(g c:Nat) (ts:Q05),e=.returned (.slice (some ⟨g,0,none⟩) ts.length c)/\ts.length<=12/\qO ts/\w'.ownsRow w.heap.size 46 6 (.slice (some ⟨g,0,none⟩) ts.length c) ts.length (bW ts))/\Rd w' R ad len cap/\Only R w w':=by
 have Zm:=h.lt;have HS:Hid (∀W,Only R w W->kU W WQ rs):=hT.slT hRb;obtain⟨hG1,hG2,hG3⟩:=hG;have hlen:rs.length<=1048576:=by omega
 have HL:=dX hG2;have HF:=dX hG3;clear hG2 hG3 hT;obtain⟨W0,hW0⟩:∃W0,W0=w.alloc (.cells #[] 46):=⟨_,rfl⟩;have WP:Hid (W0.ownsRow w.heap.size 46 6 (.slice (some ⟨w.heap.size,0,none⟩) 0 0) 0 (bW [])):=by
  show World.ownsRow _ _ _ _ _ _ _;rw[hW0];exact World.ownsRow_lit w #[] 0 (UU _) (by unfold maxLen;omega) (by simp)
 have Xo:Hid (Rd W0 R ad len cap):=by show Rd _ _ _ _ _;rw[hW0];exact h.alloc _
 have Xv:Hid (Only R w W0):=by show Only _ _ _;rw[hW0];exact(Only.refl _ _).alloc _
 clear h;go_enter func46,ntmps46;go_wp2_with fail;rw[<-hW0];clear hW0;refine(cz R ad len cap 13 _ Xo.out (by omega) (by omega)).mono ?_;rintro e w1 ⟨⟨x,rfl,hx0,hx1⟩,WF,Wv⟩;have HR1:=dX WF;have Wp:Hid (Only R w w1):=Xv.out.trans Wv;have HL1:Hid (w1.ownsRow w.heap.size 46 6 (.slice (some ⟨w.heap.size,0,none⟩) 0 0) 0 (bW [])):=ol WP.out Zm Wv;clear WF Wv WP Xo Xv;go_wp2_with fail;go_loopw[7,8] (fun v i wr=>∃(k:Nat) (ts:Q05) (g c:Nat),i=.int .i64 k/\ts.length+k<=12/\v=.slice (some ⟨g,0,none⟩) ts.length c/\Hid (qO ts)/\Hid (wr.ownsRow w.heap.size 46 6 v ts.length (bW ts))/\Hid (Rd wr R ad len cap)/\Hid (Only R w wr)) (fun _ i _=>(intOf i).toNat);case atStart=>exact⟨x.toNat,[],w.heap.size,0,by rw[Int.toNat_of_nonneg hx0],by simp;omega,rfl,MM,HL1,HR1,Wp⟩
 clear HL1 HR1 Wp hx0 hx1;obtain⟨k,ts,g,c,rfl,hk,rfl,HSh,HOw,HR,HO⟩:=hrel;by_cases hk0:0<k
 ·have hk1:(0:Int)<(k:Int):=by omega
  go_wp2_with fail;refine(MI R ad len cap _ HR.out).mono ?_;rintro e w2 ⟨⟨a,b,r,c2,d,s,rfl,ha,hb,hr,hc,hd,hs⟩,hR2,hO2⟩;have HT:Hid (Tp.short ⟨a,b,r,c2,d,s⟩):=⟨ha,hb,hr,hc,hd,hs⟩;obtain⟨f1,f2,f3,f4,f5,f6⟩:=HT.out.fits;obtain⟨W2,hW2⟩:∃W2,W2=w2.alloc (.cells #[.string a,.string b,.string r,.string c2,.string d,.string s] 46):=⟨_,rfl⟩;have HR2:Hid (Rd W2 R ad len cap):=by show Rd _ _ _ _ _;rw[hW2];exact hR2.alloc _
  have V7:Hid (Only R w W2):=by show Only _ _ _;rw[hW2];exact(HO.out.trans hO2).alloc _
  have HOw2:Hid (W2.ownsRow w.heap.size 46 6 (.slice (some ⟨g,0,none⟩) ts.length c) ts.length (bW ts)):=by show World.ownsRow _ _ _ _ _ _ _;rw[hW2];exact(ol HOw.out Zm hO2).alloc _
  have hz2:w2.heap.size<W2.heap.size:=by rw[hW2];simp
  have hnR:w2.heap.size≠R:=by have:=hR2.lt;omega
  have HC:Hid (QN W2 w2.heap.size a b r c2 d s):=by
   show QN _ _ _ _ _ _ _ _;rw[hW2];refine⟨?_,?_,?_,?_,?_,?_⟩<;>simp
  clear ha hb hr hc hd hs hR2 hO2 HR HO HOw;go_wp2_with fail;rw[<-hW2];clear hW2;refine(FK WQ WG rs _ _ _ _ _ _ _ hlen (HS.out _ V7.out) HL.out HF.out f1 f2 f3 f4 f5 f6).mono ?_;rintro e w3 ⟨rfl,hb3⟩;have HR3:=aC (HR2.out.below hb3);have Ww:=aC (V7.out.below hb3);have ZC:=dX (FM HOw2.out hb3);have Z9:=dX (HC.out.same fun o=>hb3.cell (p:=⟨_,o,none⟩) hz2);have hz3:=UT hz2 hb3.size;clear hb3 HR2 V7 HOw2 HC hz2;cases hq:Ec (ag rs) a b r c2 d s;case true=>
   obtain⟨c0,c1,c2',c3,c4,c5⟩:=Z9.out;clear hq;have HA:=dX (sQ g 0 c ts ⟨a,b,r,c2,d,s⟩ w3 (by omega) (nk ZC.out rfl).2.2.1 (nk ZC.out rfl).1 (nk ZC.out rfl).2.1 HSh.out.fits HT.out.fits);go_wp2_with fail;refine HA.out.mono ?_;rintro e w5 ⟨v5,rfl,hown5,hb5⟩;have Wu:=aC (HR3.out.below hb5);have Wm:=aC (Ww.out.below hb5);clear c0 c1 c2' c3 c4 c5;cases hz:sH ts ⟨a,b,r,c2,d,s⟩;case true=>
    rw[Bi hz,rX]at hown5;obtain⟨g3,c3,rfl⟩:=sS hown5;have ZZ:Hid (w5.ownsRow w.heap.size 46 6 (.slice (some ⟨g3,0,none⟩) (ts.length+1) c3) (ts.length+1) (bW (jP ts ⟨a,b,r,c2,d,s⟩))):=dI hown5 Ww.out.size;have HSh5:Hid (qO (jP ts ⟨a,b,r,c2,d,s⟩)):=HSh.out.put HT.out;have ZH:=dX (rX ts ⟨a,b,r,c2,d,s⟩);have HQ:=dX hz;clear hown5 hb5 hz HA ZC HR3 Ww;go_wp2;go_roundw;case rel=>exact⟨k-1,jP ts ⟨a,b,r,c2,d,s⟩,g3,c3,by rw[show((k-1:Nat):Int)=(k:Int)-1 by omega],by rw[ZH.out];omega,by rw[ZH.out],HSh5,by rw[ZH.out];exact ZZ,Wu,Wm⟩
    simp[intOf];omega
   have ZZ:=dX (FM ZC.out hb5);rw[rW hz]at hown5;obtain⟨ad5,cap5,hv5,-,-⟩:=O0 (ts:=[]) hown5 rfl;subst hv5;have HQ:=dX hz;clear hown5 hb5 hz HA ZC HR3 Ww;go_wp2;go_roundw;case rel=>exact⟨k-1,ts,g,c,by rw[show((k-1:Nat):Int)=(k:Int)-1 by omega],by omega,rfl,HSh,ZZ,Wu,Wm⟩
   simp[intOf];omega
  clear hq;go_wp2_with fail;refine(gW R ad len cap 60 _ HR3.out (by omega) (by omega)).mono ?_;rintro e w4 ⟨⟨q,rfl⟩,Zn,hO4⟩;have HR4:=dX Zn;have Wo:Hid (Only R w w4):=Ww.out.trans hO4;have Z0:=dX (ol ZC.out Zm hO4);have HC4:=dX (Z9.out.same fun o=>hO4.cell (b:=w2.heap.size) (o:=o) hz3 hnR);clear Zn hO4 HR3 Ww ZC Z9;cases q;case true=>
   obtain⟨c0,c1,c2',c3,c4,c5⟩:=HC4.out;have HA:=dX (sQ g 0 c ts ⟨a,b,r,c2,d,s⟩ w4 (by omega) (nk Z0.out rfl).2.2.1 (nk Z0.out rfl).1 (nk Z0.out rfl).2.1 HSh.out.fits HT.out.fits);go_wp2_with fail;refine HA.out.mono ?_;rintro e w5 ⟨v5,rfl,hown5,hb5⟩;have Wu:=aC (HR4.out.below hb5);have Wm:=aC (Wo.out.below hb5);clear c0 c1 c2' c3 c4 c5;cases hz:sH ts ⟨a,b,r,c2,d,s⟩;case true=>
    rw[Bi hz,rX]at hown5;obtain⟨g3,c3,rfl⟩:=sS hown5;have ZZ:Hid (w5.ownsRow w.heap.size 46 6 (.slice (some ⟨g3,0,none⟩) (ts.length+1) c3) (ts.length+1) (bW (jP ts ⟨a,b,r,c2,d,s⟩))):=dI hown5 Wo.out.size;have HSh5:Hid (qO (jP ts ⟨a,b,r,c2,d,s⟩)):=HSh.out.put HT.out;have ZH:=dX (rX ts ⟨a,b,r,c2,d,s⟩);have HQ:=dX hz;clear hown5 hb5 hz HA Z0 HR4 Wo;go_wp2;go_roundw;case rel=>exact⟨k-1,jP ts ⟨a,b,r,c2,d,s⟩,g3,c3,by rw[show((k-1:Nat):Int)=(k:Int)-1 by omega],by rw[ZH.out];omega,by rw[ZH.out],HSh5,by rw[ZH.out];exact ZZ,Wu,Wm⟩
    simp[intOf];omega
   have ZZ:=dX (FM Z0.out hb5);rw[rW hz]at hown5;obtain⟨ad5,cap5,hv5,-,-⟩:=O0 (ts:=[]) hown5 rfl;subst hv5;have HQ:=dX hz;clear hown5 hb5 hz HA Z0 HR4 Wo;go_wp2;go_roundw;case rel=>exact⟨k-1,ts,g,c,by rw[show((k-1:Nat):Int)=(k:Int)-1 by omega],by omega,rfl,HSh,ZZ,Wu,Wm⟩
   simp[intOf];omega
  go_wp2;go_roundw;case rel=>exact⟨k-1,ts,g,c,by rw[show((k-1:Nat):Int)=(k:Int)-1 by omega],by omega,rfl,HSh,Z0,HR4,Wo⟩
  simp[intOf];omega
 obtain rfl:k=0:=by omega
 go_wp2;go_ret;exact⟨⟨g,c,ts,rfl,by omega,HSh.out,HOw.out⟩,HR.out,HO.out⟩
theorem Fc.short.fits{f:Fc}(h:f.short):f.fits:=by unfold Fc.short at h;unfold Fc.fits maxLen;omega
def TZ(w:World)(R n:Nat):Prop:=n≠R/\n<w.heap.size/\(∀o,w.frozen? ⟨n,o,none⟩=false)/\∀j,j<5->∃u,w.cell? ⟨n,j,none⟩=some u
theorem TZ.only{w w':af}{R n:Nat}(h:TZ w R n)(hO:Only R w w'):TZ w' R n:=by
 obtain⟨h1,h2,h3,h4⟩:=h;exact⟨h1,UT h2 hO.size,fun o=>(hO.frozen (o:=o) h2 h1).trans (h3 o),fun j hj=>by obtain⟨u,hu⟩:=h4 j hj;exact⟨u,(hO.cell (b:=n) (o:=j) h2 h1).trans hu⟩⟩
theorem jA{w:af}{n i j:Nat}{v:Value}(h:i≠j):(w.setCell ⟨n,i,none⟩ v).cell? ⟨n,j,none⟩=w.cell? ⟨n,j,none⟩:=by
 apply World.cell?_setCell_other;intro e;exact h (congrArg Addr.off e)
theorem TZ.set{w:af}{R n:Nat}(h:TZ w R n)(v0 v1 v2 v3 v4:Value)(W:af)(hW:W=((((w.setCell ⟨n,0,none⟩ v0).setCell ⟨n,1,none⟩ v1).setCell ⟨n,2,none⟩ v2).setCell ⟨n,3,none⟩ v3).setCell ⟨n,4,none⟩ v4):W.cell? ⟨n,0,none⟩=some v0/\W.cell? ⟨n,1,none⟩=some v1/\W.cell? ⟨n,2,none⟩=some v2/\W.cell? ⟨n,3,none⟩=some v3/\W.cell? ⟨n,4,none⟩=some v4/\Only n w W:=by
 obtain⟨-,-,-,h4⟩:=h;obtain⟨u0,c0⟩:=h4 0 (by omega);obtain⟨u1,c1⟩:=h4 1 (by omega);obtain⟨u2,c2⟩:=h4 2 (by omega);obtain⟨u3,c3⟩:=h4 3 (by omega);obtain⟨u4,c4⟩:=h4 4 (by omega);subst hW;refine⟨?_,?_,?_,?_,?_,((((Only.refl n w).set 0 v0).set 1 v1).set 2 v2).set 3 v3 |>.set 4 v4⟩
 ·rw[jA (by omega),jA (by omega),jA (by omega),jA (by omega)];exact World.cell?_setCell_same _ _ _ c0
 ·rw[jA (by omega),jA (by omega),jA (by omega)];exact World.cell?_setCell_same (u:=u1) _ _ _ (by rw[jA (by omega)];exact c1)
 ·rw[jA (by omega),jA (by omega)];exact World.cell?_setCell_same (u:=u2) _ _ _ (by rw[jA (by omega),jA (by omega)];exact c2)
 ·rw[jA (by omega)];exact World.cell?_setCell_same (u:=u3) _ _ _ (by rw[jA (by omega),jA (by omega),jA (by omega)];exact c3)
 exact World.cell?_setCell_same (u:=u4) _ _ _ (by rw[jA (by omega),jA (by omega),jA (by omega),jA (by omega)];exact c4)
theorem Ir{w:af}{base n:Nat}{v:Value}{xs:Q03}(h:w.ownsRow base 29 5 v n xs)(hn:n≠0):∃g c,v=.slice (some ⟨g,0,none⟩) n c:=by
 rcases h.2 with⟨_,h0⟩|⟨g,cap,cur,e,-⟩
 ·exact absurd h0 hn
 exact⟨g,cap,e⟩
def UG(w:World)(e:Ending)(w':World):Prop:=∃(v:Value) (rs:Q06) (g c:Nat) (ts:Q05) (gK capK:Nat) (ks:Q04) (f:Fc),e=.returned (.tuple #[v,.slice (some ⟨g,0,none⟩) ts.length c,.slice (some ⟨gK,0,none⟩) ks.length capK,.agg #[.string f.a,.string f.b,.string f.r,.string f.c,.string f.d]])/\iX w' w.heap.size v rs/\GoodS rs/\ts.length<=12/\qO ts/\(∀x∈ks,x.fits)/\ks.length<=115201/\w'.ownsRow w.heap.size 29 5 (.slice (some ⟨gK,0,none⟩) ks.length capK) ks.length (aA ks)/\f.fits/\w'.ownsRow w.heap.size 46 6 (.slice (some ⟨g,0,none⟩) ts.length c) ts.length (bW ts)/\ae w w'
theorem yY[DecidableEq Fc](ad:Q02)(len cap:Nat)(w:af)(h:Bytes w ad len):
  Calls prog 26 #[.slice ad len cap] w (UG w):=by
 have H:=aC h;clear h;obtain⟨W0,hW0⟩:∃W0,W0=w.alloc (.cells #[.string ⟨#[]⟩,.string ⟨#[]⟩,.string ⟨#[]⟩,.string ⟨#[]⟩,.string ⟨#[]⟩] 29):=⟨_,rfl⟩;have HB0:=mI hW0;have HZ0:Hid (W0.heap.size=w.heap.size+1):=by show _=_;rw[hW0];simp
 have YZ:Hid (TZ W0 (w.heap.size+1) w.heap.size):=by
  show TZ _ _ _;rw[hW0];refine⟨by omega,by simp,fun o=>by simp,fun j hj=>?_⟩;have hc:j=0\/j=1\/j=2\/j=3\/j=4:=by omega
  rcases hc with rfl|rfl|rfl|rfl|rfl<;>exact⟨_,by simp;rfl⟩
 go_enter func26,ntmps26;go_wp2_with fail;rw[<-hW0];clear hW0;refine(Pe ad len cap _ (H.out.below HB0.out)).mono ?_;rintro e w1 ⟨rfl,WF,hb1⟩;rw[HZ0.out]at WF ⊢;obtain⟨R,hRR⟩:∃R,R=w.heap.size+1:=⟨_,rfl⟩;rw[<-hRR]at WF YZ ⊢;have HB1:=jR HB0 hb1;have HR1:=aC WF;have HS1:=dX (YZ.out.only (Only.of_below hb1));have hRn:w.heap.size<R:=by omega
 clear WF hb1 YZ HB0 HZ0 hRR;go_wp2_with fail;refine(JZ R ad len cap _ HR1.out).mono ?_;rintro e w2 ⟨v,rs,rfl,hT2,hG,hR2,hO2⟩;have hb:=HR1.out.lt;obtain⟨WQ,WG,rfl,-,-⟩:=hT2.read;have HR2:=aC hR2;have HB2:Hid (ae w w2):=Only.toBelow HB1.out hO2 HB1.out.size (by omega);have HT2:=aC hT2;have HG:Hid (GoodS rs):=hG;have HS2:=dX (HS1.out.only hO2);clear hT2 hG hR2 hO2 HB1 HR1 HS1;go_wp2_with fail;refine(Cx R ad len cap WQ WG w1.heap.size rs _ HR2.out hb HT2.out HG.out).mono ?_;rintro e w3 ⟨⟨g,c,ts,rfl,hl9,hsh,hown⟩,Yo,hO3⟩;have HB3:Hid (ae w w3):=Only.toBelow HB2.out hO3 HB2.out.size (by omega);have HT3:Hid (iX w3 w1.heap.size (.slice WQ rs.length WG) rs):=HT2.out.only hb hO3;have hw:w.heap.size<=w1.heap.size:=by omega
 have hs2:R<w2.heap.size:=HR2.out.lt;obtain⟨hrow,hg,-,hbg⟩:=nk hown rfl;have HO:=aC hown;have HS3:=dX (HS2.out.only hO3);have HR3:=dX Yo;obtain⟨st,hle⟩:=SI (ag rs);obtain⟨adQ,capQ,eQ,hsl,hcp⟩:=HT3.out.read;injection eQ with e1 e2 e3;subst e1;have Wl:=dX (yJ (st:=st) HG.out.2.2 hsh.fits);have HFQ:=dX (Cw st WQ WG rs (some ⟨g,0,none⟩) c ts w3 (by have:=HG.out.1;omega) hsl HG.out.2.1 HG.out.2.2 (by omega) (.inr ⟨g,0,rfl,hg,hrow⟩) hsh.fits hle);have HSH:=dX hsh;have hLl:=pJ st (rs:=rs) (ts:=ts);clear Yo hO3 HR2 HB2 HT2 HS2 hown hrow hg hbg hsh hsl hcp e2 e3 hle;go_wp2_with fail;refine HFQ.out.mono ?_;rintro e w4 ⟨⟨vf,rfl,hof⟩,hb4⟩;have hlf:(kY st rs ts).length<=115200:=by rw[Kv];exact hLl
 obtain⟨WX,Wi,rfl,hSF⟩:=iP hof;have XF:=jR HB3 hb4;have HT4:Hid (iX w4 w1.heap.size (.slice WQ rs.length WG) rs):=Wq.below mM HT3.out hb4;have HR4:=aC (HR3.out.below hb4);have HS4:=dX (HS3.out.only (Only.of_below hb4));have Wo:Hid (w4.ownsRow w2.heap.size 46 6 (.slice (some ⟨g,0,none⟩) ts.length c) ts.length (bW ts)):=ol HO.out hs2 (Only.of_below hb4);have hR4s:R<w3.heap.size:=HR3.out.lt;have HOF:=dX hof;have Ze:=dX hSF;have hn1:w.heap.size<w1.heap.size:=by omega
 have hn2:w.heap.size<w2.heap.size:=by omega
 clear hb4 hof hSF HFQ HB3 HT3 HR3 HS3 HO;obtain⟨n,hn⟩:∃n,n=(kY st rs ts).length:=⟨_,rfl⟩;have XV:=dX hn;have hn5:n<=115200:=by omega
 -- known facts and a fact that were drawn,of whatever kind
 have WK:Hid (∀(wc:World) (gK capK:Nat) (ks:Q04) (f:Fc),Only R w4 wc->f.fits->(∀x∈ks,x.fits)->ks.length<=115201->wc.ownsRow w4.heap.size 29 5 (.slice (some ⟨gK,0,none⟩) ks.length capK) ks.length (aA ks)->∀W5,W5=((((wc.setCell ⟨w.heap.size,0,none⟩ (.string f.a)).setCell ⟨w.heap.size,1,none⟩ (.string f.b)).setCell ⟨w.heap.size,2,none⟩ (.string f.r)).setCell ⟨w.heap.size,3,none⟩ (.string f.c)).setCell ⟨w.heap.size,4,none⟩ (.string f.d)->UG w (.returned (.tuple #[.slice WQ rs.length WG,.slice (some ⟨g,0,none⟩) ts.length c,.slice (some ⟨gK,0,none⟩) ks.length capK,.agg #[.string f.a,.string f.b,.string f.r,.string f.c,.string f.d]])) W5):=by
  intro wc gK capK ks f hO hf hkf hkl hown W5 WL;obtain⟨-,-,-,-,-,WC⟩:=(HS4.out.only hO).set _ _ _ _ _ W5 WL;have hBc:ae w wc:=Only.toBelow XF.out hO XF.out.size (by omega);have h4n:w.heap.size<w4.heap.size:=HS4.out.2.1;have hown5:W5.ownsRow w4.heap.size 29 5 (.slice (some ⟨gK,0,none⟩) ks.length capK) ks.length (aA ks):=hown.kept WC (.inr fun e=>by have:=(hown.lt _ e).1;omega);exact⟨_,rs,g,c,ts,gK,capK,ks,f,rfl,Wq.lower ((HT4.out.only hb hO).only hn1 WC) hw,HG.out,hl9,HSH.out,hkf,hkl,su hown5 (Nat.le_of_lt h4n),hf,dI (ol (ol Wo.out hs2 hO) hn2 WC) (Nat.le_of_lt hn2),Only.toBelow hBc WC hBc.size (UU _)⟩
 have HDRAW:Hid (∀wc,Only R w4 wc->Rd wc R ad len cap->Calls prog 50 #[.pointer (some ⟨R,0,none⟩)] wc fun e w'=>(∃f:Fc,e=.returned (.agg #[.string f.a,.string f.b,.string f.r,.string f.c,.string f.d])/\f.short)/\Rd w' R ad len cap/\Only R wc w'):=fun wc _ hR=>Pb R ad len cap wc hR;obtain⟨iF,h0,h1,h2,h3⟩:=pq;have XN:=dX (And.intro h0 (And.intro h1 (And.intro h2 h3)));have hR4l:R<w4.heap.size:=HR4.out.lt;have HFAR:Hid (0<len->∀b off,ad=some ⟨b,off,none⟩->b<w4.heap.size):=fun h0 b off e=>by
  obtain⟨b',off',e',-,hb',-⟩:=HR4.out.bytes h0;rw[e]at e';injection e' with e';injection e' with e1 e2;omega
 obtain⟨L,hLq⟩:∃L,L=kY st rs ts:=⟨_,rfl⟩;have HLF:Hid (∀x∈L,x.fits):=fun x hx=>Wl.out x (by rw[hLq]at hx;exact(mi _).mem_iff.1 hx);rw[<-hLq]at HOF Ze XV hn hlf ⊢;rw[<-hn];have hnL:L.length=n:=hn.symm;clear h0 h1 h2 h3 hn hLq Ze;obtain⟨W5,WL⟩:∃W5,W5=w4.alloc (.cells #[] 29):=⟨_,rfl⟩;have WP:Hid (W5.ownsRow w4.heap.size 29 5 (.slice (some ⟨w4.heap.size,0,none⟩) 0 0) ([]:Q04).length (aA [])):=by
  show World.ownsRow _ _ _ _ _ _ _;rw[WL];exact World.ownsRow_lit w4 #[] 0 (UU _) (by unfold maxLen;omega) (by simp)
 have Wu:Hid (Rd W5 R ad len cap):=by show Rd _ _ _ _ _;rw[WL];exact HR4.out.alloc _
 have Wm:Hid (Only R w4 W5):=by show Only _ _ _;rw[WL];exact(Only.refl _ _).alloc _
 go_wp2_with fail;rw[<-WL];clear WL;go_loopw[10,11] (fun v i wr=>∃(k:Nat) (ks:Q04) (gK capK:Nat),k<=n/\i=.int .i64 k/\v=.slice (some ⟨gK,0,none⟩) ks.length capK/\ks.length<=k/\Hid (∀x∈ks,x.fits)/\Hid (wr.ownsRow w4.heap.size 29 5 v ks.length (aA ks))/\Hid (Rd wr R ad len cap)/\Hid (Only R w4 wr)) (fun _ i _=>n-(intOf i).toNat);case atStart=>exact⟨0,[],w4.heap.size,0,UY _,rfl,rfl,UU _,(fun x hx=>by cases hx),WP,Wu,Wm⟩
 clear WP Wu Wm;obtain⟨k,ks,gK,capK,hk,rfl,rfl,hkl,ZG,XT,HR,HO⟩:=hrel;have hi1:=bG k;by_cases hlk:k<n
 ·have hi2:(k:Int)<(n:Int):=by omega
  go_wp2_with fail;refine(gW R ad len cap 2 _ HR.out (by omega) (by omega)).mono ?_;rintro e w6 ⟨⟨q,rfl⟩,hR6,XL⟩;have XG:=dX hR6;have ZY:=dX (HO.out.trans XL);have HW6:=dX (XT.out.kept XL (.inr fun e=>by have:=(XT.out.lt _ e).1;omega));clear hR6 XL HR HO XT;cases q;case false=>
   go_wp2;go_roundw;case rel=>exact⟨k+1,ks,gK,capK,by omega,by go_num,rfl,by omega,ZG,HW6,XG,ZY⟩
   simp[intOf]<;>omega
  have h7:=HOF.out.kept ZY.out (.inr fun e=>by have:=(HOF.out.lt R e).1;omega);obtain⟨adX,capX,eX,hS7⟩:=iP h7;injection eX with e1 e2 e3;subst e1;obtain⟨b,off,rfl,⟨t0,t1,t2,t3,t4⟩,hbl⟩:=o8.at0 hS7 (show k<L.length by omega);obtain⟨x,hx⟩:∃x,x=L[k]'(by omega):=⟨_,rfl⟩;have Yw:Hid x.fits:=by show Fc.fits _;rw[hx];exact HLF.out _ (UR _)
  rw[<-hx]at t0 t1 t2 t3 t4;clear hx h7 e2 e3 hS7;obtain⟨W7,XX⟩:∃W7,W7=w6.alloc (.cells #[.string x.a,.string x.b,.string x.r,.string x.c,.string x.d] 29):=⟨_,rfl⟩;have HW7:Hid (W7.ownsRow w4.heap.size 29 5 (.slice (some ⟨gK,0,none⟩) ks.length capK) ks.length (aA ks)):=by show World.ownsRow _ _ _ _ _ _ _;rw[XX];exact HW6.out.alloc _
  have HN7:Hid (∀j u,x.row[j]?=some u->W7.cell? ((⟨w6.heap.size,0,none⟩:Addr).add j)=some u):=by rw[XX];exact wC w6 x
  have Yf:Hid (Only R w4 W7):=by show Only _ _ _;rw[XX];exact ZY.out.alloc _
  have HR7:Hid (Rd W7 R ad len cap):=by show Rd _ _ _ _ _;rw[XX];exact XG.out.alloc _
  have hsz7:w4.heap.size<=W7.heap.size:=Yf.out.size;clear HW6 ZY XG;go_wp2_with(at_builtin;rw[<-XX];clear XX;refine wpList_append_own_at _ rfl _ _ 40 rfl w4.heap.size 29 iF (.agg #[.string ⟨#[]⟩,.string ⟨#[]⟩,.string ⟨#[]⟩,.string ⟨#[]⟩,.string ⟨#[]⟩]) 5 80 underlying40 XN.out.1 XN.out.2.1 XN.out.2.2.1 XN.out.2.2.2 rfl (by decide) _ ks.length (aA ks) rfl HW7.out ⟨w6.heap.size,0,none⟩ 1 1 x.row rfl rfl HN7.out (by simp[Fc.row,Value.oneCell']) (by unfold maxLen;omega) (by omega) hsz7 ?_);intro v' w8 hown hgr _ _;have HW8:Hid (w8.ownsRow w4.heap.size 29 5 v' (ks++[x]).length (aA (ks++[x]))):=by
   show World.ownsRow _ _ _ _ _ _ _;rw[U2,ko];exact hown
  have hrow:∀g,(Value.slice (some ⟨gK,0,none⟩) ks.length capK).ownBlock=some g->w4.heap.size<=g:=fun g e=>(HW7.out.lt g e).1;have HR8:Hid (Rd w8 R ad len cap):=HR7.out.grown hgr (fun e=>by have:=hrow R e.symm;omega) (fun h0 b off e e2=>by have:=HFAR.out h0 b off e;have:=hrow b e2.symm;omega);have HO8:Hid (Only R w4 w8):=Yf.out.grownNew hgr fun g e=>hrow g e;have HK8:Hid (∀y∈ks++[x],y.fits):=fun y hy=>by
   rcases U6.1 hy with h|h
   ·exact ZG.out y h
   obtain rfl:=U4.1 h;exact Yw.out
  obtain⟨g3,c3,rfl⟩:=Ir HW8.out (by simp);clear hown hgr hrow HW7 HN7 Yf HR7 t0 t1 t2 t3 t4 hbl;go_wp2;go_roundw;case rel=>exact⟨k+1,ks++[x],g3,c3,by omega,by go_num,rfl,by simp;omega,HK8,HW8,HR8,HO8⟩
  simp[intOf]<;>omega
 have hi2:¬((k:Int)<(n:Int)):=by omega
 obtain rfl:k=n:=by omega
 go_wp2_with fail;refine(gW R ad len cap 8 _ HR.out (by omega) (by omega)).mono ?_;rintro e w6 ⟨⟨q,rfl⟩,hR6,XL⟩;have XG:=dX hR6;have ZY:=dX (HO.out.trans XL);have HW6:=dX (XT.out.kept XL (.inr fun e=>by have:=(XT.out.lt _ e).1;omega));clear hR6 XL HR HO XT;cases q
 case' false =>
  have HRJ:=XG;have HOJ:=ZY;have ZE:=HW6;have hkl:ks.length<=115201:=by omega
  obtain⟨wj,hwj⟩:∃wj,wj=w6:=⟨_,rfl⟩;rw[<-hwj]at HRJ HOJ ZE ⊢;clear hwj XG ZY HW6
 case' true =>
  go_wp2_with fail;refine(HDRAW.out _ ZY.out XG.out).mono ?_;rintro e w7 ⟨⟨x,rfl,hsx⟩,hR7,hO7⟩;have Yw:=dX hsx.fits;obtain⟨W7,XX⟩:∃W7,W7=w7.alloc (.cells #[.string x.a,.string x.b,.string x.r,.string x.c,.string x.d] 29):=⟨_,rfl⟩;have HW7:Hid (W7.ownsRow w4.heap.size 29 5 (.slice (some ⟨gK,0,none⟩) ks.length capK) ks.length (aA ks)):=by show World.ownsRow _ _ _ _ _ _ _;rw[XX];exact(HW6.out.kept hO7 (.inr fun e=>by have:=(HW6.out.lt _ e).1;omega)).alloc _
  have HN7:Hid (∀j u,x.row[j]?=some u->W7.cell? ((⟨w7.heap.size,0,none⟩:Addr).add j)=some u):=by rw[XX];exact wC w7 x
  have Yf:Hid (Only R w4 W7):=by show Only _ _ _;rw[XX];exact(ZY.out.trans hO7).alloc _
  have HR7:Hid (Rd W7 R ad len cap):=by show Rd _ _ _ _ _;rw[XX];exact hR7.alloc _
  have hsz7:w4.heap.size<=W7.heap.size:=Yf.out.size;clear HW6 ZY XG hsx hR7 hO7;go_wp2_with(at_builtin;rw[<-XX];clear XX;refine wpList_append_own_at _ rfl _ _ 40 rfl w4.heap.size 29 iF (.agg #[.string ⟨#[]⟩,.string ⟨#[]⟩,.string ⟨#[]⟩,.string ⟨#[]⟩,.string ⟨#[]⟩]) 5 80 underlying40 XN.out.1 XN.out.2.1 XN.out.2.2.1 XN.out.2.2.2 rfl (by decide) _ ks.length (aA ks) rfl HW7.out ⟨w7.heap.size,0,none⟩ 1 1 x.row rfl rfl HN7.out (by simp[Fc.row,Value.oneCell']) (by unfold maxLen;omega) (by omega) hsz7 ?_);intro v' wj hown hgr _ _;have ZE:Hid (wj.ownsRow w4.heap.size 29 5 v' (ks++[x]).length (aA (ks++[x]))):=by
   show World.ownsRow _ _ _ _ _ _ _;rw[U2,ko];exact hown
  have hrow:∀g,(Value.slice (some ⟨gK,0,none⟩) ks.length capK).ownBlock=some g->w4.heap.size<=g:=fun g e=>(HW7.out.lt g e).1;have HRJ:Hid (Rd wj R ad len cap):=HR7.out.grown hgr (fun e=>by have:=hrow R e.symm;omega) (fun h0 b off e e2=>by have:=HFAR.out h0 b off e;have:=hrow b e2.symm;omega);have HOJ:Hid (Only R w4 wj):=Yf.out.grownNew hgr fun g e=>hrow g e;have HK8:Hid (∀y∈ks++[x],y.fits):=fun y hy=>by
   rcases U6.1 hy with h|h
   ·exact ZG.out y h
   obtain rfl:=U4.1 h;exact Yw.out
  have hkl:(ks++[x]).length<=115201:=by simp;omega
  clear hown hgr hrow HW7 HN7 Yf HR7 ZG;have ZG:=HK8;clear HK8;obtain⟨ks,hks⟩:∃ys,ys=ks++[x]:=⟨_,rfl⟩;obtain⟨gK,capK,rfl⟩:=Ir ZE.out (by simp);rw[<-hks]at ZE ZG hkl ⊢;clear hks
 all_goals
  by_cases hz:k=0
  ·have hd1:decide ((0:Int)<(k:Int))=false:=by simp;omega
   have hd2:decide (0<k)=false:=by simp;omega
   go_wp2_with fail;refine(HDRAW.out _ HOJ.out HRJ.out).mono ?_;rintro e w6 ⟨⟨f,rfl,hsf⟩,-,XL⟩;have Yy:=dX hsf.fits;have WY:=dX (Only.trans HOJ.out XL);have HOW6:=dX (ZE.out.kept XL (.inr fun e=>by have:=(ZE.out.lt _ e).1;omega));clear hsf XL ZE HRJ HOJ;obtain⟨W5,WL⟩:∃W5,W5=((((w6.setCell ⟨w.heap.size,0,none⟩ (.string f.a)).setCell ⟨w.heap.size,1,none⟩ (.string f.b)).setCell ⟨w.heap.size,2,none⟩ (.string f.r)).setCell ⟨w.heap.size,3,none⟩ (.string f.c)).setCell ⟨w.heap.size,4,none⟩ (.string f.d):=⟨_,rfl⟩;have hS6:=HS4.out.only (WY.out);have Wu:=dX (WK.out w6 gK capK ks f WY.out Yy.out ZG.out hkl HOW6.out W5 WL);have HC5:=dX (hS6.set _ _ _ _ _ W5 WL);obtain⟨s1,s2,s3,s4⟩:=hS6;obtain⟨u0,k0⟩:=s4 0 (by omega);obtain⟨u1,k1⟩:=s4 1 (by omega);obtain⟨u2,k2⟩:=s4 2 (by omega);obtain⟨u3,k3⟩:=s4 3 (by omega);obtain⟨u4,k4⟩:=s4 4 (by omega);clear s4;go_wp2;rw[<-WL];clear WL k0 k1 k2 k3 k4 s2 s3;obtain⟨c0,c1,c2,c3,c4,-⟩:=HC5.out;exact bodyPost_ret (v:=.tuple #[.slice WQ rs.length WG,.slice (some ⟨g,0,none⟩) ts.length c,.slice (some ⟨gK,0,none⟩) ks.length capK,.agg #[.string f.a,.string f.b,.string f.r,.string f.c,.string f.d]]) (by simp[results,Tryz.results26,go_sem, *]) rfl Wu.out
  have hd1:decide ((0:Int)<(k:Int))=true:=by simp;omega
  have hd2:decide (0<k)=true:=by simp;omega
  go_wp2_with fail;refine(gW R ad len cap 2 _ HRJ.out (by omega) (by omega)).mono ?_;rintro e w9 ⟨⟨q,rfl⟩,hR9,hO9⟩;have HW9:=dX (ZE.out.kept hO9 (.inr fun e=>by have:=(ZE.out.lt _ e).1;omega));replace HRJ:=dX hR9;replace HOJ:=dX (HOJ.out.trans hO9);clear hR9 hO9 ZE;have ZE:=HW9;clear HW9;cases q;case false=>
   go_wp2_with fail;refine(HDRAW.out _ HOJ.out HRJ.out).mono ?_;rintro e w6 ⟨⟨f,rfl,hsf⟩,-,XL⟩;have Yy:=dX hsf.fits;have WY:=dX (Only.trans HOJ.out XL);have HOW6:=dX (ZE.out.kept XL (.inr fun e=>by have:=(ZE.out.lt _ e).1;omega));clear hsf XL ZE HRJ HOJ;obtain⟨W5,WL⟩:∃W5,W5=((((w6.setCell ⟨w.heap.size,0,none⟩ (.string f.a)).setCell ⟨w.heap.size,1,none⟩ (.string f.b)).setCell ⟨w.heap.size,2,none⟩ (.string f.r)).setCell ⟨w.heap.size,3,none⟩ (.string f.c)).setCell ⟨w.heap.size,4,none⟩ (.string f.d):=⟨_,rfl⟩;have hS6:=HS4.out.only (WY.out);have Wu:=dX (WK.out w6 gK capK ks f WY.out Yy.out ZG.out hkl HOW6.out W5 WL);have HC5:=dX (hS6.set _ _ _ _ _ W5 WL);obtain⟨s1,s2,s3,s4⟩:=hS6;obtain⟨u0,k0⟩:=s4 0 (by omega);obtain⟨u1,k1⟩:=s4 1 (by omega);obtain⟨u2,k2⟩:=s4 2 (by omega);obtain⟨u3,k3⟩:=s4 3 (by omega);obtain⟨u4,k4⟩:=s4 4 (by omega);clear s4;go_wp2;rw[<-WL];clear WL k0 k1 k2 k3 k4 s2 s3;obtain⟨c0,c1,c2,c3,c4,-⟩:=HC5.out;exact bodyPost_ret (v:=.tuple #[.slice WQ rs.length WG,.slice (some ⟨g,0,none⟩) ts.length c,.slice (some ⟨gK,0,none⟩) ks.length capK,.agg #[.string f.a,.string f.b,.string f.r,.string f.c,.string f.d]]) (by simp[results,Tryz.results26,go_sem, *]) rfl Wu.out
  have HRD:=dX (HRJ.out.below (UV _ _).drew);have hOd:Only R w9 w9.drew:=Only.of_below (UV w9.heap.size w9).drew;have HOD:=dX (HOJ.out.trans hOd);have HWD:=dX (ZE.out.kept hOd (.inr fun e=>by have:=(ZE.out.lt _ e).1;omega));have YF:=dX (KC R ad len cap k w9.drew HRD.out (by omega) (by omega));clear hOd HRJ HOJ ZE;go_wp2_with fail;refine wp_region_held_drew (S:=fun _=>True) (by kernel_rfl) trivial (fun hHeld=>?_);refine tk 0 52 ?_;go_frame;refine tk 1 53 ?_;go_frame;refine tk 2 54 ?_;go_frame;refine tk 3 55 ?_;go_frame;refine tk 4 56 ?_;go_frame;refine tk 5 57 ?_;go_frame;refine tk 6 58 ?_;go_frame;refine wpAnyH_ready (rs:=[7]) (by kernel_rfl) (by simp) ?_;refine AllReadyH.cons rfl (fun K hK=>?_) AllReadyH.nil;go_simp;refine YF.out.mono ?_;rintro e w6 ⟨⟨x,rfl,hx⟩,-,hO7⟩;have WY:=dX (HOD.out.trans hO7);have HOW6:=dX (HWD.out.kept hO7 (.inr fun e=>by have:=(HWD.out.lt _ e).1;omega));go_wp2_with fail;refine hK.out _ _ trivial (fun _=>?_);clear hK K;have h7:=HOF.out.kept WY.out (.inr fun e=>by have:=(HOF.out.lt R e).1;omega);obtain⟨adX,capX,eX,hS7⟩:=iP h7;injection eX with e1 e2 e3;subst e1;obtain⟨b,off,rfl,t5,hbl⟩:=o8.at0 hS7 (show x<L.length by omega);obtain⟨f,hf⟩:∃f,f=L[x]'(by omega):=⟨_,rfl⟩;rw[<-hf]at t5;obtain⟨t0,t1,t2,t3,t4⟩:=t5;have Yy:Hid f.fits:=by show f.fits;rw[hf];exact HLF.out _ (UR _)
  have hx1:=bG x;have hx2:(x:Int)<(k:Int):=by omega
  clear hf hbl h7 e2 e3 hO7 hS7;refine tk 8 60 ?_;go_frame;refine tk 10 2 ?_;go_frame;refine tk 11 3 ?_;go_frame;refine tk 12 4 ?_;go_frame;refine wpAnyH_ready (rs:=[9]) (by kernel_rfl) (by simp) ?_;refine AllReadyH.cons rfl (fun K hK=>?_) AllReadyH.nil;go_simp;refine hK.out _ _ trivial (fun _=>?_);clear hK K;obtain⟨W5,WL⟩:∃W5,W5=((((w6.setCell ⟨w.heap.size,0,none⟩ (.string f.a)).setCell ⟨w.heap.size,1,none⟩ (.string f.b)).setCell ⟨w.heap.size,2,none⟩ (.string f.r)).setCell ⟨w.heap.size,3,none⟩ (.string f.c)).setCell ⟨w.heap.size,4,none⟩ (.string f.d):=⟨_,rfl⟩;have hS6:=HS4.out.only (WY.out);have Wu:=dX (WK.out w6 gK capK ks f WY.out Yy.out ZG.out hkl HOW6.out W5 WL);have HC5:=dX (hS6.set _ _ _ _ _ W5 WL);obtain⟨s1,s2,s3,s4⟩:=hS6;obtain⟨u0,k0⟩:=s4 0 (by omega);obtain⟨u1,k1⟩:=s4 1 (by omega);obtain⟨u2,k2⟩:=s4 2 (by omega);obtain⟨u3,k3⟩:=s4 3 (by omega);obtain⟨u4,k4⟩:=s4 4 (by omega);clear s4;refine wpAnyH_ready (rs:=[13]) (by kernel_rfl) (by simp) ?_;refine AllReadyH.cons rfl (fun K hK=>?_) AllReadyH.nil;go_simp;rw[<-WL];clear WL k0 k1 k2 k3 k4 s2 s3;obtain⟨c0,c1,c2,c3,c4,-⟩:=HC5.out;refine hK.out _ _ trivial (fun _=>?_);clear hK K;refine wpAnyH_done (by kernel_rfl) ?_ _;go_wp2;exact bodyPost_ret (v:=.tuple #[.slice WQ rs.length WG,.slice (some ⟨g,0,none⟩) ts.length c,.slice (some ⟨gK,0,none⟩) ks.length capK,.agg #[.string f.a,.string f.b,.string f.r,.string f.c,.string f.d]]) (by simp[results,Tryz.results26,go_sem, *]) rfl Wu.out
end Go.Proofs.YtajkkeikihhejaaGreat
