/- Contract of the document's function that tells whether a tuple fits a schema. -/
import Derived.Test.YtojjoblnpldniaaGreatSq
import Derived.Test.YtojjoblnpldniaaGreatFits0
import Derived.Test.YtojjoblnpldniaaGreatJ17
import Derived.Test.YtojjoblnpldniaaGreatJ28
open Go.Proofs.Tryz
set_option maxHeartbeats 80000000
namespace Go.Proofs.YtojjoblnpldniaaGreat
open ChangeShapes WideShapes ChangeAt RowKit Maps
open Pl
set_option maxRecDepth 100000 in
theorem FN(ad:Q02)(cap:Nat)(rs:Q06)(oa ob r c d s:bQ)(w:ae)(hlen:rs.length<=1048576)(hs:mP w ad rs)(hl:∀r∈rs,r.light)(hf:∀r∈rs,r.fits)(ha:oa.size<=maxLen)(hb:ob.size<=maxLen)(hr:r.size<=maxLen)(hc:c.size<=maxLen)(hd:d.size<=maxLen)(hz:s.size<=maxLen):
  Calls prog 182 #[.slice ad rs.length cap,.agg #[.string oa,.string ob,.string r,.string c,.string d,.string s]] w fun e w'=>e=.returned (.bool (lh (af rs) oa ob r c d s))/\ag w w':=by
 have HS:=aC hs;have HL:=aC hl;have WR:=aC hf;clear hs hl hf;obtain⟨W0,hW0⟩:∃W0,W0=w.alloc (.cells #[.string oa,.string ob,.string r,.string c,.string d,.string s] 29):=⟨_,rfl⟩;have hal:ag w W0:=by rw[hW0];exact(Vs _ _).alloc (Vr _) _
 have HB0:=aC hal;have hw0:w.heap.size<W0.heap.size:=by rw[hW0];simp
 have c0:W0.cell? ⟨w.heap.size,0,none⟩=some (.string oa):=by rw[hW0];simp
 have c1:W0.cell? ⟨w.heap.size,1,none⟩=some (.string ob):=by rw[hW0];simp
 have c2:W0.cell? ⟨w.heap.size,2,none⟩=some (.string r):=by rw[hW0];simp
 have c3:W0.cell? ⟨w.heap.size,3,none⟩=some (.string c):=by rw[hW0];simp
 have c4:W0.cell? ⟨w.heap.size,4,none⟩=some (.string d):=by rw[hW0];simp
 have c5:W0.cell? ⟨w.heap.size,5,none⟩=some (.string s):=by rw[hW0];simp
 clear hal;go_enter func182,ntmps182;go_wp2_with fail;rw[<-hW0];clear hW0;refine(jX ad cap rs _ hlen (HS.out.below HB0.out) HL.out WR.out).mono ?_;rintro e w1 ⟨rfl,hb1⟩;have HB1:=iJ HB0 hb1;have hw1:w.heap.size<w1.heap.size:=Vq hw0 hb1.size;replace c0:=aA hb1 hw0 c0;replace c1:=aA hb1 hw0 c1;replace c2:=aA hb1 hw0 c2;replace c3:=aA hb1 hw0 c3;replace c4:=aA hb1 hw0 c4;replace c5:=aA hb1 hw0 c5;clear hb1 hw0;cases hd5:aN (af rs);case false=>
  have HN:Hid (lh (af rs) oa ob r c d s=false):=by show _=_;unfold lh;rw[hd5];rfl
  go_wp2;go_ret;exact⟨by rw[HN.out];rfl,HB1.out⟩
 have HN:Hid (lh (af rs) oa ob r c d s=pY (af rs) oa ob r c d s):=by show _=_;unfold lh;rw[hd5];rfl
 go_wp2_with fail;refine(BG ad cap rs oa ob r c d s _ hlen (HS.out.below HB1.out) HL.out ha hb hr hc hd hz).mono ?_;rintro e w2 ⟨rfl,hb2⟩;have HB2:=iJ HB1 hb2;clear hb2;go_wp2;go_ret;exact⟨by rw[HN.out];rfl,HB2.out⟩
set_option linter.unusedVariables false
set_option maxRecDepth 100000
theorem iE.only{wc wd:ae}{R base:Nat}{v:Value}{rs:Q06}(h:iE wc base v rs)(hR:R<base)(ho:Only R wc wd):iE wd base v rs :=
 h.heap nI ho.size fun g hg=>ho.block g (h.lt nI hg).2 (fun e=>by injection e with e;have:=(h.lt nI hg).1;omega)
theorem iE.slT{w:ae}{R base cap:Nat}{XG:Q02}{rs:Q06}(h:iE w base (.slice XG rs.length cap) rs)(hR:R<base):∀W,Only R w W->mP W XG rs:=fun W hO=>by
 obtain⟨WS,cap',e,hs,-⟩:=(h.only hR hO).read;injection e with e1 e2 e3;subst e1;exact hs
def Rc(w:World)(n:Nat)(a b r c d s:ByteArray):Prop:=w.cell? ⟨n,0,none⟩=some (.string a)/\w.cell? ⟨n,1,none⟩=some (.string b)/\w.cell? ⟨n,2,none⟩=some (.string r)/\w.cell? ⟨n,3,none⟩=some (.string c)/\w.cell? ⟨n,4,none⟩=some (.string d)/\w.cell? ⟨n,5,none⟩=some (.string s)
theorem Rc.same{w w':ae}{n:Nat}{a b r c d s:ByteArray}(h:Rc w n a b r c d s)(hk:∀o,w'.cell? ⟨n,o,none⟩=w.cell? ⟨n,o,none⟩):Rc w' n a b r c d s :=
 ⟨(hk _).trans h.1,(hk _).trans h.2.1,(hk _).trans h.2.2.1,(hk _).trans h.2.2.2.1,(hk _).trans h.2.2.2.2.1,(hk _).trans h.2.2.2.2.2⟩
theorem FO{w w':ae}{base g c n:Nat}{xs:Q03}(h:w.ownsRow base 29 6 (.slice (some ⟨g,0,none⟩) n c) n xs)(hb:ag w w'):w'.ownsRow base 29 6 (.slice (some ⟨g,0,none⟩) n c) n xs :=
 h.kept (row:=none) ⟨hb.os,hb.tape,hb.output,hb.size,fun i hi _=>hb.block i hi⟩ (.inr (by simp[Value.ownBlock]))
theorem IC(R:Nat)(ad:Q02)(len cap:Nat)(XG:Q02)(XH base:Nat)(rs:Q06)(w:ae)(h:Rd w R ad len cap)(hRb:R<base)(hT:iE w base (.slice XG rs.length XH) rs)(hG:GoodS rs):
  Calls prog 109 #[.pointer (some ⟨R,0,none⟩),.slice XG rs.length XH,.int .i64 10] w fun e w'=>(∃(g c:Nat) (ts:Q05),e=.returned (.slice (some ⟨g,0,none⟩) ts.length c)/\ts.length<=10/\p8 ts/\w'.ownsRow w.heap.size 29 6 (.slice (some ⟨g,0,none⟩) ts.length c) ts.length (aZ ts))/\Rd w' R ad len cap/\Only R w w':=by
 have Zf:=h.lt;have HS:Hid (∀W,Only R w W->mP W XG rs):=hT.slT hRb;obtain⟨hG1,hG2,hG3⟩:=hG;have hlen:rs.length<=1048576:=by omega
 have HL:=di hG2;have HF:=di hG3;clear hG2 hG3 hT;obtain⟨W0,hW0⟩:∃W0,W0=w.alloc (.cells #[] 29):=⟨_,rfl⟩;have Xx:Hid (W0.ownsRow w.heap.size 29 6 (.slice (some ⟨w.heap.size,0,none⟩) 0 0) 0 (aZ [])):=by
  show World.ownsRow _ _ _ _ _ _ _;rw[hW0];exact World.ownsRow_lit w #[] 0 (Vr _) (by unfold maxLen;omega) (by simp)
 have XI:Hid (Rd W0 R ad len cap):=by show Rd _ _ _ _ _;rw[hW0];exact h.alloc _
 have Yd:Hid (Only R w W0):=by show Only _ _ _;rw[hW0];exact(Only.refl _ _).alloc _
 clear h;go_enter func109,ntmps109;go_wp2_with fail;rw[<-hW0];clear hW0;refine(dD R ad len cap 11 _ XI.out (by omega) (by omega)).mono ?_;rintro e w1 ⟨⟨x,rfl,hx0,hx1⟩,Xf,Xe⟩;have HR1:=di Xf;have Xb:Hid (Only R w w1):=Yd.out.trans Xe;have HL1:Hid (w1.ownsRow w.heap.size 29 6 (.slice (some ⟨w.heap.size,0,none⟩) 0 0) 0 (aZ [])):=oM Xx.out Zf Xe;clear Xf Xe Xx XI Yd;go_wp2_with fail;go_loopw[7,8] (fun v i wr=>∃(k:Nat) (ts:Q05) (g c:Nat),i=.int .i64 k/\ts.length+k<=10/\v=.slice (some ⟨g,0,none⟩) ts.length c/\Hid (p8 ts)/\Hid (wr.ownsRow w.heap.size 29 6 v ts.length (aZ ts))/\Hid (Rd wr R ad len cap)/\Hid (Only R w wr)) (fun _ i _=>(intOf i).toNat);case atStart=>exact⟨x.toNat,[],w.heap.size,0,by rw[Int.toNat_of_nonneg hx0],by simp;omega,rfl,Oc,HL1,HR1,Xb⟩
 clear HL1 HR1 Xb hx0 hx1;obtain⟨k,ts,g,c,rfl,hk,rfl,HSh,HOw,HR,HO⟩:=hrel;by_cases hk0:0<k
 ·have hk1:(0:Int)<(k:Int):=by omega
  go_wp2_with fail;refine(Db R ad len cap _ HR.out).mono ?_;rintro e w2 ⟨⟨a,b,r,c2,d,s,rfl,ha,hb,hr,hc,hd,hs⟩,hR2,hO2⟩;have HT:Hid (Tp.short ⟨a,b,r,c2,d,s⟩):=⟨ha,hb,hr,hc,hd,hs⟩;obtain⟨f1,f2,f3,f4,f5,f6⟩:=HT.out.fits;obtain⟨W2,hW2⟩:∃W2,W2=w2.alloc (.cells #[.string a,.string b,.string r,.string c2,.string d,.string s] 29):=⟨_,rfl⟩;have HR2:Hid (Rd W2 R ad len cap):=by show Rd _ _ _ _ _;rw[hW2];exact hR2.alloc _
  have WL:Hid (Only R w W2):=by show Only _ _ _;rw[hW2];exact(HO.out.trans hO2).alloc _
  have HOw2:Hid (W2.ownsRow w.heap.size 29 6 (.slice (some ⟨g,0,none⟩) ts.length c) ts.length (aZ ts)):=by show World.ownsRow _ _ _ _ _ _ _;rw[hW2];exact(oM HOw.out Zf hO2).alloc _
  have hz2:w2.heap.size<W2.heap.size:=by rw[hW2];simp
  have hnR:w2.heap.size≠R:=by have:=hR2.lt;omega
  have HC:Hid (Rc W2 w2.heap.size a b r c2 d s):=by
   show Rc _ _ _ _ _ _ _ _;rw[hW2];refine⟨?_,?_,?_,?_,?_,?_⟩<;>simp
  clear ha hb hr hc hd hs hR2 hO2 HR HO HOw;go_wp2_with fail;rw[<-hW2];clear hW2;refine(FN XG XH rs _ _ _ _ _ _ _ hlen (HS.out _ WL.out) HL.out HF.out f1 f2 f3 f4 f5 f6).mono ?_;rintro e w3 ⟨rfl,hb3⟩;have HR3:=aC (HR2.out.below hb3);have Xc:=aC (WL.out.below hb3);have ZL:=di (FO HOw2.out hb3);have ZF:=di (HC.out.same fun o=>hb3.cell (p:=⟨_,o,none⟩) hz2);have hz3:=Vq hz2 hb3.size;clear hb3 HR2 WL HOw2 HC hz2;cases hq:lh (af rs) a b r c2 d s;case true=>
   obtain⟨c0,c1,c2',c3,c4,c5⟩:=ZF.out;clear hq;have HA:=di (tC g 0 c ts ⟨a,b,r,c2,d,s⟩ w3 (by omega) (nz ZL.out rfl).2.2.1 (nz ZL.out rfl).1 (nz ZL.out rfl).2.1 HSh.out.fits HT.out.fits);go_wp2_with fail;refine HA.out.mono ?_;rintro e w5 ⟨v5,rfl,hown5,hb5⟩;have Xo:=aC (HR3.out.below hb5);have WV:=aC (Xc.out.below hb5);clear c0 c1 c2' c3 c4 c5;cases hz:iH ts ⟨a,b,r,c2,d,s⟩;case true=>
    rw[rC hz,sG]at hown5;obtain⟨g3,c3,rfl⟩:=tF hown5;have aac:Hid (w5.ownsRow w.heap.size 29 6 (.slice (some ⟨g3,0,none⟩) (ts.length+1) c3) (ts.length+1) (aZ (gJ ts ⟨a,b,r,c2,d,s⟩))):=dY hown5 Xc.out.size;have HSh5:Hid (p8 (gJ ts ⟨a,b,r,c2,d,s⟩)):=HSh.out.put HT.out;have ZP:=di (sG ts ⟨a,b,r,c2,d,s⟩);have HQ:=di hz;clear hown5 hb5 hz HA ZL HR3 Xc;go_wp2;go_roundw;case rel=>exact⟨k-1,gJ ts ⟨a,b,r,c2,d,s⟩,g3,c3,by rw[show((k-1:Nat):Int)=(k:Int)-1 by omega],by rw[ZP.out];omega,by rw[ZP.out],HSh5,by rw[ZP.out];exact aac,Xo,WV⟩
    simp[intOf];omega
   have aac:=di (FO ZL.out hb5);rw[j6 hz]at hown5;obtain⟨ad5,cap5,hv5,-,-⟩:=PO (ts:=[]) hown5 rfl;subst hv5;have HQ:=di hz;clear hown5 hb5 hz HA ZL HR3 Xc;go_wp2;go_roundw;case rel=>exact⟨k-1,ts,g,c,by rw[show((k-1:Nat):Int)=(k:Int)-1 by omega],by omega,rfl,HSh,aac,Xo,WV⟩
   simp[intOf];omega
  clear hq;go_wp2_with fail;refine(iN R ad len cap 60 _ HR3.out (by omega) (by omega)).mono ?_;rintro e w4 ⟨⟨q,rfl⟩,YY,hO4⟩;have HR4:=di YY;have WZ:Hid (Only R w w4):=Xc.out.trans hO4;have aad:=di (oM ZL.out Zf hO4);have HC4:=di (ZF.out.same fun o=>hO4.cell (b:=w2.heap.size) (o:=o) hz3 hnR);clear YY hO4 HR3 Xc ZL ZF;cases q;case true=>
   obtain⟨c0,c1,c2',c3,c4,c5⟩:=HC4.out;have HA:=di (tC g 0 c ts ⟨a,b,r,c2,d,s⟩ w4 (by omega) (nz aad.out rfl).2.2.1 (nz aad.out rfl).1 (nz aad.out rfl).2.1 HSh.out.fits HT.out.fits);go_wp2_with fail;refine HA.out.mono ?_;rintro e w5 ⟨v5,rfl,hown5,hb5⟩;have Xo:=aC (HR4.out.below hb5);have WV:=aC (WZ.out.below hb5);clear c0 c1 c2' c3 c4 c5;cases hz:iH ts ⟨a,b,r,c2,d,s⟩;case true=>
    rw[rC hz,sG]at hown5;obtain⟨g3,c3,rfl⟩:=tF hown5;have aac:Hid (w5.ownsRow w.heap.size 29 6 (.slice (some ⟨g3,0,none⟩) (ts.length+1) c3) (ts.length+1) (aZ (gJ ts ⟨a,b,r,c2,d,s⟩))):=dY hown5 WZ.out.size;have HSh5:Hid (p8 (gJ ts ⟨a,b,r,c2,d,s⟩)):=HSh.out.put HT.out;have ZP:=di (sG ts ⟨a,b,r,c2,d,s⟩);have HQ:=di hz;clear hown5 hb5 hz HA aad HR4 WZ;go_wp2;go_roundw;case rel=>exact⟨k-1,gJ ts ⟨a,b,r,c2,d,s⟩,g3,c3,by rw[show((k-1:Nat):Int)=(k:Int)-1 by omega],by rw[ZP.out];omega,by rw[ZP.out],HSh5,by rw[ZP.out];exact aac,Xo,WV⟩
    simp[intOf];omega
   have aac:=di (FO aad.out hb5);rw[j6 hz]at hown5;obtain⟨ad5,cap5,hv5,-,-⟩:=PO (ts:=[]) hown5 rfl;subst hv5;have HQ:=di hz;clear hown5 hb5 hz HA aad HR4 WZ;go_wp2;go_roundw;case rel=>exact⟨k-1,ts,g,c,by rw[show((k-1:Nat):Int)=(k:Int)-1 by omega],by omega,rfl,HSh,aac,Xo,WV⟩
   simp[intOf];omega
  go_wp2;go_roundw;case rel=>exact⟨k-1,ts,g,c,by rw[show((k-1:Nat):Int)=(k:Int)-1 by omega],by omega,rfl,HSh,aad,HR4,WZ⟩
  simp[intOf];omega
 obtain rfl:k=0:=by omega
 go_wp2;go_ret;exact⟨⟨g,c,ts,rfl,by omega,HSh.out,HOw.out⟩,HR.out,HO.out⟩
def SI(w:World)(e:Ending)(w':World):Prop:=∃(v:Value) (rs:Q06) (g c:Nat) (ts:Q05) (k:Int) (t:Tp),e=.returned (.tuple #[v,.slice (some ⟨g,0,none⟩) ts.length c,.agg #[.int .i64 k,.string t.a,.string t.b,.string t.r,.string t.c,.string t.d,.string t.s]])/\iE w' w.heap.size v rs/\GoodS rs/\ts.length<=10/\p8 ts/\t.short/\w'.ownsRow w.heap.size 29 6 (.slice (some ⟨g,0,none⟩) ts.length c) ts.length (aZ ts)/\ag w w'
theorem BV(n:Nat)(w:ae)(v0 v1 v2 v3 v4 v5 v6:Value):Only n w (((((((w.setCell ⟨n,0,none⟩ v0).setCell ⟨n,1,none⟩ v1).setCell ⟨n,2,none⟩ v2).setCell ⟨n,3,none⟩ v3).setCell ⟨n,4,none⟩ v4).setCell ⟨n,5,none⟩ v5).setCell ⟨n,6,none⟩ v6) :=
 (((((((Only.refl n w).set 0 v0).set 1 v1).set 2 v2).set 3 v3).set 4 v4).set 5 v5).set 6 v6
theorem yL(ad:Q02)(len cap:Nat)(w:ae)(h:Bytes w ad len):
  Calls prog 54 #[.slice ad len cap] w (SI w):=by
 have H:=aC h;clear h;obtain⟨W0,hW0⟩:∃W0,W0=w.alloc (.cells #[.int .i64 0,.string ⟨#[]⟩,.string ⟨#[]⟩,.string ⟨#[]⟩,.string ⟨#[]⟩,.string ⟨#[]⟩,.string ⟨#[]⟩] 31):=⟨_,rfl⟩;have HB0:=sH hW0;have HZ0:Hid (W0.heap.size=w.heap.size+1):=by show _=_;rw[hW0];simp
 have Yc:Hid (qg W0 (w.heap.size+1) w.heap.size 0 ⟨#[]⟩ ⟨#[]⟩ ⟨#[]⟩ ⟨#[]⟩ ⟨#[]⟩ ⟨#[]⟩):=by
  show qg _ _ _ _ _ _ _ _ _ _;rw[hW0];refine⟨by omega,by simp,fun o=>by simp,?_,?_,?_,?_,?_,?_,?_⟩<;>simp
 go_enter func54,ntmps54;go_wp2_with fail;rw[<-hW0];clear hW0;refine(Ph ad len cap _ (H.out.below HB0.out)).mono ?_;rintro e w1 ⟨rfl,Xf,hb1⟩;rw[HZ0.out]at Xf ⊢;obtain⟨R,hRR⟩:∃R,R=w.heap.size+1:=⟨_,rfl⟩;rw[<-hRR]at Xf Yc ⊢;have HB1:=iJ HB0 hb1;have HR1:=aC Xf;have HS1:=di (Yc.out.only (Only.of_below hb1));have hRn:w.heap.size<R:=by omega
 clear Xf hb1 Yc HB0 HZ0 hRR;go_wp2_with fail;refine(J5 R ad len cap _ HR1.out).mono ?_;rintro e w2 ⟨v,rs,rfl,hT2,hG,hR2,hO2⟩;have hb:=HR1.out.lt;obtain⟨XG,XH,rfl,-,-⟩:=hT2.read;have HR2:=aC hR2;have HB2:Hid (ag w w2):=Only.toBelow HB1.out hO2 HB1.out.size (by omega);have HT2:=aC hT2;have HG:Hid (GoodS rs):=hG;have HS2:=di (HS1.out.only hO2);clear hT2 hG hR2 hO2 HB1 HR1 HS1;go_wp2_with fail;refine(IC R ad len cap XG XH w1.heap.size rs _ HR2.out hb HT2.out HG.out).mono ?_;rintro e w3 ⟨⟨g,c,ts,rfl,hl9,hsh,hown⟩,Yi,hO3⟩;have HB3:Hid (ag w w3):=Only.toBelow HB2.out hO3 HB2.out.size (by omega);have HT3:Hid (iE w3 w1.heap.size (.slice XG rs.length XH) rs):=HT2.out.only hb hO3;have hw:w.heap.size<=w1.heap.size:=by omega
 have hs2:R<w2.heap.size:=HR2.out.lt;obtain⟨hrow,hg,-,hbg⟩:=nz hown rfl;have HO:=aC hown;have HC:=di (KM R ad len cap g c ts w3 Yi (by omega) hsh hrow hg (by omega));have HSH:=di hsh;have HS3:=di (HS2.out.only hO3);clear Yi hO3 HR2 HB2 HT2 HS2 hown hrow hg hbg hsh;go_wp2_with fail;refine HC.out.mono ?_;rintro e w4 ⟨⟨k,a,b,r,c2,d,s,rfl,ht⟩,YY,hO4⟩;have Xt:Hid (ag w w4):=Only.toBelow HB3.out hO4 HB3.out.size (by omega);have HT4:Hid (iE w4 w1.heap.size (.slice XG rs.length XH) rs):=HT3.out.only hb hO4;have WZ:Hid (w4.ownsRow w2.heap.size 29 6 (.slice (some ⟨g,0,none⟩) ts.length c) ts.length (aZ ts)):=oM HO.out hs2 hO4;have HTS:=aC ht;have hS4:=HS3.out.only hO4;have hn1:w.heap.size<w1.heap.size:=by omega
 have hn2:w.heap.size<w2.heap.size:=by omega
 obtain⟨W5,XW⟩:∃W5,W5=(((((((w4.setCell ⟨w.heap.size,0,none⟩ (.int .i64 k)).setCell ⟨w.heap.size,1,none⟩ (.string a)).setCell ⟨w.heap.size,2,none⟩ (.string b)).setCell ⟨w.heap.size,3,none⟩ (.string r)).setCell ⟨w.heap.size,4,none⟩ (.string c2)).setCell ⟨w.heap.size,5,none⟩ (.string d)).setCell ⟨w.heap.size,6,none⟩ (.string s)):=⟨_,rfl⟩;have Xi:Only w.heap.size w4 W5:=by rw[XW];exact BV _ _ _ _ _ _ _ _ _
 have HS5:Hid (qg W5 R w.heap.size k a b r c2 d s):=by show qg _ _ _ _ _ _ _ _ _ _;rw[XW];exact hS4.set
 have Xo:Hid (SI w (.returned (.tuple #[.slice XG rs.length XH,.slice (some ⟨g,0,none⟩) ts.length c,.agg #[.int .i64 k,.string a,.string b,.string r,.string c2,.string d,.string s]])) W5) :=
  ⟨_,rs,g,c,ts,k,⟨a,b,r,c2,d,s⟩,rfl,WW.lower (HT4.out.only hn1 Xi) hw,HG.out,hl9,HSH.out,HTS.out,dY (oM WZ.out hn2 Xi) (WH hn2),Only.toBelow Xt.out Xi Xt.out.size (Vr _)⟩
 obtain⟨s1,s2,s3,d0,d1,d2,d3,d4,d5,d6⟩:=hS4;clear ht YY hO4 Xi HB3 HT3 HO HC HS3 Xt HT4 WZ HTS HSH HG;go_wp2;rw[<-XW];clear XW d0 d1 d2 d3 d4 d5 d6 s2 s3;obtain⟨-,s2,s3,d0,d1,d2,d3,d4,d5,d6⟩:=HS5.out;exact bodyPost_ret (v:=.tuple #[.slice XG rs.length XH,.slice (some ⟨g,0,none⟩) ts.length c,.agg #[.int .i64 k,.string a,.string b,.string r,.string c2,.string d,.string s]]) (by simp[results,Tryz.results54,go_sem, *]) rfl Xo.out
theorem CE(ad:Q02)(len cap:Nat)(w:ae)(h:Bytes w ad len):
  Calls prog 10 #[.slice ad len cap] w (SI w):=by
 obtain⟨W0,hW0⟩:∃W0,W0=w.alloc (.cells #[.int .i64 0,.string ⟨#[]⟩,.string ⟨#[]⟩,.string ⟨#[]⟩,.string ⟨#[]⟩,.string ⟨#[]⟩,.string ⟨#[]⟩] 31):=⟨_,rfl⟩;have HB0:=sH hW0;have hz0:w.heap.size<W0.heap.size:=by rw[hW0];simp
 have HD:=di (yL ad len cap W0 (h.below HB0.out));have Yc:Hid (qg W0 W0.heap.size w.heap.size 0 ⟨#[]⟩ ⟨#[]⟩ ⟨#[]⟩ ⟨#[]⟩ ⟨#[]⟩ ⟨#[]⟩):=by
  show qg _ _ _ _ _ _ _ _ _ _;rw[hW0];refine⟨by simp,by simp,fun o=>by simp,?_,?_,?_,?_,?_,?_,?_⟩<;>simp
 clear h;go_enter func10,ntmps10;go_wp2_with fail;rw[<-hW0];clear hW0;refine HD.out.mono ?_;rintro e w4 ⟨v,rs,g,c,ts,k,t,rfl,hT,hG,hl,hsh,ht,hown,hb4⟩;obtain⟨XG,XH,rfl,-,-⟩:=hT.read;have Xt:=iJ HB0 hb4;have hS4:=Yc.out.only (Only.of_below hb4);obtain⟨W5,XW⟩:∃W5,W5=(((((((w4.setCell ⟨w.heap.size,0,none⟩ (.int .i64 k)).setCell ⟨w.heap.size,1,none⟩ (.string t.a)).setCell ⟨w.heap.size,2,none⟩ (.string t.b)).setCell ⟨w.heap.size,3,none⟩ (.string t.r)).setCell ⟨w.heap.size,4,none⟩ (.string t.c)).setCell ⟨w.heap.size,5,none⟩ (.string t.d)).setCell ⟨w.heap.size,6,none⟩ (.string t.s)):=⟨_,rfl⟩;have Xi:Only w.heap.size w4 W5:=by rw[XW];exact BV _ _ _ _ _ _ _ _ _
 have HS5:Hid (qg W5 W0.heap.size w.heap.size k t.a t.b t.r t.c t.d t.s):=by show qg _ _ _ _ _ _ _ _ _ _;rw[XW];exact hS4.set
 have Xo:Hid (SI w (.returned (.tuple #[.slice XG rs.length XH,.slice (some ⟨g,0,none⟩) ts.length c,.agg #[.int .i64 k,.string t.a,.string t.b,.string t.r,.string t.c,.string t.d,.string t.s]])) W5) :=
  ⟨_,rs,g,c,ts,k,t,rfl,WW.lower (hT.only hz0 Xi) (WH hz0),hG,hl,hsh,ht,dY (oM hown hz0 Xi) (WH hz0),Only.toBelow Xt.out Xi Xt.out.size (Vr _)⟩
 obtain⟨s1,s2,s3,d0,d1,d2,d3,d4,d5,d6⟩:=hS4;clear hT hG hl hsh ht hown hb4 Xt Xi HD HB0 Yc;go_wp2;rw[<-XW];clear XW d0 d1 d2 d3 d4 d5 d6 s2 s3;obtain⟨-,s2,s3,d0,d1,d2,d3,d4,d5,d6⟩:=HS5.out;exact bodyPost_ret (v:=.tuple #[.slice XG rs.length XH,.slice (some ⟨g,0,none⟩) ts.length c,.agg #[.int .i64 k,.string t.a,.string t.b,.string t.r,.string t.c,.string t.d,.string t.s]]) (by simp[results,Tryz.results10,go_sem, *]) rfl Xo.out
end Go.Proofs.YtojjoblnpldniaaGreat
