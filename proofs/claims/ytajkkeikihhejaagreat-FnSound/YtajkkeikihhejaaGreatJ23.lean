/- Contract of the document's function that tells whether a tuple fits a schema. -/
import Derived.Test.YtajkkeikihhejaaGreatSq
import Derived.Test.YtajkkeikihhejaaGreatJ19
import Derived.Test.YtajkkeikihhejaaGreatJ22
import Derived.Test.YtajkkeikihhejaaGreatJ13
import Derived.Test.YtajkkeikihhejaaGreatJ21
open Go.Proofs.Tryz
set_option maxHeartbeats 80000000
namespace Go.Proofs.YtajkkeikihhejaaGreat
open ChangeShapes WideShapes ChangeAt RowKit Maps
open Pl
set_option maxRecDepth 100000 in
theorem FZ(ad:Q02)(cap:Nat)(rs:Q06)(oa ob r c d s:bW)(w:af)(hlen:rs.length<=1048576)(hs:j5 w ad rs)(hl:∀r∈rs,r.light)(hf:∀r∈rs,r.fits)(ha:oa.size<=maxLen)(hb:ob.size<=maxLen)(hr:r.size<=maxLen)(hc:c.size<=maxLen)(hd:d.size<=maxLen)(hz:s.size<=maxLen):
  Calls prog 87 #[.slice ad rs.length cap,.agg #[.string oa,.string ob,.string r,.string c,.string d,.string s]] w fun e w'=>e=.returned (.bool (Ev (ag rs) oa ob r c d s))/\ae w w':=by
 have HS:=aD hs;have HL:=aD hl;have WE:=aD hf;clear hs hl hf;obtain⟨W0,hW0⟩:∃W0,W0=w.alloc (.cells #[.string oa,.string ob,.string r,.string c,.string d,.string s] 46):=⟨_,rfl⟩;have hal:ae w W0:=by rw[hW0];exact(Vb _ _).alloc (Va _) _
 have HB0:=aD hal;have hw0:w.heap.size<W0.heap.size:=by rw[hW0];simp
 have c0:W0.cell? ⟨w.heap.size,0,none⟩=some (.string oa):=by rw[hW0];simp
 have c1:W0.cell? ⟨w.heap.size,1,none⟩=some (.string ob):=by rw[hW0];simp
 have c2:W0.cell? ⟨w.heap.size,2,none⟩=some (.string r):=by rw[hW0];simp
 have c3:W0.cell? ⟨w.heap.size,3,none⟩=some (.string c):=by rw[hW0];simp
 have c4:W0.cell? ⟨w.heap.size,4,none⟩=some (.string d):=by rw[hW0];simp
 have c5:W0.cell? ⟨w.heap.size,5,none⟩=some (.string s):=by rw[hW0];simp
 clear hal;go_enter func87,ntmps87;go_wp2_with fail;rw[<-hW0];clear hW0;refine(kz ad cap rs _ hlen (HS.out.below HB0.out) HL.out WE.out).mono ?_;rintro e w1 ⟨rfl,hb1⟩;have HB1:=jF HB0 hb1;have hw1:w.heap.size<w1.heap.size:=U9 hw0 hb1.size;replace c0:=aJ hb1 hw0 c0;replace c1:=aJ hb1 hw0 c1;replace c2:=aJ hb1 hw0 c2;replace c3:=aJ hb1 hw0 c3;replace c4:=aJ hb1 hw0 c4;replace c5:=aJ hb1 hw0 c5;clear hb1 hw0;cases hd5:aK (ag rs);case false=>
  have HN:Hid (Ev (ag rs) oa ob r c d s=false):=by show _=_;unfold Ev;rw[hd5];rfl
  go_wp2;go_ret;exact⟨by rw[HN.out];rfl,HB1.out⟩
 have HN:Hid (Ev (ag rs) oa ob r c d s=tQ (ag rs) oa ob r c d s):=by show _=_;unfold Ev;rw[hd5];rfl
 go_wp2_with fail;refine(Cc ad cap rs oa ob r c d s _ hlen (HS.out.below HB1.out) HL.out ha hb hr hc hd hz).mono ?_;rintro e w2 ⟨rfl,hb2⟩;have HB2:=jF HB1 hb2;clear hb2;go_wp2;go_ret;exact⟨by rw[HN.out];rfl,HB2.out⟩
set_option linter.unusedVariables false
set_option maxRecDepth 100000
theorem iZ.only{wc wd:af}{R base:Nat}{v:Value}{rs:Q06}(h:iZ wc base v rs)(hR:R<base)(ho:Only R wc wd):iZ wd base v rs :=
 h.heap nk ho.size fun g hg=>ho.block g (h.lt nk hg).2 (fun e=>by injection e with e;have:=(h.lt nk hg).1;omega)
theorem iZ.slT{w:af}{R base cap:Nat}{Xk:Q02}{rs:Q06}(h:iZ w base (.slice Xk rs.length cap) rs)(hR:R<base):∀W,Only R w W->j5 W Xk rs:=fun W hO=>by
 obtain⟨Wv,cap',e,hs,-⟩:=(h.only hR hO).read;injection e with e1 e2 e3;subst e1;exact hs
def Q4(w:World)(n:Nat)(a b r c d s:ByteArray):Prop:=w.cell? ⟨n,0,none⟩=some (.string a)/\w.cell? ⟨n,1,none⟩=some (.string b)/\w.cell? ⟨n,2,none⟩=some (.string r)/\w.cell? ⟨n,3,none⟩=some (.string c)/\w.cell? ⟨n,4,none⟩=some (.string d)/\w.cell? ⟨n,5,none⟩=some (.string s)
theorem Q4.same{w w':af}{n:Nat}{a b r c d s:ByteArray}(h:Q4 w n a b r c d s)(hk:∀o,w'.cell? ⟨n,o,none⟩=w.cell? ⟨n,o,none⟩):Q4 w' n a b r c d s :=
 ⟨(hk _).trans h.1,(hk _).trans h.2.1,(hk _).trans h.2.2.1,(hk _).trans h.2.2.2.1,(hk _).trans h.2.2.2.2.1,(hk _).trans h.2.2.2.2.2⟩
theorem F3{w w':af}{base g c n:Nat}{xs:Q03}(h:w.ownsRow base 46 6 (.slice (some ⟨g,0,none⟩) n c) n xs)(hb:ae w w'):w'.ownsRow base 46 6 (.slice (some ⟨g,0,none⟩) n c) n xs :=
 h.kept (row:=none) ⟨hb.os,hb.tape,hb.output,hb.size,fun i hi _=>hb.block i hi⟩ (.inr (by simp[Value.ownBlock]))
theorem Cm(R:Nat)(ad:Q02)(len cap:Nat)(n:Nat)(w:af)(h:Rd w R ad len cap)(h1:1<=n)(h2:n<=200000):
  Calls prog 49 #[.pointer (some ⟨R,0,none⟩),.int .i64 (n:Int)] w fun e w'=>(∃x:Nat,e=.returned (.int .i64 (x:Int))/\x<n)/\Rd w' R ad len cap/\Only R w w':=by
 by_cases hn:n<=256
 ·exact gu R ad len cap n w h h1 hn
 have H:=aD h;clear h;have hne:((n:Int)==0)=false:=by simp;omega
 have hn1:¬(n:Int)<=1:=by omega
 have hn2:¬(n:Int)<=256:=by omega
 go_enter func49,ntmps49;go_wp2_with fail;refine(vV R ad len cap _ H.out).mono ?_;rintro e w1 ⟨⟨x,rfl,hx0,hx1⟩,Xe,WQ⟩;have HR:=aD Xe;have HO:=aD WQ;have hw1:IntKind.i64.wrap (x*256)=x*256:=by rw[IntKind.wrap_i64];omega
 clear Xe WQ;go_wp2_with fail;refine(vV R ad len cap _ HR.out).mono ?_;rintro e w2 ⟨⟨y,rfl,hy0,hy1⟩,hR2,hO2⟩;have HR2:=aD hR2;have Wu:Hid (Only R w w2):=HO.out.trans hO2;have hw2:IntKind.i64.wrap (x*256+y)=x*256+y:=by rw[IntKind.wrap_i64];omega
 obtain⟨z,hz⟩:∃z:Nat,(x*256+y)=(z:Int):=⟨(x*256+y).toNat,by omega⟩;have HZ:Hid ((x*256+y)%(n:Int)=((z%n:Nat):Int)):=by show _=_;rw[hz];exact(Int.natCast_emod z n).symm
 clear hR2 hO2 hz;go_wp2;go_ret;exact⟨⟨z%n,by rw[<-HZ.out];rfl,Nat.mod_lt _ (by omega)⟩,HR2.out,Wu.out⟩
theorem CP(R:Nat)(ad:Q02)(len cap:Nat)(Xk:Q02)(WV base:Nat)(rs:Q06)(w:af)(h:Rd w R ad len cap)(hRb:R<base)(hT:iZ w base (.slice Xk rs.length WV) rs)(hG:GoodS rs):
  Calls prog 46 #[.pointer (some ⟨R,0,none⟩),.slice Xk rs.length WV,.int .i64 12] w fun e w'=>(∃(g c:Nat) (ts:Q05),e=.returned (.slice (some ⟨g,0,none⟩) ts.length c)/\ts.length<=12/\rz ts/\w'.ownsRow w.heap.size 46 6 (.slice (some ⟨g,0,none⟩) ts.length c) ts.length (bY ts))/\Rd w' R ad len cap/\Only R w w':=by
 have YU:=h.lt;have HS:Hid (∀W,Only R w W->j5 W Xk rs):=hT.slT hRb;obtain⟨hG1,hG2,hG3⟩:=hG;have hlen:rs.length<=1048576:=by omega
 have HL:=gF hG2;have HF:=gF hG3;clear hG2 hG3 hT;obtain⟨W0,hW0⟩:∃W0,W0=w.alloc (.cells #[] 46):=⟨_,rfl⟩;have WU:Hid (W0.ownsRow w.heap.size 46 6 (.slice (some ⟨w.heap.size,0,none⟩) 0 0) 0 (bY [])):=by
  show World.ownsRow _ _ _ _ _ _ _;rw[hW0];exact World.ownsRow_lit w #[] 0 (Va _) (by unfold maxLen;omega) (by simp)
 have XM:Hid (Rd W0 R ad len cap):=by show Rd _ _ _ _ _;rw[hW0];exact h.alloc _
 have XO:Hid (Only R w W0):=by show Only _ _ _;rw[hW0];exact(Only.refl _ _).alloc _
 clear h;go_enter func46,ntmps46;go_wp2_with fail;rw[<-hW0];clear hW0;refine(bR R ad len cap 13 _ XM.out (by omega) (by omega)).mono ?_;rintro e w1 ⟨⟨x,rfl,hx0,hx1⟩,Xe,WQ⟩;have HR1:=gF Xe;have WK:Hid (Only R w w1):=XO.out.trans WQ;have HL1:Hid (w1.ownsRow w.heap.size 46 6 (.slice (some ⟨w.heap.size,0,none⟩) 0 0) 0 (bY [])):=oJ WU.out YU WQ;clear Xe WQ WU XM XO;go_wp2_with fail;go_loopw[7,8] (fun v i wr=>∃(k:Nat) (ts:Q05) (g c:Nat),i=.int .i64 k/\ts.length+k<=12/\v=.slice (some ⟨g,0,none⟩) ts.length c/\Hid (rz ts)/\Hid (wr.ownsRow w.heap.size 46 6 v ts.length (bY ts))/\Hid (Rd wr R ad len cap)/\Hid (Only R w wr)) (fun _ i _=>(intOf i).toNat);case atStart=>exact⟨x.toNat,[],w.heap.size,0,by rw[Int.toNat_of_nonneg hx0],by simp;omega,rfl,Nj,HL1,HR1,WK⟩
 clear HL1 HR1 WK hx0 hx1;obtain⟨k,ts,g,c,rfl,hk,rfl,HSh,HOw,HR,HO⟩:=hrel;by_cases hk0:0<k
 ·have hk1:(0:Int)<(k:Int):=by omega
  go_wp2_with fail;refine(Nh R ad len cap _ HR.out).mono ?_;rintro e w2 ⟨⟨a,b,r,c2,d,s,rfl,ha,hb,hr,hc,hd,hs⟩,hR2,hO2⟩;have HT:Hid (Tp.short ⟨a,b,r,c2,d,s⟩):=⟨ha,hb,hr,hc,hd,hs⟩;obtain⟨f1,f2,f3,f4,f5,f6⟩:=HT.out.fits;obtain⟨W2,hW2⟩:∃W2,W2=w2.alloc (.cells #[.string a,.string b,.string r,.string c2,.string d,.string s] 46):=⟨_,rfl⟩;have HR2:Hid (Rd W2 R ad len cap):=by show Rd _ _ _ _ _;rw[hW2];exact hR2.alloc _
  have Wu:Hid (Only R w W2):=by show Only _ _ _;rw[hW2];exact(HO.out.trans hO2).alloc _
  have HOw2:Hid (W2.ownsRow w.heap.size 46 6 (.slice (some ⟨g,0,none⟩) ts.length c) ts.length (bY ts)):=by show World.ownsRow _ _ _ _ _ _ _;rw[hW2];exact(oJ HOw.out YU hO2).alloc _
  have hz2:w2.heap.size<W2.heap.size:=by rw[hW2];simp
  have hnR:w2.heap.size≠R:=by have:=hR2.lt;omega
  have HC:Hid (Q4 W2 w2.heap.size a b r c2 d s):=by
   show Q4 _ _ _ _ _ _ _ _;rw[hW2];refine⟨?_,?_,?_,?_,?_,?_⟩<;>simp
  clear ha hb hr hc hd hs hR2 hO2 HR HO HOw;go_wp2_with fail;rw[<-hW2];clear hW2;refine(FZ Xk WV rs _ _ _ _ _ _ _ hlen (HS.out _ Wu.out) HL.out HF.out f1 f2 f3 f4 f5 f6).mono ?_;rintro e w3 ⟨rfl,hb3⟩;have HR3:=aD (HR2.out.below hb3);have WO:=aD (Wu.out.below hb3);have Z5:=gF (F3 HOw2.out hb3);have Zr:=gF (HC.out.same fun o=>hb3.cell (p:=⟨_,o,none⟩) hz2);have hz3:=U9 hz2 hb3.size;clear hb3 HR2 Wu HOw2 HC hz2;cases hq:Ev (ag rs) a b r c2 d s;case true=>
   obtain⟨c0,c1,c2',c3,c4,c5⟩:=Zr.out;clear hq;have HA:=gF (tK g 0 c ts ⟨a,b,r,c2,d,s⟩ w3 (by omega) (lZ Z5.out rfl).2.2.1 (lZ Z5.out rfl).1 (lZ Z5.out rfl).2.1 HSh.out.fits HT.out.fits);go_wp2_with fail;refine HA.out.mono ?_;rintro e w5 ⟨v5,rfl,hown5,hb5⟩;have WR:=aD (HR3.out.below hb5);have WF:=aD (WO.out.below hb5);clear c0 c1 c2' c3 c4 c5;cases hz:sS ts ⟨a,b,r,c2,d,s⟩;case true=>
    rw[BP hz,sD]at hown5;obtain⟨g3,c3,rfl⟩:=tL hown5;have HOw5:Hid (w5.ownsRow w.heap.size 46 6 (.slice (some ⟨g3,0,none⟩) (ts.length+1) c3) (ts.length+1) (bY (jV ts ⟨a,b,r,c2,d,s⟩))):=dJ hown5 WO.out.size;have HSh5:Hid (rz (jV ts ⟨a,b,r,c2,d,s⟩)):=HSh.out.put HT.out;have HLP:=gF (sD ts ⟨a,b,r,c2,d,s⟩);have HQ:=gF hz;clear hown5 hb5 hz HA Z5 HR3 WO;go_wp2;go_roundw;case rel=>exact⟨k-1,jV ts ⟨a,b,r,c2,d,s⟩,g3,c3,by rw[show((k-1:Nat):Int)=(k:Int)-1 by omega],by rw[HLP.out];omega,by rw[HLP.out],HSh5,by rw[HLP.out];exact HOw5,WR,WF⟩
    simp[intOf];omega
   have HOw5:=gF (F3 Z5.out hb5);rw[sw hz]at hown5;obtain⟨ad5,cap5,hv5,-,-⟩:=OA (ts:=[]) hown5 rfl;subst hv5;have HQ:=gF hz;clear hown5 hb5 hz HA Z5 HR3 WO;go_wp2;go_roundw;case rel=>exact⟨k-1,ts,g,c,by rw[show((k-1:Nat):Int)=(k:Int)-1 by omega],by omega,rfl,HSh,HOw5,WR,WF⟩
   simp[intOf];omega
  clear hq;go_wp2_with fail;refine(jR R ad len cap 60 _ HR3.out (by omega) (by omega)).mono ?_;rintro e w4 ⟨⟨q,rfl⟩,ZF,hO4⟩;have HR4:=gF ZF;have WG:Hid (Only R w w4):=WO.out.trans hO4;have HOw4:=gF (oJ Z5.out YU hO4);have HC4:=gF (Zr.out.same fun o=>hO4.cell (b:=w2.heap.size) (o:=o) hz3 hnR);clear ZF hO4 HR3 WO Z5 Zr;cases q;case true=>
   obtain⟨c0,c1,c2',c3,c4,c5⟩:=HC4.out;have HA:=gF (tK g 0 c ts ⟨a,b,r,c2,d,s⟩ w4 (by omega) (lZ HOw4.out rfl).2.2.1 (lZ HOw4.out rfl).1 (lZ HOw4.out rfl).2.1 HSh.out.fits HT.out.fits);go_wp2_with fail;refine HA.out.mono ?_;rintro e w5 ⟨v5,rfl,hown5,hb5⟩;have WR:=aD (HR4.out.below hb5);have WF:=aD (WG.out.below hb5);clear c0 c1 c2' c3 c4 c5;cases hz:sS ts ⟨a,b,r,c2,d,s⟩;case true=>
    rw[BP hz,sD]at hown5;obtain⟨g3,c3,rfl⟩:=tL hown5;have HOw5:Hid (w5.ownsRow w.heap.size 46 6 (.slice (some ⟨g3,0,none⟩) (ts.length+1) c3) (ts.length+1) (bY (jV ts ⟨a,b,r,c2,d,s⟩))):=dJ hown5 WG.out.size;have HSh5:Hid (rz (jV ts ⟨a,b,r,c2,d,s⟩)):=HSh.out.put HT.out;have HLP:=gF (sD ts ⟨a,b,r,c2,d,s⟩);have HQ:=gF hz;clear hown5 hb5 hz HA HOw4 HR4 WG;go_wp2;go_roundw;case rel=>exact⟨k-1,jV ts ⟨a,b,r,c2,d,s⟩,g3,c3,by rw[show((k-1:Nat):Int)=(k:Int)-1 by omega],by rw[HLP.out];omega,by rw[HLP.out],HSh5,by rw[HLP.out];exact HOw5,WR,WF⟩
    simp[intOf];omega
   have HOw5:=gF (F3 HOw4.out hb5);rw[sw hz]at hown5;obtain⟨ad5,cap5,hv5,-,-⟩:=OA (ts:=[]) hown5 rfl;subst hv5;have HQ:=gF hz;clear hown5 hb5 hz HA HOw4 HR4 WG;go_wp2;go_roundw;case rel=>exact⟨k-1,ts,g,c,by rw[show((k-1:Nat):Int)=(k:Int)-1 by omega],by omega,rfl,HSh,HOw5,WR,WF⟩
   simp[intOf];omega
  go_wp2;go_roundw;case rel=>exact⟨k-1,ts,g,c,by rw[show((k-1:Nat):Int)=(k:Int)-1 by omega],by omega,rfl,HSh,HOw4,HR4,WG⟩
  simp[intOf];omega
 obtain rfl:k=0:=by omega
 go_wp2;go_ret;exact⟨⟨g,c,ts,rfl,by omega,HSh.out,HOw.out⟩,HR.out,HO.out⟩
def fP(rs:Q06)(t:Tp):Bool:=tQ (ag rs) t.a t.b t.r t.c t.d t.s
theorem x8{rs:Q06}{t:Tp}(h:aK (ag rs)=true)(ht:t.ok=true):yO (ag rs) t.a t.r ⟨t.c,t.s⟩=fP rs t:=by
 have hSP:=aW.1 h;have h1:yO (ag rs) t.a t.r ⟨t.c,t.s⟩=dK (aY (aB (ag rs) t.a t.r)) (aY (aB (ag rs) t.a t.r)).length ⟨t.c,t.s⟩:=Iu _ (Sm hSP _ _);have h2:cO t.a t.b t.r t.c t.d t.s=true:=ht;rw[h1];unfold fP tQ;rw[h2,Bool.and_true]
theorem Q5{p:Tp->Bool}{ts:Q05}{k:Nat}(h:k<ts.length):(ts.drop k).all p=(p ts[k]&&(ts.drop (k+1)).all p):=by rw[VG h];rfl
theorem rO(ad:Q02)(cap:Nat)(rs:Q06)(Wv:Q02)(cap':Nat)(ts:Q05)(w:af)(hlen:rs.length<=1048576)(hs:j5 w ad rs)(hl:∀r∈rs,r.light)(hfr:∀r∈rs,r.fits)(hlt:ts.length<=1048576)(hst:Sl w Wv ts)(hft:∀x∈ts,x.fits):
  Calls prog 55 #[.slice ad rs.length cap,.slice Wv ts.length cap'] w fun e w'=>e=.returned (.bool (aO (fP rs) rs ts))/\ae w w':=by
 have HS:=ai hs;have HL:=ai hl;have Yg:=ai hfr;have HST:=ai hst;have WE:=ai hft;have Xd:ts.length<=maxLen:=by unfold maxLen;omega
 clear hs hl hfr hst hft;go_enter func55,ntmps55;go_wp2_with fail;refine(kz ad cap rs _ hlen HS.out HL.out Yg.out).mono ?_;rintro e w1 ⟨he,hb1⟩;have HB1:=ai hb1;clear hb1;cases h1:aK (ag rs);case false=>
  rw[h1]at he;subst he;have HN:Hid (aO (fP rs) rs ts=false):=by show _=_;unfold aO;rw[h1];rfl
  clear h1;go_wp2;go_ret;exact⟨by rw[HN.out];rfl,HB1.out⟩
 rw[h1]at he;subst he;have H1:=ai h1;clear h1;go_wp2_with fail;refine(oD Wv cap' ts _ Xd (HST.out.below HB1.out) WE.out).mono ?_;rintro e w2 ⟨he,hb2⟩;have HB2:=ai (HB1.out.trans (hb2.mono HB1.out.size));clear hb2 HB1;cases h2:dI ts;case false=>
  rw[h2]at he;subst he;have HN:Hid (aO (fP rs) rs ts=false):=by show _=_;unfold aO;rw[h2,Bool.and_false];rfl
  clear h2;go_wp2;go_ret;exact⟨by rw[HN.out];rfl,HB2.out⟩
 rw[h2]at he;subst he;have HN:Hid (aO (fP rs) rs ts=ts.all (fP rs)):=by show _=_;unfold aO;rw[H1.out,h2];rfl
 clear h2 H1;go_wp2;go_loopw[5] (fun i wr=>∃k:Nat,k<=ts.length/\i=.int .i64 k/\Hid ((ts.drop k).all (fP rs)=ts.all (fP rs))/\Hid (ae w wr)) (fun i _=>ts.length-(intOf i).toNat);case atStart=>exact⟨0,Vf _,rfl,rfl,HB2⟩
 clear HB2;obtain⟨k,hk,rfl,HP,HB⟩:=hrel;by_cases hlt2:k<ts.length
 ·obtain⟨b,off,Wt,⟨t0,t1,t2,t3,t4,t5⟩,hb⟩:=Sl.at0 (HST.out.below HB.out) hlt2;have hk1:=bC k;have hk2:(k:Int)<(ts.length:Int):=by omega
  obtain⟨f0,f1,f2,f3,f4,f5⟩:=WE.out _ (U8 hlt2);have HD:Hid (ts.all (fP rs)=(fP rs ts[k]&&(ts.drop (k+1)).all (fP rs))):=by show _=_;rw[<-HP.out];exact Q5 hlt2
  obtain⟨x,hx⟩:∃x,x=ts[k]:=⟨_,rfl⟩;rw[<-hx]at t0 t1 t2 t3 t4 t5 f0 f1 f2 f3 f4 f5 HD;have Z9:=ai (Cc ad cap rs x.a x.b x.r x.c x.d x.s wr hlen (HS.out.below HB.out) HL.out f0 f1 f2 f3 f4 f5);subst Wt;clear hx;go_wp2_with fail;refine Z9.out.mono ?_;rintro e w3 ⟨he,hb3⟩;have HB3:=ai (HB.out.trans (hb3.mono HB.out.size));clear hb3 Z9 t0 t1 t2 t3 t4 t5;cases h5:tQ (ag rs) x.a x.b x.r x.c x.d x.s;case true=>
   rw[h5]at he;subst he;have WB:Hid ((ts.drop (k+1)).all (fP rs)=ts.all (fP rs)):=by show _=_;rw[HD.out];unfold fP at *;rw[h5];rfl
   clear h5;go_wp2;go_roundw;case rel=>exact⟨k+1,by omega,by go_num,WB,HB3⟩
   simp[intOf]<;>omega
  rw[h5]at he;subst he;have Yy:Hid (aO (fP rs) rs ts=false):=by show _=_;rw[HN.out,HD.out];unfold fP at *;rw[h5];rfl
  clear h5;go_wp2;go_ret;exact⟨by rw[Yy.out];rfl,HB3.out⟩
 have Yy:Hid (aO (fP rs) rs ts=true):=by show _=_;rw[HN.out,<-HP.out,Vt (by omega)];rfl
 go_wp2;go_ret;exact⟨by rw[Yy.out];rfl,HB.out⟩
set_option linter.unusedSectionVars false
theorem x9{xs:Q0a}{o x:Al}(h:x∈bz xs o):x∈xs\/x=o:=by
 unfold bz at h;split at h
 ·exact .inl h
 rcases Vn.1 h with h|h
 ·exact .inl h
 exact .inr (by simpa using h)
theorem II:∀(ts:Q05) (xs:Q0a) (o:Al),o∈ts.foldl fV xs->o∈xs \/ ∃t∈ts,o=⟨t.a,t.b⟩\/o=⟨t.c,t.d⟩
 | [],xs,o,h=>.inl h
 | t::ts,xs,o,h=>by
  rcases II ts (fV xs t) o h with h|⟨u,hu,h⟩
  ·unfold fV at h;rcases x9 h with h|h
   ·rcases x9 h with h|h
    ·exact .inl h
    exact .inr ⟨t,by simp,.inl h⟩
   exact .inr ⟨t,by simp,.inr h⟩
  exact .inr ⟨u,by simp[hu],h⟩
theorem IJ:∀(ts:Q05) (xs:Q0a) (o:Al),o∈ts.foldl df xs->o∈xs \/ ∃t∈ts,o=⟨t.a,t.b⟩\/o=⟨t.c,t.d⟩
 | [],xs,o,h=>.inl h
 | t::ts,xs,o,h=>by
  rcases IJ ts (df xs t) o h with h|⟨u,hu,h⟩
  ·unfold df at h;split at h
   ·rcases x9 h with h|h
    ·exact .inl h
    exact .inr ⟨t,by simp,.inr h⟩
   exact .inl h
  exact .inr ⟨u,by simp[hu],h⟩
theorem LD{ts:Q05}(hf:∀t∈ts,t.fits){o:Al}(h:∃t∈ts,o=⟨t.a,t.b⟩\/o=⟨t.c,t.d⟩):o.t.size<=maxLen/\o.s.size<=maxLen:=by
 obtain⟨t,ht,h⟩:=h;obtain⟨h0,h1,h2,h3,h4,h5⟩:=hf t ht;rcases h with rfl|rfl
 ·exact⟨h0,h1⟩
 exact⟨h3,h4⟩
theorem jo{ts:Q05}(hf:∀t∈ts,t.fits):∀o∈dN ts,o.t.size<=maxLen/\o.s.size<=maxLen:=fun o ho=>by
 rcases II ts [] o ho with h|h
 ·cases h
 exact LD hf h
theorem iL{ts:Q05}(hf:∀t∈ts,t.fits):∀o∈bQ ts,o.t.size<=maxLen/\o.s.size<=maxLen:=fun o ho=>by
 rcases IJ ts [] o ho with h|h
 ·cases h
 exact LD hf h
theorem xm:∀(E:List (KL×RR)) (m:Int),m<=E.foldl (fun m x=>max m (x.1.2+1)) m/\∀x∈E,x.1.2+1<=E.foldl (fun m x=>max m (x.1.2+1)) m
 | [],m=>⟨Int.le_refl _,fun x hx=>by cases hx⟩
 | y::E,m=>by
  obtain⟨h1,h2⟩:=xm E (max m (y.1.2+1));simp only[List.foldl_cons];refine⟨by omega,fun x hx=>?_⟩;rcases Vq.1 hx with rfl|hx
  ·omega
  exact h2 x hx
theorem F4:∀(E:List (KL×RR)) (m B:Int),m<=B->(∀x∈E,x.1.2+1<=B)->E.foldl (fun m x=>max m (x.1.2+1)) m<=B
 | [],m,B,h,_=>h
 | y::E,m,B,h,hx=>F4 E _ B (Int.max_le.2 ⟨h,hx y (by simp)⟩) fun x h2=>hx x (by simp[h2])
theorem LF{f:Q00}{rs:Q06}{k:Q01}(hk:k∈au (ag rs)):∃x∈dH f rs,x.1.2=f k:=by
 unfold au at hk;obtain⟨T,hT,hk⟩:=Vp.1 hk;obtain⟨t,ht,rfl⟩:=Vo.1 hT;unfold jN at hk;obtain⟨r,hr,rfl⟩:=Vo.1 hk;obtain⟨q,hq,rfl⟩:=Vo.1 hr;exact⟨((t.name,f (t.name,q.name)),q),Vp.2 ⟨t,ht,Vo.2 ⟨q,hq,rfl⟩⟩,rfl⟩
theorem Q6{f:Q00}{rs:Q06}{x:KL×RR}(hx:x∈dH f rs):∃k∈au (ag rs),x.1.2=f k/\∃t∈rs,∃q∈t.rows,k=(t.name,q.name):=by
 unfold dH at hx;obtain⟨t,ht,hx⟩:=Vp.1 hx;obtain⟨q,hq,rfl⟩:=Vo.1 hx;refine⟨(t.name,q.name),?_,rfl,t,ht,q,hq,rfl⟩;unfold au jN;exact Vp.2 ⟨t.p,Vo.2 ⟨t,ht,rfl⟩,Vo.2 ⟨q.p,Vo.2 ⟨q,hq,rfl⟩,rfl⟩⟩
theorem oP{rs:Q06}(hf:∀r∈rs,r.fits):∀k∈au (ag rs),k.2.size<=maxLen:=fun k hk=>by
 unfold au at hk;obtain⟨T,hT,hk⟩:=Vp.1 hk;obtain⟨t,ht,rfl⟩:=Vo.1 hT;unfold jN at hk;obtain⟨r,hr,rfl⟩:=Vo.1 hk;obtain⟨q,hq,rfl⟩:=Vo.1 hr;exact((hf t ht).2.2 q hq).1
theorem LG(f:Q00)(rs:Q06):(dH f rs).length=(au (ag rs)).length:=by
 induction rs with
 | nil=>rfl
 | cons t rs ih =>
  have e1:au (ag (t::rs))=jN t.p++au (ag rs):=by simp[au,ag]
  have e2:dH f (t::rs)=(t.rows.map fun r=>((t.name,f (t.name,r.name)),r))++dH f rs:=rfl;have e3:(jN t.p).length=t.rows.length:=by unfold jN;rw[VN];exact rQ _
  rw[e1,e2,Vh,Vh,ih,e3,VN]
theorem uM{w W w':af}{n:Nat}{x0 x1 x2 x3 x4:Value}(h:W.cell? ⟨n,0,none⟩=some x0/\W.cell? ⟨n,1,none⟩=some x1/\W.cell? ⟨n,2,none⟩=some x2/\W.cell? ⟨n,3,none⟩=some x3/\W.cell? ⟨n,4,none⟩=some x4/\ae w W)(hb:ae W w'):w'.cell? ⟨n,0,none⟩=some x0/\w'.cell? ⟨n,1,none⟩=some x1/\w'.cell? ⟨n,2,none⟩=some x2/\w'.cell? ⟨n,3,none⟩=some x3/\w'.cell? ⟨n,4,none⟩=some x4/\ae w w':=by
 obtain⟨h0,h1,h2,h3,h4,hB⟩:=h;exact⟨aI hb (aC h0) h0,aI hb (aC h1) h1,aI hb (aC h2) h2,aI hb (aC h3) h3,aI hb (aC h4) h4,hB.trans (hb.mono hB.size)⟩
section
variable  [DecidableEq Fc]
def aG(st:Q00)(rs:Q06)(ts:Q05):List Fc:=if aO (fP rs) rs ts then pY st rs ts else []
theorem fQ{st:Q00}{rs:Q06}{ts:Q05}(h:aO (fP rs) rs ts=true):aG st rs ts=pY st rs ts:=by unfold aG;rw[if_pos h]
theorem mh{st:Q00}{rs:Q06}{ts:Q05}(h:aO (fP rs) rs ts=false):aG st rs ts=[]:=by unfold aG;rw[if_neg (by rw[h];decide)]
theorem kE(st:Q00){rs:Q06}{ts:Q05}:(aG st rs ts).length<=115200:=by
 cases hr:aO (fP rs) rs ts;case false=>rw[mh hr];simp
 rw[fQ hr];have hsd:aK (ag rs)=true/\ts.length<=40:=by
  unfold aO dI at hr;simp only[Vd,Vk]at hr;exact⟨hr.1.1,hr.1.2.1⟩
 obtain⟨h6,Yr,-⟩:=bG (aW.1 hsd.1).1;exact(kZ st rs ts (dN ts) (bQ ts) _).len (by have:=kD ts;omega) (wR h6 Yr) (by have:=jm ts;omega)
end
section
variable  [DecidableEq Fc]
def IK(L0:Q04)(w:World)(e:Ending)(w':World):Prop:=(∃(L:Q04) (v:Value),e=.returned v/\L.Perm L0/\L.Pairwise (fun x y=>Op.bytesLess (SG y) (SG x)=false)/\w'.ownsRow w.heap.size 29 5 v L.length (av L))/\ae w w'
theorem CQ(st:Q00)(ad:Q02)(cap:Nat)(rs:Q06)(Wv:Q02)(cap':Nat)(ts:Q05)(w:af)(hlen:rs.length<=1048576)(hs:j5 w ad rs)(hl:∀r∈rs,r.light)(hfr:∀r∈rs,r.fits)(hcp:∀r∈rs,r.caps)(hlt:ts.length<=1048576)(hst:Sl w Wv ts)(hft:∀x∈ts,x.fits)(hle:aK (ag rs)=true->Least (ag rs) st):
  Calls prog 14 #[.slice ad rs.length cap,.slice Wv ts.length cap'] w (IK (aG st rs ts) w):=by
 have HC:=ai (BR (fP rs) ad cap rs Wv cap' ts w hlen hs hl hfr (wZ ad cap rs w hlen hs hl hfr hcp) (fun h t ht=>x8 h ht) hlt hst hft);have HS:=ai hs;have WE:=ai hft;have Yg:=ai hfr;have Xl:=ai hle;clear hs hl hfr hcp hst hft hle;go_enter func14,ntmps14;go_wp2_with fail;refine HC.out.mono ?_;rintro e w1 ⟨hb1,⟨hr,rfl⟩|⟨hr,D,br,bp,bt,nr,np,Mr,Mp,vo,vu,f,rfl,hbt,YP,XY⟩⟩
 ·have HP:Hid (IK (aG st rs ts) w (.returned (.slice none 0 0)) w1):=⟨⟨[],_,rfl,by rw[mh hr],List.Pairwise.nil,World.ownsRow_nil _ _ _ _⟩,hb1⟩;clear hb1 HC hr;go_wp2;go_ret;exact HP.out
 have hsd:aK (ag rs)=true/\ts.length<=40:=by
  unfold aO dI at hr;simp only[Vd,Vk]at hr;exact⟨hr.1.1,hr.1.2.1⟩
 obtain⟨hsd,ht40⟩:=hsd;have hSP:=aW.1 hsd;obtain⟨h6,Yr,-⟩:=bG hSP.1;have YO:=wR h6 Yr;have hfk:∀k∈au (ag rs),f k+1<=(au (ag rs)).length:=fun k hk=>by
  obtain⟨g,hg,hb⟩:=YP.sol.few (jO hSP.2.1);have h1:=YP.low k hk g hg;have h2:=hb k hk;omega
 have hc0:0<=gV (dH f rs):=(xm (dH f rs) 0).1;have hcl:gV (dH f rs)<=(au (ag rs)).length:=F4 _ _ _ (by omega) fun x hx=>by
  obtain⟨k,hk,e,-⟩:=Q6 hx;rw[e];exact hfk k hk
 obtain⟨N,hN⟩:∃N:Nat,gV (dH f rs)=N:=⟨(gV (dH f rs)).toNat,by omega⟩;have hkN:∀k∈au (ag rs),f k<(N:Int):=fun k hk=>by
  obtain⟨x,hx,e⟩:=LF (f:=f) hk;have h2:=(xm (dH f rs) 0).2 x hx;have h3:x.1.2+1<=gV (dH f rs):=h2;rw[e,hN]at h3;omega
 have hLs:lY (ag rs) ts f (dN ts) (bQ ts) N=aG st rs ts:=by
  rw[fQ hr];unfold pY;rw[<-sI (fun k hk=>YP.same (Xl.out hsd) k hk)];exact(Dx hkN _ (by omega)).symm
 rw [hN]at XY;have Xx:=ai (Ey w1 rs ad D br bp bt N nr Mr f ts (dN ts) (bQ ts) np Mp vo vu XY (HS.out.below hb1) (by omega) (by have:=kD ts;omega) (by have:=jm ts;omega) YO (fun k=>by
  have:(G.lookL (dH f rs) k).length<=(dH f rs).length:=Wi _ _;rw[LG]at this;omega) hSP.1 WE.out (by omega) (jo WE.out) (iL WE.out) (oP Yg.out))
 rw[hLs]at Xx;have hGO:=kZ f rs ts (dN ts) (bQ ts) N;rw[hLs]at hGO;have HB1:=ai hb1;have hll:=hGO.len (by have:=kD ts;omega) YO (by have:=jm ts;omega);have HFF:Hid (∀x∈aG st rs ts,x.fits):=fun x hx=>by
  have h1:=hGO.sub x hx;unfold BU at h1;obtain⟨o,ho,h1⟩:=Vp.1 h1;obtain⟨k,hk,h1⟩:=Vp.1 h1;obtain⟨u,hu,rfl⟩:=Vo.1 h1;exact⟨(jo WE.out o ho).1,(jo WE.out o ho).2,oP Yg.out k hk,(iL WE.out u hu).1,(iL WE.out u hu).2⟩
 obtain⟨L0,hL0⟩:∃L0,L0=aG st rs ts:=⟨_,rfl⟩;rw[<-hL0]at Xx hll HFF;have HL0:=ai hL0;clear HC hb1 XY YP hfk hc0 hcl hN hkN hLs hGO hSP hsd h6 Yr YO hr hbt hL0;go_wp2_with fail;refine Xx.out.mono ?_;rintro e w2 ⟨⟨v,rfl,hown⟩,hb2⟩;have HB2:=ai (HB1.out.trans (hb2.mono HB1.out.size));have Wu:=ai (dJ hown HB1.out.size);clear Xx hown hb2 HB1;cases L0 with
 | nil =>
  obtain⟨Xq,WC,rfl,-⟩:=gI Wu.out;have HSN:=ai (NS Xq WC (.func (.func 61) #[] #[]) w2);have HP:Hid (IK [] w (.returned (.slice Xq 0 WC)) w2):=⟨⟨[],_,rfl,List.Perm.refl _,List.Pairwise.nil,Wu.out⟩,HB2.out⟩;clear Wu HB2;go_wp2_with fail;refine HSN.out.mono ?_;rintro e w3 ⟨rfl,rfl⟩;go_wp2;go_ret;rw[<-HL0.out];exact HP.out
 | cons x0 xs0 =>
  obtain⟨L1,hL1⟩:∃L1,L1=x0::xs0:=⟨_,rfl⟩;obtain⟨g,WC,rfl⟩:=ownsRow_succ (k:=xs0.length) Wu.out;have hgl:=(Wu.out.lt g rfl).1;have HSF:=ai (NR w.heap.size g WC (x0::xs0) w2 HFF.out Wu.out (by simp) (by omega));rw[<-hL1]at HSF;have hlL:xs0.length+1=L1.length:=by rw[hL1];rfl
  rw[<-hL1]at HL0;rw[hlL];clear Wu HFF hll hL1 hlL;go_wp2_with fail;refine HSF.out.mono ?_;rintro e w3 ⟨rfl,ys,hp,hso,hrow,hcg⟩;have HP:Hid (IK L1 w (.returned (.slice (some ⟨g,0,none⟩) L1.length WC)) w3):=⟨⟨ys,_,rfl,hp,hso,by rw[hp.length_eq];exact hrow⟩,HB2.out.trans (hcg.below (fun k hk=>by rw[hk];exact hgl) HB2.out.size)⟩;clear hp hso hrow hcg HB2 HSF;go_wp2;go_ret;rw[<-HL0.out];exact HP.out
end
section
variable  [DecidableEq Fc]
theorem KP{st:Q00}{rs:Q06}{ts:Q05}{x:Fc}(hx:x∈aG st rs ts):∃o∈dN ts,∃k∈au (ag rs),∃u∈bQ ts,x=⟨o.t,o.s,k.2,u.t,u.s⟩:=by
 cases hr:aO (fP rs) rs ts;case false=>rw[mh hr]at hx;cases hx
 rw[fQ hr]at hx;have h1:=(kZ st rs ts (dN ts) (bQ ts) _).sub x hx;unfold BU at h1;obtain⟨o,ho,h1⟩:=Vp.1 h1;obtain⟨k,hk,h1⟩:=Vp.1 h1;unfold jl at h1;obtain⟨u,hu,rfl⟩:=Vo.1 h1;exact⟨o,ho,k,hk,u,hu,rfl⟩
theorem yR{st:Q00}{rs:Q06}{ts:Q05}(hfr:∀r∈rs,r.fits)(hft:∀x∈ts,x.fits):∀x∈aG st rs ts,x.fits:=fun x hx=>by
 obtain⟨o,ho,k,hk,u,hu,rfl⟩:=KP hx;have h1:=jo hft o ho;have h2:=iL hft u hu;exact⟨h1.1,h1.2,oP hfr k hk,h2.1,h2.2⟩
def kF(st:Q00)(rs:Q06)(ts:Q05):List Fc:=nH sW (aG st rs ts)
theorem KQ(st:Q00)(rs:Q06)(ts:Q05):(kF st rs ts).length=(aG st rs ts).length:=(mP _).length_eq
end
section
variable  [DecidableEq Fc]
theorem CR(st:Q00)(ad:Q02)(cap:Nat)(rs:Q06)(Wv:Q02)(cap':Nat)(ts:Q05)(f:Fc)(w:af)(hlen:rs.length<=1048576)(hs:j5 w ad rs)(hl:∀r∈rs,r.light)(hfr:∀r∈rs,r.fits)(hlt:ts.length<=1048576)(hst:Sl w Wv ts)(hft:∀x∈ts,x.fits)(hle:aK (ag rs)=true->Least (ag rs) st):
  Calls prog 13 #[.slice ad rs.length cap,.slice Wv ts.length cap',.agg #[.string f.a,.string f.b,.string f.r,.string f.c,.string f.d]] w fun e w'=>e=.returned (.bool (bB (aG st rs ts) f))/\ae w w':=by
 obtain⟨W0,hW0⟩:∃W0,W0=w.alloc (.cells #[.string f.a,.string f.b,.string f.r,.string f.c,.string f.d] 29):=⟨_,rfl⟩;have HB0:=mi hW0;have hbx:sV W0 w.heap.size f:=by rw[hW0];exact World.alloc_heap_new w _
 have WT:=ai hbx;have Y4:=kE st (rs:=rs) (ts:=ts);have HRC:Hid (∀W':World,ae W0 W'->Calls prog 55 #[.slice ad rs.length cap,.slice Wv ts.length cap'] W' fun e w'=>e=.returned (.bool (aO (fP rs) rs ts))/\ae W' w'):=fun W' h=>by
  have hb:=HB0.out.trans (h.mono HB0.out.size);exact rO ad cap rs Wv cap' ts W' hlen (hs.below hb) hl hfr hlt (hst.below hb) hft
 have Zv:Hid (aO (fP rs) rs ts=true->∀W':World,ae W0 W'->Calls prog 57 #[.slice ad rs.length cap,.slice Wv ts.length cap'] W' fun e w'=>(∃v,e=.returned v/\w'.ownsRow W'.heap.size 29 5 v (aG st rs ts).length (av (aG st rs ts)))/\ae W' w'):=fun hr W' h=>by
  have hb:=HB0.out.trans (h.mono HB0.out.size);have hsd:aK (ag rs)=true/\ts.length<=40:=by
   unfold aO dI at hr;simp only[Vd,Vk]at hr;exact⟨hr.1.1,hr.1.2.1⟩
  have:=sK st ad cap rs Wv cap' ts W' (aW.1 hsd.1) (hle hsd.1) (hs.below hb) hl hsd.2 (hst.below hb);rw[<-fQ hr]at this;exact this
 clear hs hl hfr hst hft hle hbx;go_enter func13,ntmps13;go_wp2_with fail;rw[<-hW0];clear hW0;cases hr:aO (fP rs) rs ts;case true=>
  have HA:=ai (Zv.out hr);rw[hr]at HRC;obtain⟨c0,c1,c2,c3,c4,cl⟩:=WT.out.c;obtain⟨L,X7⟩:∃L,L=aG st rs ts:=⟨_,rfl⟩;rw[<-X7]at HA Y4;have Xl:=ai X7;clear Zv hr X7
  go_region_held3 (fun w'=>w'.cell? ⟨w.heap.size,0,none⟩=some (.string f.a)/\w'.cell? ⟨w.heap.size,1,none⟩=some (.string f.b)/\w'.cell? ⟨w.heap.size,2,none⟩=some (.string f.r)/\w'.cell? ⟨w.heap.size,3,none⟩=some (.string f.c)/\w'.cell? ⟨w.heap.size,4,none⟩=some (.string f.d)/\ae W0 w')
   (first|assumption|exact uM (by assumption) hbx|exact⟨c0,c1,c2,c3,c4,(Vb _ _).drew⟩)
   (first|(go_at_call 55;refine(HRC.out _ (And.right (And.right (And.right (And.right (And.right (by assumption))))))).mono ?_;rintro e w' ⟨rfl,hbx⟩)|(go_at_call 57;refine(HA.out _ (And.right (And.right (And.right (And.right (And.right (by assumption))))))).mono ?_;rintro e w' ⟨⟨v,rfl,hown⟩,hbx⟩;obtain⟨WY,Wz,rfl,hsl⟩:=gI hown)|(go_at_call 56;refine(oz WY Wz L f _ (by omega) (by first|exact hsl|exact hsl.below (Vb _ _))).mono ?_;rintro e w'' ⟨rfl,hbx⟩))
  rename_i hJ;have HG:=ai (HB0.out.trans (hJ.2.2.2.2.2.mono HB0.out.size));clear hJ hown hsl c0 c1 c2 c3 c4 HB0;go_wp2;go_ret;exact⟨by rw[Xl.out];rfl,HG.out⟩
 rw[hr]at HRC;have HN:Hid (bB (aG st rs ts) f=false):=by show _=_;rw[mh hr];rfl
 clear Zv hr;refine mo 10 (fun n=>(undef::undef::undef::undef::undef::undef::undef::undef::undef::undef::[]).getD n undef) (fun fq=>{ tmps:=List.toArray (Value.slice ad rs.length cap::.slice Wv ts.length cap'::.agg #[.string f.a,.string f.b,.string f.r,.string f.c,.string f.d]::undef::undef::.pointer (some ⟨w.heap.size,0,none⟩)::.bool false::fq 0::fq 1::fq 2::fq 3::fq 4::fq 5::fq 6::fq 7::fq 8::fq 9::[]),defers:=[] }) (fun n v _=>v=(Value.slice ad rs.length cap::.slice Wv ts.length cap'::.bool false::.bool false::undef::undef::undef::undef::undef::.bool false::[]).getD n undef) (fun w'=>ae W0 w') (by kernel_rfl) rfl (by kernel_rfl) (by kernel_rfl) rfl (Vb _ _).drew ?dV ?finF;case dV =>
  rintro i hi o ho fq w' hG hpre;have HG:Hid (ae W0 w'):=hG;have HM:Hid (∀e∈o.after,Region.binds .any e=true->_):=hpre;clear hG hpre;have hc:=uQ (i:=i) (by omega);clear hi
  repeat' rcases hc with rfl|hc
  iterate 2
   ·cases ho;have hm:=HM.out
    try simp[Region.binds]at hm
    clear HM;refine wpOp_step rfl (fun K hK=>?_);have HK:Hid (∀a w,_->K a w):=hK;clear hK;go_simp;exact HK.out _ _ ⟨_,by simp[upd, *],HG.out,rfl,fun k u hu=>hu⟩
  ·cases ho;have e0:fq 0=.slice ad rs.length cap:=HM.out ⟨0,.data⟩ (by simp) rfl;have e1:fq 1=.slice Wv ts.length cap':=HM.out ⟨1,.data⟩ (by simp) rfl;clear HM;refine wpOp_step rfl (fun K hK=>?_);have HK:Hid (∀a w,_->K a w):=hK;clear hK;simp only[e0,e1];go_simp;refine(HRC.out _ HG.out).mono ?_;rintro e w9 ⟨rfl,hb9⟩;have HG9:=jF HG hb9;clear hb9;go_wp2_with fail;exact HK.out _ _ ⟨Value.bool false,by simp[upd,e0,e1],HG9.out,rfl,fun k u hu=>hu⟩
  iterate 7
   ·cases ho;have hm:=HM.out
    try simp[Region.binds]at hm
    clear HM;refine wpOp_step rfl (fun K hK=>?_);have HK:Hid (∀a w,_->K a w):=hK;clear hK
    try simp only[hm]
    go_simp;exact HK.out _ _ ⟨_,by simp[upd, *],HG.out,rfl,fun k u hu=>hu⟩
 case finF =>
  rintro o ho fq w' hG hall;have e9:fq 9=.bool false:=hall 9 (by omega);have HG:Hid (ae W0 w'):=hG;clear hG hall;cases ho;refine wpOp_step rfl (fun K hK=>?_);have HK:Hid (∀a w,_->K a w):=hK;clear hK;simp only[e9];go_simp;refine HK.out _ _ ?_;clear HK;go_wp2;go_ret;exact⟨by rw[HN.out];rfl,HB0.out.trans (HG.out.mono HB0.out.size)⟩
end
theorem ED(x y:Fc):vP x y=vP y x:=by rw[Vu,ow,ow];exact⟨Eq.symm,Eq.symm⟩
theorem NV{x y:Q04}(h:x.Perm y)(f:Fc):bB x f=bB y f:=by rw[Vu,bP,bP];exact h.mem_iff
theorem IL(ad:Q02)(cap:Nat)(ts:Q04)(t:Fc)(w:af)(hlen:ts.length<=1048576)(hs:kw w ad ts):
  Calls prog 76 #[.slice ad ts.length cap,.agg #[.string t.a,.string t.b,.string t.r,.string t.c,.string t.d]] w fun e w'=>(∃r:Int,e=.returned (.int .i64 r)/\decide (0<=r)=bB ts t)/\ae w w':=by
 have HS:=ai hs;clear hs;obtain⟨W0,hW0⟩:∃W0,W0=w.alloc (.cells #[.string t.a,.string t.b,.string t.r,.string t.c,.string t.d] 29):=⟨_,rfl⟩;have HB0:=mi hW0;have HX0:Hid (sV W0 w.heap.size t):=by show sV _ _ _;rw[hW0];exact World.alloc_heap_new w _
 go_enter func76,ntmps76;go_wp2_with fail;rw[<-hW0];clear hW0;go_loopw[8] (fun i wr=>∃k:Nat,k<=ts.length/\i=.int .i64 k/\Hid (bB (ts.drop k) t=bB ts t)/\Hid (ae W0 wr)) (fun i _=>ts.length-(intOf i).toNat);case atStart=>exact⟨0,Vf _,rfl,rfl,Vb _ _⟩
 obtain⟨k,hk,rfl,HP,HB⟩:=hrel;have Wx:Hid (ae w wr):=HB0.out.trans (HB.out.mono HB0.out.size);by_cases hlt:k<ts.length
 ·obtain⟨b,off,Wt,⟨t0,t1,t2,t3,t4⟩,hb⟩:=kw.at0 (HS.out.below Wx.out) hlt;obtain⟨x0,x1,x2,x3,x4,xl⟩:=(HX0.out.bel HB.out).c;have hk1:=bC k;have hk2:(k:Int)<(ts.length:Int):=by omega
  have HD:Hid (bB ts t=(vP ts[k] t || bB (ts.drop (k+1)) t)):=by show _=_;rw[<-HP.out];exact DC hlt
  subst Wt;cases hq:vP ts[k] t;case true=>
   have heq:=xJ t ts[k] (v:=true) (by rw[ED];exact hq);have HN:Hid (bB ts t=true):=by show _=_;rw[HD.out,hq];rfl
   clear hq;go_wp2_with fail;go_quiet (fail);clear t0 t1 t2 t3 t4 x0 x1 x2 x3 x4 heq;go_wp2;go_ret;exact⟨⟨k,rfl,by rw[HN.out];simp⟩,below_drewN Wx.out _⟩
  have heq:=xJ t ts[k] (v:=false) (by rw[ED];exact hq);have WB:Hid (bB (ts.drop (k+1)) t=bB ts t):=by show _=_;rw[HD.out,hq];rfl
  clear hq;go_wp2_with fail;go_quiet (fail);clear t0 t1 t2 t3 t4 x0 x1 x2 x3 x4 heq;go_wp2;go_roundw;case rel=>exact⟨k+1,by omega,by go_num,WB,below_drewN HB.out _⟩
  simp[intOf]<;>omega
 have HN:Hid (bB ts t=false):=by show _=_;rw[<-HP.out,Vt (by omega)];rfl
 go_wp2;go_ret;exact⟨⟨-1,rfl,by rw[HN.out];simp⟩,Wx.out⟩
theorem Cn(ad:Q02)(cap:Nat)(ts:Q04)(t:Fc)(w:af)(hlen:ts.length<=1048576)(hs:kw w ad ts):
  Calls prog 51 #[.slice ad ts.length cap,.agg #[.string t.a,.string t.b,.string t.r,.string t.c,.string t.d]] w fun e w'=>e=.returned (.bool (bB ts t))/\ae w w':=by
 obtain⟨W0,hW0⟩:∃W0,W0=w.alloc (.cells #[.string t.a,.string t.b,.string t.r,.string t.c,.string t.d] 29):=⟨_,rfl⟩;have HB0:=mi hW0;have HC:=ai (IL ad cap ts t W0 hlen (hs.below HB0.out));clear hs;go_enter func51,ntmps51;go_wp2_with fail;rw[<-hW0];clear hW0;refine HC.out.mono ?_;rintro e w' ⟨⟨r,rfl,hr⟩,hbx⟩;have HR:=ai hr;have WT:=ai (HB0.out.trans (hbx.mono HB0.out.size));clear hr hbx;go_wp2;go_ret;exact⟨by rw[<-HR.out];rfl,WT.out⟩
section
variable  [DecidableEq Fc]
theorem CS(st:Q00)(ad:Q02)(cap:Nat)(rs:Q06)(Wv:Q02)(cap':Nat)(ts:Q05)(f:Fc)(w:af)(hlen:rs.length<=1048576)(hs:j5 w ad rs)(hl:∀r∈rs,r.light)(hfr:∀r∈rs,r.fits)(hcp:∀r∈rs,r.caps)(hlt:ts.length<=1048576)(hst:Sl w Wv ts)(hft:∀x∈ts,x.fits)(hle:aK (ag rs)=true->Least (ag rs) st):
  Calls prog 11 #[.slice ad rs.length cap,.slice Wv ts.length cap',.agg #[.string f.a,.string f.b,.string f.r,.string f.c,.string f.d]] w fun e w'=>e=.returned (.bool (bB (aG st rs ts) f))/\ae w w':=by
 obtain⟨W0,hW0⟩:∃W0,W0=w.alloc (.cells #[.string f.a,.string f.b,.string f.r,.string f.c,.string f.d] 29):=⟨_,rfl⟩;have HB0:ae w W0:=by rw[hW0];exact(Vb _ _).alloc (Va _) _
 have hbx:sV W0 w.heap.size f:=by rw[hW0];exact World.alloc_heap_new w _
 obtain⟨c0,c1,c2,c3,c4,cl⟩:=hbx.c;have XQ:Hid (∀W':World,(W'.cell? ⟨w.heap.size,0,none⟩=some (.string f.a)/\W'.cell? ⟨w.heap.size,1,none⟩=some (.string f.b)/\W'.cell? ⟨w.heap.size,2,none⟩=some (.string f.r)/\W'.cell? ⟨w.heap.size,3,none⟩=some (.string f.c)/\W'.cell? ⟨w.heap.size,4,none⟩=some (.string f.d)/\ae w W')->Calls prog 14 #[.slice ad rs.length cap,.slice Wv ts.length cap'] W' (IK (aG st rs ts) W')):=fun W' h=>CQ st ad cap rs Wv cap' ts W' hlen (hs.below h.2.2.2.2.2) hl hfr hcp hlt (hst.below h.2.2.2.2.2) hft hle;have Y4:=kE st (rs:=rs) (ts:=ts);clear hs hl hfr hcp hst hft hle hbx;go_enter func11,ntmps11;go_wp2_with fail;rw[<-hW0];clear hW0
 go_region_held3 (fun w'=>w'.cell? ⟨w.heap.size,0,none⟩=some (.string f.a)/\w'.cell? ⟨w.heap.size,1,none⟩=some (.string f.b)/\w'.cell? ⟨w.heap.size,2,none⟩=some (.string f.r)/\w'.cell? ⟨w.heap.size,3,none⟩=some (.string f.c)/\w'.cell? ⟨w.heap.size,4,none⟩=some (.string f.d)/\ae w w')
  (first|assumption|exact uM (by assumption) hbx|exact⟨c0,c1,c2,c3,c4,HB0.drew⟩)
  (first|(go_at_call 14;refine(XQ.out _ (by assumption)).mono ?_;rintro e w' ⟨⟨L,v,rfl,hp,-,hown⟩,hbx⟩;obtain⟨WY,Wz,rfl,hsl⟩:=gI hown;have HLL:Hid (L.length<=1048576):=(by show _<=_;rw[hp.length_eq];exact Vj Y4 (by decide)))|(go_at_call 51;refine(Cn WY Wz L f _ HLL.out (by first|exact hsl|exact hsl.below (Vb _ _))).mono ?_;rintro e w'' ⟨rfl,hbx⟩))
 rename_i hJ;have HG:=ai hJ.2.2.2.2.2;have HE:=ai (NV hp f);clear hJ hown hsl hp c0 c1 c2 c3 c4;go_wp2;go_ret;exact⟨by rw[HE.out];rfl,HG.out⟩
end
section
variable  [DecidableEq Fc]
theorem CU(st:Q00)(ad:Q02)(cap:Nat)(rs:Q06)(Wv:Q02)(cap':Nat)(ts:Q05)(w:af)(hlen:rs.length<=1048576)(hs:j5 w ad rs)(hl:∀r∈rs,r.light)(hfr:∀r∈rs,r.fits)(hlt:ts.length<=1048576)(hst:Sl w Wv ts)(hft:∀x∈ts,x.fits)(hle:aK (ag rs)=true->Least (ag rs) st):
  Calls prog 47 #[.slice ad rs.length cap,.slice Wv ts.length cap'] w fun e w'=>(∃v,e=.returned v/\w'.ownsRow w.heap.size 29 5 v (kF st rs ts).length (av (kF st rs ts)))/\ae w w':=by
 have Y4:=kE st (rs:=rs) (ts:=ts);have HFQ:=ai (yR (st:=st) hfr hft);have HRC:=ai (rO ad cap rs Wv cap' ts w hlen hs hl hfr hlt hst hft);have Zv:Hid (aO (fP rs) rs ts=true->∀W':World,ae w W'->Calls prog 57 #[.slice ad rs.length cap,.slice Wv ts.length cap'] W' fun e w'=>(∃v,e=.returned v/\w'.ownsRow W'.heap.size 29 5 v (aG st rs ts).length (av (aG st rs ts)))/\ae W' w'):=fun hr W' hb=>by
  have hsd:aK (ag rs)=true/\ts.length<=40:=by
   unfold aO dI at hr;simp only[Vd,Vk]at hr;exact⟨hr.1.1,hr.1.2.1⟩
  have:=sK st ad cap rs Wv cap' ts W' (aW.1 hsd.1) (hle hsd.1) (hs.below hb) hl hsd.2 (hst.below hb);rw[<-fQ hr]at this;exact this
 clear hs hl hfr hst hft hle;go_enter func47,ntmps47;go_wp2_with fail;refine HRC.out.mono ?_;rintro e w1 ⟨rfl,hb1⟩;have HB1:=ai hb1;clear hb1 HRC;cases hr:aO (fP rs) rs ts;case false=>
  have HN:Hid (kF st rs ts=[]):=by show _=_;unfold kF;rw[mh hr];rfl
  clear hr Zv;obtain⟨W2,hW2⟩:∃W2,W2=w1.alloc (.cells #[] 29):=⟨_,rfl⟩;have Wu:Hid (W2.ownsRow w.heap.size 29 5 (.slice (some ⟨w1.heap.size,0,none⟩) 0 0) 0 []):=by
   show World.ownsRow _ _ _ _ _ _ _;rw[hW2];exact World.ownsRow_lit w1 #[] 0 HB1.out.size (by unfold maxLen;omega) (by simp)
  have HB2:Hid (ae w W2):=by show Below _ _ _;rw[hW2];exact HB1.out.alloc HB1.out.size _
  go_wp2;rw[<-hW2];go_ret;exact⟨⟨_,rfl,by rw[HN.out];exact Wu.out⟩,HB2.out⟩
 have HA:=ai (Zv.out hr);clear Zv hr;obtain⟨L,hL⟩:∃L,aG st rs ts=L:=⟨_,rfl⟩;have YQ:Hid (kF st rs ts=nH sW L):=by show _=_;unfold kF;rw[hL]
 rw[hL]at HA HFQ Y4;clear hL;go_wp2_with fail;refine(HA.out _ HB1.out).mono ?_;rintro e w2 ⟨⟨v,rfl,hown⟩,hb2⟩;obtain⟨WY,Wz,rfl,hsl⟩:=gI hown;have HSF:=ai hsl;have HB2:=jF HB1 hb2;clear hown hsl hb2 HB1 HA;have HLL:Hid (L.length<=1048576):=Vj Y4 (by decide);clear Y4;go_wp2_with fail;refine(KO WY Wz L _ HLL.out HSF.out HFQ.out).mono ?_;rintro e w3 ⟨⟨v,rfl,hown⟩,hb3⟩;have HB3:=jF HB2 hb3;have WO:Hid (w3.ownsRow w.heap.size 29 5 v (kF st rs ts).length (av (kF st rs ts))):=by
  show World.ownsRow _ _ _ _ _ _ _;rw[YQ.out,(mP L).length_eq];exact mg hown HB2.out.size
 clear hown hb3;go_wp2;go_ret;exact⟨⟨v,rfl,WO.out⟩,HB3.out⟩
end
section
variable  [DecidableEq Fc]
end
def okB(f:Fc):Bool:=cO f.a f.b f.r f.c f.d ⟨#[]⟩
theorem IM(f:Fc)(w:af):
  Calls prog 107 #[.agg #[.string f.a,.string f.b,.string f.r,.string f.c,.string f.d]] w fun e w'=>e=.returned (.agg #[.string f.a,.string f.b,.string f.r,.string f.c,.string f.d,.string ⟨#[]⟩])/\ae w w':=by
 go_enter func107,ntmps107;go_wp2;exact bodyPost_ret (v:=.agg #[.string f.a,.string f.b,.string f.r,.string f.c,.string f.d,.string ⟨#[]⟩]) (by simp[results,Tryz.results107,go_sem, *]) rfl ⟨rfl,by
  repeat(first|exact Vb _ _|refine Below.setCell ?_ (by first|(simp;done)|(simp;omega)) _|refine Below.alloc ?_ (by first|(simp;done)|(simp;omega)) _)⟩
theorem KS(f:Fc)(w:af)(hf:f.fits):
  Calls prog 63 #[.agg #[.string f.a,.string f.b,.string f.r,.string f.c,.string f.d]] w fun e w'=>e=.returned (.bool (okB f))/\ae w w':=by
 obtain⟨W0,hW0⟩:∃W0,W0=w.alloc (.cells #[.string f.a,.string f.b,.string f.r,.string f.c,.string f.d] 29):=⟨_,rfl⟩;have HB0:=mi hW0;have HC:=ai (IM f W0);have HF:=ai hf;clear hf;go_enter func63,ntmps63;go_wp2_with fail;rw[<-hW0];clear hW0;refine HC.out.mono ?_;rintro e w1 ⟨rfl,hb1⟩;have HB1:=ai (HB0.out.trans (hb1.mono HB0.out.size));clear hb1;go_wp2_with fail;refine(fF f.a f.b f.r f.c f.d ⟨#[]⟩ _ HF.out.1 HF.out.2.1 HF.out.2.2.1 HF.out.2.2.2.1 HF.out.2.2.2.2 (by decide)).mono ?_;rintro e w2 ⟨rfl,hb2⟩;have HB2:=ai (HB1.out.trans (hb2.mono HB1.out.size));clear hb2;go_wp2;go_ret;exact⟨rfl,HB2.out⟩
def EE(rs:Q06)(ts:Q05)(out:Q04)(f:Fc):Ru:=gN ts (aB (ag rs) f.a f.r) out f (aB (ag rs) f.a f.r).length ((aB (ag rs) f.a f.r).length-1)
section
variable  {rs:Q06}{P D br bp bt bK nK:Nat}{n1:Int}{nr:Nat}{Mr:KL->Option Value}{Er:List (KL×RR)}{ts:Q05}{xo xu:Q0a}{np:Nat}{Mp:K3->Option Value}{vo vu:Value}{out:Q04}{f:Fc}{Xq:Q02}{WC:Nat}
theorem KT{w:af}{ad:Q02}(hP:PrM w P D Xq WC out bK nK)(hD:DatA w rs D br bp bt n1 nr Mr Er (bn ts) xo xu np Mp vo vu)(hf:f.fits)(hts:∀t∈ts,t.fits)(htl:ts.length<=40)(hsh:bq (ag rs)=true)(hs:j5 w ad rs):
  Calls prog 64 #[.pointer (some ⟨P,0,none⟩),.agg #[.string f.a,.string f.b,.string f.r,.string f.c,.string f.d]] w fun e w'=>(∃v n,e=.returned v/\aP w' (jT w.heap.size) n v (EE rs ts out f)/\n<=8)/\ae w w':=by
 obtain⟨kl,hkl⟩:=jL (f.a,f.r) hf.1 hf.2.2.1;obtain⟨W0,hW0⟩:∃W0,W0=w.alloc (.cells #[.string f.a,.string f.b,.string f.r,.string f.c,.string f.d] 29):=⟨_,rfl⟩;have HB0:=mi hW0;have c0:W0.cell? ⟨w.heap.size,0,none⟩=some (.string f.a):=by rw[hW0];simp
 have c1:W0.cell? ⟨w.heap.size,1,none⟩=some (.string f.b):=by rw[hW0];simp
 have c2:W0.cell? ⟨w.heap.size,2,none⟩=some (.string f.r):=by rw[hW0];simp
 have c3:W0.cell? ⟨w.heap.size,3,none⟩=some (.string f.c):=by rw[hW0];simp
 have c4:W0.cell? ⟨w.heap.size,4,none⟩=some (.string f.d):=by rw[hW0];simp
 have d0:=HB0.out.cell (p:=⟨D,0,none⟩) hD.dat.lt |>.trans hD.dat.c0;have p0:=aI HB0.out hP.lt hP.c0;have hlk0:∀m,(Instr.lookup 91 (.map (some bt)) (.agg #[.string f.a,.string f.r]) true).run prog (W0.drewN m)=.ok (.tuple #[(pJ rs (f.a,f.r)).getD (.slice none 0 0),.bool (pJ rs (f.a,f.r)).isSome]) (W0.drewN m):=fun m =>
  ((hD.tab.below HB0.out).below (below_drewN (Vb _ _) m)).look_ok (t:=91) (e:=33) iW underlying91 (oF _) (x:=(f.a,f.r)) hkl
 cases htab:pJ rs (f.a,f.r) with
 | none =>
  have hrel:eD (ag rs) f.a f.r=none:=(pK hsh).no _ htab;have HG:Hid (EE rs ts out f=fun _=>false):=by show _=_;unfold EE aB;rw[hrel];rfl
  have hlk:=hlk0;rw[htab]at hlk;simp only[Option.getD_none,Option.isSome_none]at hlk;clear hlk0 hD hP hs hkl htab hrel hf;go_enter func64,ntmps64;go_wp2_with fail;rw[<-hW0];clear hW0;go_quiet (fail);clear d0 p0 hlk c0 c1 c2 c3 c4;go_wp2;go_ret;exact⟨⟨_,1,rfl,pX false HG.out,by omega⟩,below_drewN HB0.out _⟩
 | some v0 =>
  obtain⟨t,htm,q,hq,-,hv0,hrelp,-⟩:=(pK hsh).yes _ v0 htab;have hsp:aN (ak q.rows)=true:=((bG hsh).2.2 t htm q hq).1;have hrx:ak q.rows=aB (ag rs) f.a f.r:=by unfold aB;rw[show eD (ag rs) f.a f.r=some (ak q.rows) from hrelp];rfl
  obtain⟨hN,hr1⟩:=zC hsp;have hnb:=iK hsp;have htr:=Mv hsp;have hr15:q.rows.length<=15:=by
   have h:=hsp;unfold aN at h;simp only[Vd,Vk]at h;have:=h.1.1.1.1.2;rw[aR]at this;exact this
  have Yg:nY rs q.ad q.rows:=.inr ⟨t,htm,q,hq,rfl,rfl⟩;obtain⟨Ws,YL⟩:∃a,a=q.ad:=⟨_,rfl⟩;obtain⟨capE,ZZ⟩:∃a,a=q.cap:=⟨_,rfl⟩;obtain⟨rows,hrows⟩:∃a,a=q.rows:=⟨_,rfl⟩;have hsl:v0=.slice Ws rows.length capE:=by rw[hv0,YL,ZZ,hrows];rfl
  rw[<-hrows]at hN hnb hr1 hrx hr15 htr;rw[<-hrows,<-YL]at Yg;have hlk:=hlk0;rw[htab,hsl]at hlk;simp only[VO,Option.isSome_some]at hlk;have hr1000:=hN.len;have hwr:IntKind.i64.wrap ((rows.length:Int)-1)=((rows.length-1:Nat):Int):=by rw[IntKind.wrap_i64];omega
  have HC:Hid (∀nq,Calls prog 109 #[.pointer (some ⟨P,0,none⟩),.slice Ws rows.length capE,.int .i64 ((rows.length-1:Nat):Int),.agg #[.string f.a,.string f.b,.string f.r,.string f.c,.string f.d]] (W0.drewN nq) fun e w'=>(∃v,e=.returned v/\aP w' (jT w.heap.size) 8 v (EE rs ts out f))/\Below (W0.drewN nq).heap.size (W0.drewN nq) w'):=fun nq=>by
   have hb:ae w (W0.drewN nq):=below_drewN HB0.out nq;have h:=xh (capE:=capE) hN hnb hf hts htl htr rows.length 8 (rows.length-1) (W0.drewN nq) (by omega) (by omega) (by have:=htr (rows.length-1) (by rw[aR];omega);omega) (hP.below hb) (hD.below hb) (Yg.sl (hs.below hb));unfold EE;rw[<-hrx,aR];exact h.mono fun e w' ⟨⟨v,he,hr⟩,hb2⟩=>⟨⟨v,he,hr.old hb.size (Va _)⟩,hb2⟩
  clear hlk0 hD hP hs hsp hkl htab hsl hN hnb htr hf YL ZZ hrows Yg hrx hv0 hrelp;go_enter func64,ntmps64;go_wp2_with fail;rw[<-hW0];clear hW0;go_quiet (fail);clear d0 p0 hlk;go_wp2_with fail;refine(HC.out _).mono ?_;rintro e w1 ⟨⟨v,rfl,hr⟩,hb1⟩;have HB1:=ai ((below_drewN HB0.out _).trans (hb1.mono HB0.out.size));have HR:=ai hr;clear hb1 hr c0 c1 c2 c3 c4;go_wp2;go_ret;exact⟨⟨v,_,rfl,HR.out,Va _⟩,HB1.out⟩
end
open Go.Sort
theorem Uo(f:Fc):okB f=((fu f.a f.b&&aU f.r)&&fu f.c f.d):=by
 unfold okB cO;have:ui ⟨#[]⟩=true:=by unfold ui;rw[Go.ByteArray.toList_eq];rfl
 rw[this,Bool.and_true]
theorem KU(f:Fc)(w:af)(hf:f.fits):
  Calls prog 68 #[.agg #[.string f.a,.string f.b,.string f.r,.string f.c,.string f.d]] w fun e w'=>e=.returned (.bool (okB f))/\ae w w':=by
 rw[Uo];obtain⟨W0,hW0⟩:∃W0,W0=w.alloc (.cells #[.string f.a,.string f.b,.string f.r,.string f.c,.string f.d] 29):=⟨_,rfl⟩;have HB0:=mi hW0;have HK0:=ai (show W0.cell? ⟨w.heap.size,0,none⟩=some (.string f.a)/\W0.cell? ⟨w.heap.size,1,none⟩=some (.string f.b)/\W0.cell? ⟨w.heap.size,2,none⟩=some (.string f.r)/\W0.cell? ⟨w.heap.size,3,none⟩=some (.string f.c)/\W0.cell? ⟨w.heap.size,4,none⟩=some (.string f.d)/\ae w W0 from by refine⟨?_,?_,?_,?_,?_,HB0.out⟩<;>rw[hW0]<;>simp);have HF:=ai hf;clear hf;go_enter func68,ntmps68;go_wp2_with fail;rw[<-hW0];clear hW0 HB0;refine(dZ f.a f.b _ HF.out.1 HF.out.2.1).mono ?_;rintro e w1 ⟨rfl,hb1⟩;have HK1:=ai (uM HK0.out hb1);clear hb1 HK0;cases h1:fu f.a f.b;case false=>
  go_wp2;go_ret;exact⟨by simp[h1],HK1.out.2.2.2.2.2⟩
 obtain⟨c0,c1,c2,c3,c4,-⟩:=HK1.out;go_wp2_with fail;refine(aT f.r _ HF.out.2.2.1).mono ?_;rintro e w2 ⟨rfl,rfl⟩;cases h2:aU f.r;case false=>
  clear c0 c1 c2 c3 c4;go_wp2;go_ret;exact⟨by simp[h1,h2],HK1.out.2.2.2.2.2⟩
 go_wp2_with fail;refine(dZ f.c f.d _ HF.out.2.2.2.1 HF.out.2.2.2.2).mono ?_;rintro e w3 ⟨rfl,hb3⟩;have HK3:=ai (uM HK1.out hb3);clear hb3 c0 c1 c2 c3 c4;go_wp2;go_ret;exact⟨by simp[h1,h2],HK3.out.2.2.2.2.2⟩
def oQ(rs:Q06)(ts:Q05)(truth known:Q04)(f:Fc):Bool:=dh ts (aB (ag rs) f.a f.r) truth f (aB (ag rs) f.a f.r).length known ((aB (ag rs) f.a f.r).length-1)
theorem NW(rs:Q06)(ts:Q05)(truth known:Q04)(f:Fc):EE rs ts truth f (bB known)=oQ rs ts truth known f:=QC _ _ _ _ _ _ _
theorem CV(ad:Q02)(cap:Nat)(rs:Q06)(Wv:Q02)(cap':Nat)(ts:Q05)(adK:Q02)(capK:Nat)(known:Q04)(Xf:Q02)(WJ:Nat)(truth:Q04)(f:Fc)(w:af)(hlen:rs.length<=1048576)(hs:j5 w ad rs)(hl:∀r∈rs,r.light)(hsh:bq (ag rs)=true)(hlt:ts.length<=1048576)(hst:Sl w Wv ts)(hkl:known.length<=1048576)(hk:kw w adK known)(htl:truth.length<=1048576)(htr:kw w Xf truth):
  Calls prog 69 #[.slice ad rs.length cap,.slice Wv ts.length cap',.slice adK known.length capK,.slice Xf truth.length WJ,.agg #[.string f.a,.string f.b,.string f.r,.string f.c,.string f.d]] w fun e w'=>e=.returned (.bool (oQ rs ts truth known f))/\ae w w':=by
 obtain⟨W0,hW0⟩:∃W0,W0=w.alloc (.cells #[.string f.a,.string f.b,.string f.r,.string f.c,.string f.d] 29):=⟨_,rfl⟩;have HB0:=mi hW0;have c0:W0.cell? ⟨w.heap.size,0,none⟩=some (.string f.a):=by rw[hW0];simp
 have c1:W0.cell? ⟨w.heap.size,1,none⟩=some (.string f.b):=by rw[hW0];simp
 have c2:W0.cell? ⟨w.heap.size,2,none⟩=some (.string f.r):=by rw[hW0];simp
 have c3:W0.cell? ⟨w.heap.size,3,none⟩=some (.string f.c):=by rw[hW0];simp
 have c4:W0.cell? ⟨w.heap.size,4,none⟩=some (.string f.d):=by rw[hW0];simp
 have HR:=ai (iM ad cap rs f.a f.r W0 hlen (hs.below HB0.out) hl);have HS:=ai (hs.below HB0.out);have HHW:Hid (∀Ws rows,ik W0 Ws rows->HW W0 Wv ts Ws rows adK known Xf truth):=fun Ws rows h=>⟨hst.below HB0.out,h,hk.below HB0.out,htr.below HB0.out⟩;clear hs hst hk htr;go_enter func69,ntmps69;go_wp2_with fail;rw[<-hW0];clear hW0;refine HR.out.mono ?_;rintro e w1 ⟨⟨rows,Ws,capE,rfl,hrx,hsE,-⟩,rfl⟩;have YR:Hid (ak rows=aB (ag rs) f.a f.r):=hrx;have Yx:=ai hsE;clear hrx hsE HR;by_cases hz:rows.length=0
 ·have HN:Hid (oQ rs ts truth known f=false):=by
   show _=_;unfold oQ;rw[<-YR.out,aR,hz];rfl
  obtain rfl:rows=[]:=Vr.1 hz;clear hz YR;go_wp2;go_ret;exact⟨by rw[HN.out];rfl,HB0.out⟩
 obtain⟨XI,hr1⟩:Hid (Ym rows)/\1<=rows.length:=by
  have h0:(eD (ag rs) f.a f.r)≠none:=fun h=>by
   have h1:=YR.out;unfold aB at h1;rw[h]at h1;have:=congrArg List.length h1;rw[aR]at this;exact hz this
  cases hp:eD (ag rs) f.a f.r with
  | none=>exact absurd hp h0
  | some es =>
   have hk:(f.a,f.r)∈au (ag rs):=by
    cases ht:pJ rs (f.a,f.r) with
    | none=>have:=(pK hsh).no _ ht;rw[show eD (ag rs) f.a f.r=none from this]at hp;cases hp
    | some v =>
     obtain⟨t,htm,q,hq,e1,-,-,-⟩:=(pK hsh).yes _ v ht;rw[e1];unfold au jN;exact Vp.2 ⟨t.p,Vo.2 ⟨t,htm,rfl⟩,Vo.2 ⟨q.p,Vo.2 ⟨q,hq,rfl⟩,rfl⟩⟩
   obtain⟨t,htm,q,hq,-,h2,h3⟩:=Lt hsh hk;have e3:ak rows=ak q.rows:=by rw[YR.out,h2]
   rw[<-e3]at h3;exact zC h3
 have hr1000:=XI.out.len;have hz2:decide ((0:Int)<(rows.length:Int))=true:=by simp;omega
 have hz3:(0:Int)<(rows.length:Int):=by omega
 have hwr:IntKind.i64.wrap ((rows.length:Int)-1)=((rows.length-1:Nat):Int):=by rw[IntKind.wrap_i64];omega
 have HC:Hid (Calls prog 98 #[.slice ad rs.length cap,.slice Wv ts.length cap',.slice Ws rows.length capE,.int .i64 ((rows.length-1:Nat):Int),.slice adK known.length capK,.slice Xf truth.length WJ,.agg #[.string f.a,.string f.b,.string f.r,.string f.c,.string f.d]] w1 fun e w'=>e=.returned (.bool (oQ rs ts truth known f))/\ae w1 w'):=by
  have h:=rE (.slice ad rs.length cap) Wv cap' ts Ws capE rows Xf WJ truth f hlt XI.out htl rows.length (rows.length-1) adK capK known w1 (by omega) (by omega) hkl (HHW.out _ _ Yx.out);have e:oQ rs ts truth known f=dh ts (ak rows) truth f rows.length known (rows.length-1):=by unfold oQ;rw[<-YR.out,aR]
  rw[e];exact h
 clear hz YR Yx HHW;go_wp2_with fail;refine HC.out.mono ?_;rintro e w2 ⟨rfl,hb2⟩;have HB2:=ai (HB0.out.trans (hb2.mono HB0.out.size));clear hb2 c0 c1 c2 c3 c4;go_wp2;go_ret;exact⟨by simp,HB2.out⟩
section
variable  [DecidableEq Fc]
end
def ny(rs:Q06)(ts:Q05)(truth L:Q04)(k:Nat):Bool:=(List.range k).all fun i=>match L[i]? with
 | none=>true
 | some x=>okB x&&oQ rs ts truth (L.take i) x
theorem EF(rs:Q06)(ts:Q05)(truth:Q04){L:Q04}{k:Nat}(h:k<L.length):ny rs ts truth L (k+1)=(ny rs ts truth L k&&(okB L[k]&&oQ rs ts truth (L.take k) L[k])):=by
 unfold ny;rw[List.range_succ,Wl];simp[Vg h]
theorem IP(rs:Q06)(ts:Q05)(truth:Q04){L:Q04}{k:Nat}(h:k<L.length)(hn:(okB L[k]&&oQ rs ts truth (L.take k) L[k])=false):ny rs ts truth L L.length=false:=by
 unfold ny;rw[List.all_eq_false];exact⟨k,List.mem_range.2 h,by rw[Vg h];simpa using hn⟩
theorem kw.takeF{w:af}{ad:Q02}{L:Q04}(h:kw w ad L)(k:Nat):kw w ad (L.take k):=by
 rcases h with h|⟨b,off,e,hb,hr⟩
 ·exact .inl (by rw[h];simp)
 refine .inr ⟨b,off,e,hb,fun i hi=>?_⟩;have h1:i<L.length:=by rw[Vz]at hi;omega
 rw[List.getElem_take];exact hr i h1
theorem Uq{w W w':af}{n i0 i1 i2 i3 i4:Nat}{x0 x1 x2 x3 x4:Value}(h:W.cell? ⟨n,i0,none⟩=some x0/\W.cell? ⟨n,i1,none⟩=some x1/\W.cell? ⟨n,i2,none⟩=some x2/\W.cell? ⟨n,i3,none⟩=some x3/\W.cell? ⟨n,i4,none⟩=some x4/\ae w W)(hb:ae W w'):w'.cell? ⟨n,i0,none⟩=some x0/\w'.cell? ⟨n,i1,none⟩=some x1/\w'.cell? ⟨n,i2,none⟩=some x2/\w'.cell? ⟨n,i3,none⟩=some x3/\w'.cell? ⟨n,i4,none⟩=some x4/\ae w w':=by
 obtain⟨h0,h1,h2,h3,h4,hB⟩:=h;exact⟨aI hb (aC h0) h0,aI hb (aC h1) h1,aI hb (aC h2) h2,aI hb (aC h3) h3,aI hb (aC h4) h4,hB.trans (hb.mono hB.size)⟩
theorem IQ(ad:Q02)(cap:Nat)(rs:Q06)(Wv:Q02)(cap':Nat)(ts:Q05)(Xf:Q02)(WJ:Nat)(truth:Q04)(WY:Q02)(Wz:Nat)(L:Q04)(w:af)(hlen:rs.length<=1048576)(hs:j5 w ad rs)(hl:∀r∈rs,r.light)(hsh:bq (ag rs)=true)(hlt:ts.length<=1048576)(hst:Sl w Wv ts)(Y4:L.length<=1048576)(hcL:L.length<=Wz)(hL:kw w WY L)(YP:∀x∈L,x.fits)(htl:truth.length<=1048576)(htr:kw w Xf truth):
    Calls prog 66 #[.slice ad rs.length cap,.slice Wv ts.length cap',.slice Xf truth.length WJ,.slice WY L.length Wz] w fun e w'=>e=.returned (.bool (ny rs ts truth L L.length))/\ae w w':=by
  have HF5:Hid (∀(k:Nat) (x:Fc) (W':World),ae w W'->Calls prog 69 #[.slice ad rs.length cap,.slice Wv ts.length cap',.slice WY (L.take k).length Wz,.slice Xf truth.length WJ,.agg #[.string x.a,.string x.b,.string x.r,.string x.c,.string x.d]] W' fun e w'=>e=.returned (.bool (oQ rs ts truth (L.take k) x))/\ae W' w'):=fun k x W' hb =>
    CV ad cap rs Wv cap' ts WY Wz (L.take k) Xf WJ truth x W' hlen (hs.below hb) hl hsh hlt (hst.below hb) (by rw[Vz];omega) ((hL.below hb).takeF k) htl (htr.below hb)
  have HL:=ai hL;have Z9:=ai YP;clear hs hst hL htr YP;go_enter func66,ntmps66;go_wp2_with fail;go_loopw[9] (fun i wr=>∃k:Nat,k<=L.length/\i=.int .i64 k/\Hid (ny rs ts truth L k=true)/\Hid (ae w wr)) (fun i _=>L.length-(intOf i).toNat);case atStart=>exact⟨0,Vf _,rfl,rfl,Vb _ _⟩
  obtain⟨k,hk,rfl,HP,HB⟩:=hrel;by_cases hlk:k<L.length
  · obtain⟨b,off,Wt,ht,hbl⟩:=kw.at0 (HL.out.below HB.out) hlk;have hi1:=bC k;have hi2:(k:Int)<(L.length:Int):=by omega
    have hi3:(k:Int)<=(Wz:Int):=by omega
    have hi4:k<=Wz:=by omega
    have YS:=ai (EF rs ts truth hlk);have HHI:Hid ((okB L[k]&&oQ rs ts truth (L.take k) L[k])=false->ny rs ts truth L L.length=false):=IP rs ts truth hlk;have XP:=ai (Z9.out _ (U8 hlk));have hlt2:(L.take k).length=k:=by rw[Vz];omega
    have Zt:Hid (∀W':World,ae wr W'->Calls prog 69 #[.slice ad rs.length cap,.slice Wv ts.length cap',.slice WY k Wz,.slice Xf truth.length WJ,.agg #[.string L[k].a,.string L[k].b,.string L[k].r,.string L[k].c,.string L[k].d]] W' fun e w'=>e=.returned (.bool (oQ rs ts truth (L.take k) L[k]))/\ae W' w'):=fun W' h=>by
      have h2:=HF5.out k L[k] W' (HB.out.trans (h.mono HB.out.size));rw[hlt2]at h2;exact h2
    obtain⟨x,hx⟩:∃x,x=L[k]:=⟨_,rfl⟩;rw[<-hx]at ht YS HHI XP Zt;have HT5:=ai ht;have HL4:Hid (∀W':World,Calls prog 68 #[.agg #[.string x.a,.string x.b,.string x.r,.string x.c,.string x.d]] W' fun e w'=>e=.returned (.bool (okB x))/\ae W' w'):=fun W'=>KU x W' XP.out;clear hx ht hlt2;subst Wt;cases hq:okB x;case true=>
      rw[hq]at HL4 YS HHI;obtain⟨v,hv⟩:∃v,oQ rs ts truth (L.take k) x=v:=⟨_,rfl⟩;rw[hv]at Zt YS HHI;obtain⟨t0,t1,t2,t3,t4⟩:=HT5.out;clear hq hv;go_wp2_with fail
      go_region_held3 (fun w'=>w'.cell? ⟨b,off+k*5,none⟩=some (.string x.a)/\w'.cell? ⟨b,off+k*5+1,none⟩=some (.string x.b)/\w'.cell? ⟨b,off+k*5+2,none⟩=some (.string x.r)/\w'.cell? ⟨b,off+k*5+3,none⟩=some (.string x.c)/\w'.cell? ⟨b,off+k*5+4,none⟩=some (.string x.d)/\ae wr w')
        (first|assumption|exact Uq (by assumption) hbx|exact⟨t0,t1,t2,t3,t4,(Vb _ _).drew⟩)
        (first
         | (go_at_call 68;refine(HL4.out _).mono ?_;rintro e w2 ⟨rfl,hbx⟩)
         | (go_at_call 69;refine(Zt.out _ (And.right (And.right (And.right (And.right (And.right (by assumption))))))).mono ?_;rintro e w3 ⟨rfl,hbx⟩))
      all_goals
        rename_i hJ;have HG:=ai (HB.out.trans (hJ.2.2.2.2.2.mono HB.out.size));clear hJ;cases v;case true=>
          have WB:Hid (ny rs ts truth L (k+1)=true):=by show _=_;rw[YS.out,HP.out];rfl
          go_wp2;go_roundw;case rel=>exact⟨k+1,by omega,by go_num,WB,HG⟩
          simp[intOf]<;>omega
        have HN:=ai (HHI.out rfl);go_wp2;go_ret;exact⟨by rw[HN.out];rfl,HG.out⟩
    rw[hq]at HL4 YS HHI;have HN:=ai (HHI.out rfl);clear hq;go_wp2_with fail;refine kG 20 (fun n=>(u16::u17::u18::u19::u20::u21::u22::u23::u24::u25::u26::u27::u28::u29::u30::u31::u32::u33::u34::u35::[]).getD n undef) (fun fq=>{ tmps:=List.toArray (Value.slice ad rs.length cap::.slice Wv ts.length cap'::.slice Xf truth.length WJ::.slice (some ⟨b,off,none⟩) L.length Wz::undef::undef::undef::undef::u8::.int .i64 k::.int .i64 k::.slice (some ⟨b,off,none⟩) L.length Wz::.int .i64 L.length::.bool true::u14::u15::fq 0::fq 1::fq 2::fq 3::fq 4::fq 5::fq 6::fq 7::fq 8::fq 9::fq 10::fq 11::fq 12::fq 13::fq 14::fq 15::fq 16::fq 17::fq 18::fq 19::[]),defers:=[] }) (fun n v _=>v=(Value.slice (some ⟨b,off,none⟩) L.length Wz::.int .i64 k::.pointer (some ⟨b,off+k*5,none⟩)::.agg #[.string x.a,.string x.b,.string x.r,.string x.c,.string x.d]::.bool false::.bool true::.bool true::undef::undef::undef::undef::undef::undef::undef::undef::undef::undef::undef::undef::.bool true::[]).getD n undef) (fun w'=>ae wr w') (by kernel_rfl) rfl (by kernel_rfl) rfl (Vb _ _).drew ?stepA ?finA;case stepA =>
      rintro i hi o ho fq w' hG hpre;have HG:Hid (ae wr w'):=hG;have b0:=aI HG.out hbl HT5.out.1;have b1:=aI HG.out hbl HT5.out.2.1;have b2:=aI HG.out hbl HT5.out.2.2.1;have b3:=aI HG.out hbl HT5.out.2.2.2.1;have b4:=aI HG.out hbl HT5.out.2.2.2.2;have HM:Hid (∀e∈o.after,Region.binds .any e=true->_):=hpre;clear hG hpre;have hc:=Uy (i:=i) (by omega);clear hi
      repeat' rcases hc with rfl|hc
      iterate 4
        · cases ho;have hm:=HM.out
          try simp[Region.binds]at hm
          clear HM;refine wpOp_step rfl (fun K hK=>?_);have HK:Hid (∀a w,_->K a w):=hK;clear hK
          try simp only[hm]
          go_simp;exact HK.out _ _ ⟨_,by simp[upd, *],HG.out,rfl,fun k u hu=>hu⟩
      · cases ho;have e3:fq 3=.agg #[.string x.a,.string x.b,.string x.r,.string x.c,.string x.d]:=HM.out ⟨3,.data⟩ (by simp) rfl;clear HM;refine wpOp_step rfl (fun K hK=>?_);have HK:Hid (∀a w,_->K a w):=hK;clear hK;simp only[e3];go_simp;refine(HL4.out _).mono ?_;rintro e w9 ⟨rfl,hb9⟩;have HG9:=jF HG hb9;clear hb9;go_wp2_with fail;exact HK.out _ _ ⟨Value.bool false,by simp[upd,e3],HG9.out,rfl,fun k u hu=>hu⟩
      iterate 15
        · cases ho;have hm:=HM.out
          try simp[Region.binds]at hm
          clear HM;refine wpOp_step rfl (fun K hK=>?_);have HK:Hid (∀a w,_->K a w):=hK;clear hK
          try simp only[hm]
          go_simp;exact HK.out _ _ ⟨_,by simp[upd, *],HG.out,rfl,fun k u hu=>hu⟩
    case finA =>
      rintro fq w' hG hall;have e19:fq 19=.bool true:=hall 19 (by omega);have HG:Hid (ae wr w'):=hG;clear hG hall;rw[e19];go_wp2;go_ret;exact⟨by rw[HN.out];rfl,HB.out.trans (HG.out.mono HB.out.size)⟩
  · have HE:Hid (ny rs ts truth L L.length=true):=by
      have e:k=L.length:=by omega
      show _=_;rw[<-e];exact HP.out
    go_wp2;go_ret;exact⟨by rw[HE.out];rfl,HB.out⟩
def yS(rs:Q06)(ts:Q05)(Q:Q04)(i:Nat)(kept:Q04):Bool:=ny rs ts Q (Q.take i++kept) (Q.take i++kept).length
def tX(rs:Q06)(ts:Q05)(Q:Q04)(f:Fc)(k:Nat):List Fc:=lI (yS rs ts Q) Q k [f]
theorem NY(x y:Q04):av (x++y)=av x++av y:=by simp[av]
def Q7(rs:Q06)(ts:Q05)(Q:Q04)(f:Fc)(w:World)(e:Ending)(w':World):Prop:=(bB Q f=false/\e=.returned (.tuple #[.slice none 0 0,.bool false]) \/ ∃(k:Nat) (h:k<Q.length) (gP capP:Nat),Q[k]=f/\f ∉ Q.take k/\e=.returned (.tuple #[.slice (some ⟨gP,0,none⟩) (tX rs ts Q f k).length capP,.bool true])/\w'.ownsRow w.heap.size 29 5 (.slice (some ⟨gP,0,none⟩) (tX rs ts Q f k).length capP) (tX rs ts Q f k).length (av (tX rs ts Q f k)))/\ae w w'
section
variable  [DecidableEq Fc]
theorem zk(st:Q00)(ad:Q02)(cap:Nat)(rs:Q06)(Wv:Q02)(cap':Nat)(ts:Q05)(f:Fc)(w:af)(hlen:rs.length<=1048576)(hs:j5 w ad rs)(hl:∀r∈rs,r.light)(hfr:∀r∈rs,r.fits)(hlt:ts.length<=1048576)(hst:Sl w Wv ts)(hft:∀x∈ts,x.fits)(hff:∀x∈aG st rs ts,x.fits)(hle:aK (ag rs)=true->Least (ag rs) st):
  Calls prog 32 #[.slice ad rs.length cap,.slice Wv ts.length cap',.agg #[.string f.a,.string f.b,.string f.r,.string f.c,.string f.d]] w (Q7 rs ts (aG st rs ts) f w):=by
 obtain⟨iR,hiR,zR0,zR1,zR2⟩:=pQ;have Xb:Hid (prog.info? 29=some iR/\iR.zero=some (.agg #[.string ⟨#[]⟩,.string ⟨#[]⟩,.string ⟨#[]⟩,.string ⟨#[]⟩,.string ⟨#[]⟩])/\iR.size=5/\iR.bytes=80):=⟨hiR,zR0,zR1,zR2⟩;have hQl:=kE st (rs:=rs) (ts:=ts);obtain⟨W0,hW0⟩:∃W0,W0=w.alloc (.cells #[.string f.a,.string f.b,.string f.r,.string f.c,.string f.d] 29):=⟨_,rfl⟩;have hB0:ae w W0:=by rw[hW0];exact(Vb _ _).alloc (Va _) _
 have WT:Hid (sV W0 w.heap.size f):=by show sV _ _ _;rw[hW0];exact World.alloc_heap_new w _
 have XD:=ai (CR st ad cap rs Wv cap' ts f W0 hlen (hs.below hB0) hl hfr hlt (hst.below hB0) hft hle)
 have Zv:Hid (aO (fP rs) rs ts=true->(∀ W':World,ae w W'->Calls prog 57 #[.slice ad rs.length cap,.slice Wv ts.length cap'] W' fun e w'=>(∃ v,e=.returned v/\w'.ownsRow W'.heap.size 29 5 v (aG st rs ts).length (av (aG st rs ts)))/\ae W' w') /\
   (∀(W':World) (Xf:Q02) (WJ:Nat) (WY:Q02) (Wz:Nat) (L:Q04),ae w W'->kw W' Xf (aG st rs ts)->L.length<=1048576->L.length<=Wz->kw W' WY L->(∀x∈L,x.fits)->Calls prog 66 #[.slice ad rs.length cap,.slice Wv ts.length cap',.slice Xf (aG st rs ts).length WJ,.slice WY L.length Wz] W' fun e w'=>e=.returned (.bool (ny rs ts (aG st rs ts) L L.length))/\ae W' w')):=fun hr=>by
  have hsd:aK (ag rs)=true/\ts.length<=40:=by
   unfold aO dI at hr;simp only[Vd,Vk]at hr;exact⟨hr.1.1,hr.1.2.1⟩
  refine⟨fun W' hb=>?_,fun W' Xf WJ WY Wz L hb hsR Y4 hcL hL YP=>?_⟩
  ·have:=sK st ad cap rs Wv cap' ts W' (aW.1 hsd.1) (hle hsd.1) (hs.below hb) hl hsd.2 (hst.below hb);rw[<-fQ hr]at this;exact this
  exact IQ ad cap rs Wv cap' ts Xf WJ (aG st rs ts) WY Wz L W' hlen (hs.below hb) hl (aW.1 hsd.1).1 hlt (hst.below hb) Y4 hcL hL YP (by omega) hsR
 have HB0:=ai hB0;have HFF:=ai hff;have HNR:Hid (bB (aG st rs ts) f=true->aO (fP rs) rs ts=true):=fun h=>by
  cases hr:aO (fP rs) rs ts;case true=>rfl
  rw[mh hr]at h;cases h
 clear hs hl hfr hst hft hle hB0 hff hiR zR0 zR1 zR2;obtain⟨Q,hQ⟩:∃Q,Q=aG st rs ts:=⟨_,rfl⟩;rw[<-hQ]at hQl XD Zv HFF HNR ⊢;clear hQ;go_enter func32,ntmps32;obtain⟨c0,c1,c2,c3,c4,cl⟩:=WT.out.c;go_wp2_with fail;rw[<-hW0];clear hW0;refine XD.out.mono ?_;rintro e w1 ⟨rfl,hb1⟩;have HB1:=jF HB0 hb1;have YW:=ai (WT.out.bel hb1);clear hb1 XD c0 c1 c2 c3 c4 cl HB0 WT;cases hq:bB Q f;case false=>
  have HQ:=ai hq;clear hq Zv HFF HNR;go_wp2;exact bodyPost_ret (v:=.tuple #[.slice none 0 0,.bool false]) (by simp[results,Tryz.results32,go_sem]) rfl ⟨.inl ⟨HQ.out,rfl⟩,HB1.out⟩
 have HA:=ai (Zv.out (HNR.out hq)).1;have H5:=ai (Zv.out (HNR.out hq)).2;have HMEM:Hid (f∈Q):=bP.1 hq;clear hq Zv HNR;go_wp2_with fail;refine(HA.out _ HB1.out).mono ?_;rintro e w2 ⟨⟨vR,rfl,hownR⟩,hb2⟩;obtain⟨Xf,WJ,rfl,hsR⟩:=gI hownR;have HSR:=ai hsR;have HB2:=jF HB1 hb2;have Y6:=ai (YW.out.bel hb2);clear hownR hsR hb2 HB1 YW HA;obtain⟨W3,hW3⟩:∃W3,W3=w2.alloc (.cells #[] 29):=⟨_,rfl⟩;have HB3:=mi hW3;have WO:Hid (W3.ownsRow w2.heap.size 29 5 (.slice (some ⟨w2.heap.size,0,none⟩) 0 0) 0 (av (Q.take 0))):=by
  show World.ownsRow _ _ _ _ _ _ _;rw[hW3];exact World.ownsRow_lit w2 #[] 0 (Va _) (by unfold maxLen;omega) (by simp)
 go_wp2_with fail;rw[<-hW3];clear hW3;go_loopw[9,10] (fun v i wr=>∃(k:Nat),k<=Q.length/\i=.int .i64 k/\(∃g c,v=.slice (some ⟨g,0,none⟩) k c)/\Hid (wr.ownsRow w2.heap.size 29 5 v k (av (Q.take k)))/\Hid (f ∉ Q.take k)/\Hid (ae w2 wr)) (fun _ i _=>Q.length-(intOf i).toNat);case atStart=>exact⟨0,Vf _,rfl,⟨w2.heap.size,0,rfl⟩,WO,by show f ∉ Q.take 0;simp,HB3⟩
 clear WO HB3;obtain⟨k,hk,rfl,⟨g,c,rfl⟩,HO,XI,HB⟩:=hrel;by_cases hkl:k<Q.length
 ·obtain⟨b,off,Wt,⟨t0,t1,t2,t3,t4⟩,hbl⟩:=kw.at0 (HSR.out.below HB.out) hkl;have hk1:=bC k;have hk2:(k:Int)<(Q.length:Int):=by omega
  obtain⟨x,hx⟩:∃x,x=Q[k]:=⟨_,rfl⟩;rw[<-hx]at t0 t1 t2 t3 t4;have HTK:Hid (Q.take (k+1)=Q.take k++[x]):=by show _=_;rw[hx];exact Ve hkl
  have HXE:=ai hx;have HBWr:Hid (ae w wr):=HB2.out.trans (HB.out.mono HB2.out.size);obtain⟨W4,WP⟩:∃W4,W4=wr.alloc (.cells #[.string x.a,.string x.b,.string x.r,.string x.c,.string x.d] 29):=⟨_,rfl⟩;have WG:Hid (W4.ownsRow w2.heap.size 29 5 (.slice (some ⟨g,0,none⟩) k c) k (av (Q.take k))):=by show World.ownsRow _ _ _ _ _ _ _;rw[WP];exact HO.out.alloc _
  have Yd:Hid (∀j u,x.row[j]?=some u->W4.cell? ((⟨wr.heap.size,0,none⟩:Addr).add j)=some u):=by show ∀j u,_;rw[WP];exact wM wr x
  have Xu:Hid (ae w2 W4):=by show Below _ _ _;rw[WP];exact HB.out.alloc HB.out.size _
  have YH:w2.heap.size<=W4.heap.size:=Xu.out.size;subst Wt;clear hx HO HB HBWr;go_wp2_with(at_builtin;go_must (rw[<-WP];clear WP;refine wpList_append_own_at _ rfl _ _ 40 rfl w2.heap.size 29 iR (.agg #[.string ⟨#[]⟩,.string ⟨#[]⟩,.string ⟨#[]⟩,.string ⟨#[]⟩,.string ⟨#[]⟩]) 5 80 underlying40 Xb.out.1 Xb.out.2.1 Xb.out.2.2.1 Xb.out.2.2.2 rfl (by decide) _ k (av (Q.take k)) rfl WG.out ⟨wr.heap.size,0,none⟩ 1 1 x.row rfl rfl Yd.out (by simp[Fc.row,Value.oneCell']) (by unfold maxLen;omega) (by omega) YH ?_));intro v5 w5 hown5 hgr5 _ _;have WF:Hid (w5.ownsRow w2.heap.size 29 5 v5 (k+1) (av (Q.take (k+1)))):=by show World.ownsRow _ _ _ _ _ _ _;rw[HTK.out,kC];exact hown5
  have XH:Hid (ae w2 w5):=Xu.out.grown hgr5 Xu.out.size (fun z hz=>(WG.out.lt z hz).1);obtain⟨ad5,cap5,hv5⟩:=p8 WF.out;subst hv5;obtain⟨g5,hg5,-⟩:=sM WF.out (by omega);subst hg5;have Zt:=ai (sN WF.out);clear hown5 hgr5 WG Yd Xu YH t0 t1 t2 t3 t4;obtain⟨b',off',hadr',⟨t0,t1,t2,t3,t4⟩,hbl'⟩:=kw.at0 (HSR.out.below XH.out) hkl;injection hadr' with hadr';injection hadr' with e1 e2;subst e1 e2;rw[<-HXE.out]at t0 t1 t2 t3 t4;obtain⟨c0,c1,c2,c3,c4,cl⟩:=(Y6.out.bel XH.out).c;cases hq:vP x f;case false=>
   have heq:=xJ x f (v:=false) hq;have HNO2:Hid (f ∉ Q.take (k+1)):=fun hm=>by
    rw[HTK.out]at hm;rcases Vn.1 hm with hm|hm
    ·exact XI.out hm
    rw[<-Vl.1 hm,ow.2 rfl]at hq;cases hq
   clear hq;go_wp2_with fail;go_quiet (fail);clear t0 t1 t2 t3 t4 c0 c1 c2 c3 c4 heq;have Xy:Hid ((w5.drewN nq).ownsRow w2.heap.size 29 5 (.slice (some ⟨g5,0,none⟩) (k+1) cap5) (k+1) (av (Q.take (k+1)))):=gG WF.out fun z hz=>rfl;go_wp2;go_roundw;case rel=>exact⟨k+1,by omega,by go_num,⟨g5,cap5,by go_num⟩,Xy,HNO2,below_drewN XH.out _⟩
   simp[intOf]<;>omega
  have heq:=xJ x f (v:=true) hq;have XP:Hid (x=f):=ow.1 hq;clear hq;go_wp2_with fail;go_quiet (fail);clear t0 t1 t2 t3 t4 c0 c1 c2 c3 c4 heq;have Xy:Hid ((w5.drewN nq).ownsRow w2.heap.size 29 5 (.slice (some ⟨g5,0,none⟩) (k+1) cap5) (k+1) (av (Q.take (k+1)))):=gG WF.out fun z hz=>rfl;have Ye:=ai (below_drewN XH.out nq);obtain⟨w6,hw6⟩:∃w6,w5.drewN nq=w6:=⟨_,rfl⟩;rw[hw6]at Xy Ye ⊢;clear hw6 WF XH;have HIN:Hid (f∈Q):=HMEM.out;have HEQ:Hid ((Q.take (k+1))=Q.take k++[f]):=by show _=_;rw[HTK.out,XP.out]
  have HGT:Hid (Q[k]=f):=by show _=_;rw[<-HXE.out];exact XP.out
  rw[HEQ.out]at Xy;clear HTK HXE XP HEQ;go_wp2_with fail;go_loopw[9,11] (fun v i wr=>∃(j:Nat) (kept:Q04) (g c:Nat),j<=k/\i=.int .i64 ((j:Int)-1)/\v=.slice (some ⟨g,0,none⟩) (j+kept.length) c/\1<=kept.length/\j+kept.length<=k+1/\Hid (wr.ownsRow w2.heap.size 29 5 (.slice (some ⟨g,0,none⟩) (j+kept.length) c) (j+kept.length) (av (Q.take j++kept)))/\Hid (lI (yS rs ts Q) Q j kept=tX rs ts Q f k)/\Hid (∀x∈kept,x∈Q)/\Hid (ae w2 wr)) (fun _ i _=>(intOf i+1).toNat);case atStart=>exact⟨k,[f],g5,cap5,Va _,by go_num,by simp,by simp,by simp,Xy,rfl,fun x hx=>by rw[Vl.1 hx];exact HIN.out,Ye⟩
  clear Xy Ye Zt;obtain⟨j,kept,g,c,hjk,rfl,rfl,hk1,hk2,HO,HND,HKI,HB⟩:=hrel;have hcap:=sN HO.out;cases j with
  | zero =>
   have hneg:¬(0:Int)<=((0:Nat):Int)-1:=by omega
   have hl0:(0:Nat)+kept.length=kept.length:=VC _;have Yx:Hid (wr.ownsRow w.heap.size 29 5 (.slice (some ⟨g,0,none⟩) kept.length c) kept.length (av kept)):=by
    show World.ownsRow _ _ _ _ _ _ _;exact mg (by have:=HO.out;simpa using this) HB2.out.size
   rw[hl0]at *
   have YM:Hid (ae w wr):=HB2.out.trans (HB.out.mono HB2.out.size);have HRES:Hid (tX rs ts Q f k=kept):=HND.out.symm;clear HO HND HB;go_wp2;exact bodyPost_ret (v:=.tuple #[.slice (some ⟨g,0,none⟩) kept.length c,.bool true]) (by simp[results,Tryz.results32,go_sem]) rfl ⟨.inr ⟨k,hkl,g,c,HGT.out,XI.out,by rw[HRES.out],by rw[HRES.out];exact Yx.out⟩,YM.out⟩
  | succ m =>
   have hmq:m<Q.length:=by omega
   have hm0:=bC m;have e0:(((m+1:Nat)):Int)-1=(m:Int):=by omega
   rw[e0];obtain⟨N,hN⟩:∃N,N=m+1+kept.length:=⟨_,rfl⟩;have hN1:N<=m+1+kept.length:=by omega
   have hN2:m+1+kept.length<=N:=by omega
   have HOx:=HO.out;rw[<-hN]at HOx hcap ⊢;have HO:=ai HOx;clear HOx e0 hN;have HXT:Hid ((Q.take (m+1)++kept).take m=Q.take m):=by
    show _=_;rw[List.take_append_of_le_length (by rw[Vz];omega),List.take_take,Nat.min_eq_left (by omega)]
   have HXD:Hid ((Q.take (m+1)++kept).drop (m+1)=kept):=by
    show _=_;rw[List.drop_append_of_le_length (by rw[Vz];omega),Vt (by rw[Vz];omega),Wh]
   obtain⟨W7,YJ⟩:∃W7,W7=wr.alloc (.cells #[] 29):=⟨_,rfl⟩;have WU:Hid (W7.ownsRow wr.heap.size 29 5 (.slice (some ⟨wr.heap.size,0,none⟩) 0 0) 0 []):=by
    show World.ownsRow _ _ _ _ _ _ _;rw[YJ];exact World.ownsRow_lit wr #[] 0 (Va _) (by unfold maxLen;omega) (by simp)
   have HB7:=mi YJ;have HR7:Hid (W7.ownsRow w2.heap.size 29 5 (.slice (some ⟨g,0,none⟩) N c) N (av (Q.take (m+1)++kept))):=gG HO.out fun z hz=>HB7.out.block z (HO.out.lt z hz).2;have hz7:wr.heap.size<=W7.heap.size:=HB7.out.size;have hgl:g<wr.heap.size:=(HO.out.lt g rfl).2;have hmc:(m:Int)<=(c:Int):=by omega
   have hmN:(m:Int)<=(N:Int):=by omega
   have hmn:m<=N:=by omega
   have hmc':m<=c:=by omega
   go_wp2_with(at_builtin;go_must (rw[<-YJ];clear YJ;refine wpList_append_own_at _ rfl _ _ 40 rfl wr.heap.size 29 iR (.agg #[.string ⟨#[]⟩,.string ⟨#[]⟩,.string ⟨#[]⟩,.string ⟨#[]⟩,.string ⟨#[]⟩]) 5 80 underlying40 Xb.out.1 Xb.out.2.1 Xb.out.2.2.1 Xb.out.2.2.2 rfl (by decide) _ 0 [] rfl WU.out ⟨g,0,none⟩ m c (av ((Q.take (m+1)++kept).take m)) rfl (by rw[jB,Vz];congr 1;rw[Vh,Vz];omega) (uL HR7.out m hmn) (oO _) (by unfold maxLen;omega) (by omega) hz7 ?_));intro v8 w8 XE hgr8 _ _;have HO8:Hid (w8.ownsRow wr.heap.size 29 5 v8 m (av (Q.take m))):=by
    show World.ownsRow _ _ _ _ _ _ _;rw[HXT.out]at XE
    first|exact XE|(rw[VC,Wh]at XE;exact XE)|simpa using XE
   have HB8:Hid (ae wr w8):=HB7.out.grown hgr8 HB7.out.size (fun z hz=>by simp[Value.ownBlock]at hz;omega);have hz8:wr.heap.size<=w8.heap.size:=HB8.out.size;have HR8:Hid (w8.ownsRow w2.heap.size 29 5 (.slice (some ⟨g,0,none⟩) N c) N (av (Q.take (m+1)++kept))):=gG HO.out fun z hz=>HB8.out.block z (HO.out.lt z hz).2;clear XE hgr8 WU HB7 HR7 hz7;have hq1:(0:Int)<=(m:Int)+1:=by omega
   have hq2:(m:Int)+1<=(N:Int):=by omega
   have hq3:¬(c=m+1):=by omega
   have hq4:¬(m+1=c):=by omega
   have hwr:IntKind.i64.wrap ((m:Int)+1)=(m:Int)+1:=by rw[IntKind.wrap_i64];omega
   go_wp2_with(at_builtin;go_must (refine wpList_append_own_at _ rfl _ _ 40 rfl wr.heap.size 29 iR (.agg #[.string ⟨#[]⟩,.string ⟨#[]⟩,.string ⟨#[]⟩,.string ⟨#[]⟩,.string ⟨#[]⟩]) 5 80 underlying40 Xb.out.1 Xb.out.2.1 Xb.out.2.2.1 Xb.out.2.2.2 rfl (by decide) v8 m (av (Q.take m)) rfl HO8.out ⟨g,(m+1)*5,none⟩ (N-(m+1)) (c-(m+1)) (av ((Q.take (m+1)++kept).drop (m+1))) rfl (by rw[jB,Wd];congr 1;rw[Vh,Vz];omega) (Ck HR8.out (m+1) (by omega)) (oO _) (by unfold maxLen;omega) (by omega) hz8 ?_));intro v9 w9 hown9 hgr9 _ _;have hNk:m+(N-(m+1))=m+kept.length:=by omega
   have Zp:Hid (w9.ownsRow wr.heap.size 29 5 v9 (m+kept.length) (av (Q.take m++kept))):=by
    show World.ownsRow _ _ _ _ _ _ _;rw[HXD.out,hNk]at hown9;rw[NY];exact hown9
   have HB9:Hid (ae wr w9):=HB8.out.grown hgr9 HB8.out.size (fun z hz=>(HO8.out.lt z hz).1);clear hown9 hgr9 HO8 HB8 HR8 hz8 hq1 hq2 hq3 hq4 hwr hmc hmN hmn hmc';obtain⟨ad9,cap9,hv9⟩:=p8 Zp.out;subst hv9;obtain⟨g9,hg9,-⟩:=sM Zp.out (by omega);subst hg9;have HC9:=ai (sN Zp.out);have Y4:(Q.take m++kept).length=m+kept.length:=by rw[Vh,Vz];omega
   have HS9:Hid (kw w9 (some ⟨g9,0,none⟩) (Q.take m++kept)):=by
    obtain⟨adX,capX,heX,hsX⟩:=gI (fs:=Q.take m++kept) (by rw[Y4];exact Zp.out);injection heX with e1 e2 e3;subst e1;exact hsX
   have HB9w2:Hid (ae w2 w9):=HB.out.trans (HB9.out.mono HB.out.size);have Zt:=ai (H5.out w9 _ WJ (some ⟨g9,0,none⟩) cap9 (Q.take m++kept) (HB2.out.trans (HB9w2.out.mono HB2.out.size)) (HSR.out.below HB9w2.out) (by omega) (by rw [Y4];exact HC9.out) HS9.out (fun x hx=>by
    rcases Vn.1 hx with hx|hx
    ·exact HFF.out x (List.mem_of_mem_take hx)
    exact HFF.out x (HKI.out x hx)))
   rw[Y4]at Zt;clear HS9 Y4;go_wp2_with fail;refine Zt.out.mono ?_;rintro e w10 ⟨rfl,hb10⟩;have HTQ:Hid (ny rs ts Q (Q.take m++kept) (m+kept.length)=yS rs ts Q m kept):=by
    show _=_;unfold yS;rw[Vh,Vz,Nat.min_eq_left (by omega)]
   rw[HTQ.out];have HB10:=jF HB9w2 hb10;have Y3:Hid (w10.ownsRow w2.heap.size 29 5 (.slice (some ⟨g9,0,none⟩) (m+kept.length) cap9) (m+kept.length) (av (Q.take m++kept))):=mg (gG Zp.out fun z hz=>hb10.block z (Zp.out.lt z hz).2) HB.out.size;have HOL:Hid (w10.ownsRow w2.heap.size 29 5 (.slice (some ⟨g,0,none⟩) N c) N (av (Q.take (m+1)++kept))):=gG HO.out fun z hz=>(hb10.block z (U9 (HO.out.lt z hz).2 HB9.out.size)).trans (HB9.out.block z (HO.out.lt z hz).2);clear hb10 Zt Zp HB9 HB9w2 HO HC9;cases hq:yS rs ts Q m kept;case true=>
    have Yy:Hid (lI (yS rs ts Q) Q m kept=tX rs ts Q f k):=by show _=_;rw[<-HND.out,NU hmq hq]
    clear hq HOL HND;go_wp2;go_roundw;case rel=>exact⟨m,kept,g9,cap9,by omega,by go_num,rfl,hk1,by omega,Y3,Yy,HKI,HB10⟩
    simp[intOf]<;>omega
   have Yy:Hid (lI (yS rs ts Q) Q m (Q[m]::kept)=tX rs ts Q f k):=by show _=_;rw[<-HND.out,Q3 hmq hq]
   have XR:Hid (N=m+(Q[m]::kept).length):=by show _=_;rw[VI];omega
   have HOL2:Hid (w10.ownsRow w2.heap.size 29 5 (.slice (some ⟨g,0,none⟩) N c) N (av (Q.take m++(Q[m]::kept)))):=by
    have:=HOL.out;rw[Ve hmq,VD]at this;exact this
   have HKI2:Hid (∀x∈Q[m]::kept,x∈Q):=fun x hx=>by
    rcases Vq.1 hx with rfl|hx
    ·exact U8 hmq
    exact HKI.out x hx
   clear hq HOL HND Y3 HKI;go_wp2;go_roundw;case rel=>exact⟨m,Q[m]::kept,g,c,by omega,by go_num,by rw[<-XR.out],by simp,by rw[VI];omega,by rw[<-XR.out];exact HOL2,Yy,HKI2,HB10⟩
   simp[intOf]<;>omega
 exfalso;have:Q.take k=Q:=VE (by omega);exact XI.out (by rw[this];exact HMEM.out)
end
theorem Fc.short.fit{f:Fc}(h:f.short):f.fits:=by unfold Fc.short at h;unfold Fc.fits maxLen;omega
theorem Q8{w:af}{base n:Nat}{v:Value}{xs:Q03}(h:w.ownsRow base 29 5 v n xs)(hn:n≠0):∃g c,v=.slice (some ⟨g,0,none⟩) n c:=by
 rcases h.2 with⟨_,h0⟩|⟨g,cap,cur,e,-⟩
 ·exact absurd h0 hn
 exact⟨g,cap,e⟩
theorem Co(tst:Nat->List Fc->Bool)(Q:Q04):∀(k:Nat) (kept:Q04),(lI tst Q k kept).length<=k+kept.length/\∀x∈lI tst Q k kept,x∈Q\/x∈kept
 | 0,kept=>⟨by simp[lI],fun x hx=>.inr hx⟩
 | k+1,kept=>by
  unfold lI;cases e:Q[k]? with
  | none=>exact⟨by simp,fun x hx=>.inr hx⟩
  | some f =>
   simp only;split
   ·have h:=Co tst Q k kept;exact⟨by omega,h.2⟩
   have h:=Co tst Q k (f::kept);refine⟨by have:=h.1;simp at this;omega,fun x hx=>?_⟩;rcases h.2 x hx with h|h
   ·exact .inl h
   rcases Vq.1 h with rfl|h
   ·exact .inl (We e)
   exact .inr h
theorem kw.dropG{w:af}{g:Nat}{ks:Q04}(h:kw w (some ⟨g,0,none⟩) ks)(z:Nat):kw w (some ⟨g,z*5,none⟩) (ks.drop z):=by
 rcases h with h|⟨b,off,e,hb,hr⟩
 ·exact .inl (by rw[h];simp)
 injection e with e;injection e with e1 e2;subst e1 e2;refine .inr ⟨g,z*5,rfl,hb,fun i hi=>?_⟩;rw[Wd]at hi;have h:=hr (z+i) (by omega);rw[show 0+(z+i)*5=z*5+i*5 by omega]at h;rw[List.getElem_drop];exact h
def UZ(w:World)(e:Ending)(w':World):Prop:=∃(v:Value) (rs:Q06) (g c:Nat) (ts:Q05) (WY:Q02) (Wz:Nat) (L:Q04),e=.returned (.tuple #[v,.slice (some ⟨g,0,none⟩) ts.length c,.slice WY L.length Wz])/\iZ w' w.heap.size v rs/\GoodS rs/\ts.length<=12/\rz ts/\(∀x∈L,x.fits)/\L.length<=115202/\L.length<=Wz/\kw w' WY L/\w'.ownsRow w.heap.size 46 6 (.slice (some ⟨g,0,none⟩) ts.length c) ts.length (bY ts)/\ae w w'
theorem zl[DecidableEq Fc](ad:Q02)(len cap:Nat)(w:af)(h:Bytes w ad len):
  Calls prog 23 #[.slice ad len cap] w (UZ w):=by
 have H:=aD h;clear h;go_enter func23,ntmps23;go_wp2_with fail;refine(Pd ad len cap _ H.out).mono ?_;rintro e w1 ⟨rfl,Xe,hb1⟩;obtain⟨R,hRR⟩:∃R,R=w.heap.size:=⟨_,rfl⟩;rw[<-hRR]at Xe ⊢;have HB1:=aD hb1;have HR1:=aD Xe;have YU:w.heap.size<=R:=by omega
 clear Xe hb1 H hRR;go_wp2_with fail;refine(KI R ad len cap _ HR1.out).mono ?_;rintro e w2 ⟨v,rs,rfl,hT2,hG,hR2,hO2⟩;have hb:=HR1.out.lt;obtain⟨Xk,WV,rfl,-,-⟩:=hT2.read;have HR2:=aD hR2;have HB2:Hid (ae w w2):=Only.toBelow HB1.out hO2 HB1.out.size YU;have HT2:=aD hT2;have HG:Hid (GoodS rs):=hG;clear hT2 hG hR2 hO2 HR1;go_wp2_with fail;refine(CP R ad len cap Xk WV w1.heap.size rs _ HR2.out hb HT2.out HG.out).mono ?_;rintro e w3 ⟨⟨g,c,ts,rfl,hl9,hsh,hown⟩,YG,hO3⟩;have HB3:Hid (ae w w3):=Only.toBelow HB2.out hO3 HB2.out.size YU;have HT3:Hid (iZ w3 w1.heap.size (.slice Xk rs.length WV) rs):=HT2.out.only hb hO3;have hw:w.heap.size<=w1.heap.size:=HB1.out.size;have hs2:R<w2.heap.size:=HR2.out.lt;obtain⟨hrow,hg,-,hbg⟩:=lZ hown rfl;have HO:=aD hown;have HR3:=gF YG;obtain⟨st,hle⟩:=Tj (ag rs);have HSLT:Hid (∀W,Only R w3 W->j5 W Xk rs):=HT3.out.slT hb;have HSLU:Hid (∀W,Only R w3 W->Sl W (some ⟨g,0,none⟩) ts):=fun W hO=>by
  obtain⟨h1,h2,-,-⟩:=lZ (oJ HO.out hs2 hO) rfl;exact .inr ⟨g,0,rfl,h2,h1⟩
 have WE:=gF (yR (st:=st) HG.out.2.2 hsh.fits);have hlen:rs.length<=1048576:=by have:=HG.out.1;omega
 have hlt:ts.length<=1048576:=by omega
 have HFQ:=gF (CU st Xk WV rs (some ⟨g,0,none⟩) c ts w3 hlen (HSLT.out w3 (Only.refl R w3)) HG.out.2.1 HG.out.2.2 hlt (HSLU.out w3 (Only.refl R w3)) hsh.fits hle);have HPQ:Hid (∀(f:Fc) (W:World),Only R w3 W->Calls prog 32 #[.slice Xk rs.length WV,.slice (some ⟨g,0,none⟩) ts.length c,.agg #[.string f.a,.string f.b,.string f.r,.string f.c,.string f.d]] W (Q7 rs ts (aG st rs ts) f W)):=fun f W hO =>
  zk st Xk WV rs (some ⟨g,0,none⟩) c ts f W hlen (HSLT.out W hO) HG.out.2.1 HG.out.2.2 hlt (HSLU.out W hO) hsh.fits WE.out hle
 have HSH:=gF hsh;have Y4:=kE st (rs:=rs) (ts:=ts);clear YG HR2 HB2 HT2 hown hrow hg hbg hsh hle hO3 HSLT HSLU HB1;go_wp2_with fail;refine HFQ.out.mono ?_;rintro e w4 ⟨⟨vf,rfl,hof⟩,hb4⟩;obtain⟨Xq,WC,rfl,-⟩:=gI hof;have Xu:=jF HB3 hb4;have HT4:Hid (iZ w4 w1.heap.size (.slice Xk rs.length WV) rs):=WL.below nk HT3.out hb4;have HR4:=aD (HR3.out.below hb4);have WG:Hid (w4.ownsRow w2.heap.size 46 6 (.slice (some ⟨g,0,none⟩) ts.length c) ts.length (bY ts)):=oJ HO.out hs2 (Only.of_below hb4);have H34:Hid (Only R w3 w4):=Only.of_below hb4;have hR4s:R<w3.heap.size:=HR3.out.lt;have hR4l:R<w4.heap.size:=HR4.out.lt;have HOF:=gF hof;have hn2:w.heap.size<=w2.heap.size:=by omega
 clear hb4 hof HFQ HB3 HT3 HR3 HO;have Xc:Hid (∀(wc:World) (WY:Q02) (Wz:Nat) (L:Q04),Only R w4 wc->(∀x∈L,x.fits)->L.length<=115202->L.length<=Wz->kw wc WY L->UZ w (.returned (.tuple #[.slice Xk rs.length WV,.slice (some ⟨g,0,none⟩) ts.length c,.slice WY L.length Wz])) wc):=fun wc WY Wz L hO hf hl hc hs =>
  ⟨_,rs,g,c,ts,WY,Wz,L,rfl,WL.lower (HT4.out.only hb hO) hw,HG.out,hl9,HSH.out,hf,hl,hc,hs,dJ (oJ WG.out hs2 hO) hn2,Only.toBelow Xu.out hO Xu.out.size YU⟩
 obtain⟨n,hn⟩:∃n,n=(kF st rs ts).length:=⟨_,rfl⟩;have hn5:n<=115200:=by rw[hn,KQ];exact Y4
 have HDRAW:Hid (∀wc,Rd wc R ad len cap->Calls prog 50 #[.pointer (some ⟨R,0,none⟩)] wc fun e w'=>(∃f:Fc,e=.returned (.agg #[.string f.a,.string f.b,.string f.r,.string f.c,.string f.d])/\f.short)/\Rd w' R ad len cap/\Only R wc w'):=fun wc hR=>Qf R ad len cap wc hR;obtain⟨iF,h0,h1,h2,h3⟩:=pQ;have Zo:=gF (And.intro h0 (And.intro h1 (And.intro h2 h3)));have HFAR:Hid (0<len->∀b off,ad=some ⟨b,off,none⟩->b<w4.heap.size):=fun h0 b off e=>by
  obtain⟨b',off',e',-,hb',-⟩:=HR4.out.bytes h0;rw[e]at e';injection e' with e';injection e' with e1 e2;omega
 obtain⟨W5,Yb⟩:∃W5,W5=w4.alloc (.cells #[] 29):=⟨_,rfl⟩;have WU:Hid (W5.ownsRow w4.heap.size 29 5 (.slice (some ⟨w4.heap.size,0,none⟩) 0 0) ([]:Q04).length (av [])):=by
  show World.ownsRow _ _ _ _ _ _ _;rw[Yb];exact World.ownsRow_lit w4 #[] 0 (Va _) (by unfold maxLen;omega) (by simp)
 have WR:Hid (Rd W5 R ad len cap):=by show Rd _ _ _ _ _;rw[Yb];exact HR4.out.alloc _
 have WF:Hid (Only R w4 W5):=by show Only _ _ _;rw[Yb];exact(Only.refl _ _).alloc _
 rw[<-hn];have XR:=gF hn;clear h0 h1 h2 h3 HT4 WG Xu hn;by_cases hz:n=0
 case' pos =>
  have hd1:decide ((0:Int)<(n:Int))=false:=by simp;omega
  have hd2:decide (0<n)=false:=by simp;omega
  obtain⟨wj,hwj⟩:∃wj,wj=W5:=⟨_,rfl⟩;obtain⟨ks,hks⟩:∃ks:List Fc,ks=[]:=⟨_,rfl⟩;obtain⟨gK,hgK⟩:∃gK,gK=w4.heap.size:=⟨_,rfl⟩;obtain⟨capK,hcK⟩:∃capK:Nat,capK=0:=⟨_,rfl⟩;have HRJ:Hid (Rd wj R ad len cap):=by show Rd _ _ _ _ _;rw[hwj];exact WR.out
  have HOJ:Hid (Only R w4 wj):=by show Only _ _ _;rw[hwj];exact WF.out
  have HWJ:Hid (wj.ownsRow w4.heap.size 29 5 (.slice (some ⟨gK,0,none⟩) ks.length capK) ks.length (av ks)):=by show World.ownsRow _ _ _ _ _ _ _;rw[hwj,hks,hgK,hcK];exact WU.out
  have HKF:Hid (∀x∈ks,x.fits):=fun x hx=>by rw[hks]at hx;cases hx
  have hkl:ks.length<=115201:=by rw[hks];simp
  have HVE:Hid (Value.slice (some ⟨w4.heap.size,0,none⟩) 0 0=Value.slice (some ⟨gK,0,none⟩) ks.length capK):=by show _=_;rw[hgK,hks,hcK];rfl
  have HWW:=gF hwj;clear hks hgK hcK hwj;go_wp2_with fail;rw[<-Yb,HVE.out,<-HWW.out];clear Yb WU WR WF HVE HWW hd1 hd2
 case' neg =>
  have hd1:decide ((0:Int)<(n:Int))=true:=by simp;omega
  have hd2:decide (0<n)=true:=by simp;omega
  have Ye:=gF (Cm R ad len cap n W5 WR.out (by omega) (by omega));go_wp2_with fail;rw[<-Yb];clear Yb;refine Ye.out.mono ?_;rintro e w6 ⟨⟨x,rfl,hx⟩,hR6,Z7⟩;have Yw:=gF hR6;have HOS:=gF (WF.out.trans Z7);clear hR6 Z7 Ye WU WR WF;have h7:=HOF.out.kept HOS.out (.inr fun e=>by have:=(HOF.out.lt R e).1;omega);rw[<-XR.out]at h7;obtain⟨adX,capX,eX,hS7⟩:=gI (fs:=kF st rs ts) (by rw[<-XR.out];exact h7);injection eX with e1 e2 e3;subst e1;have hxl:x<(kF st rs ts).length:=by have:=XR.out;omega
  obtain⟨b,off,rfl,⟨t0,t1,t2,t3,t4⟩,hbl⟩:=kw.at0 hS7 hxl;obtain⟨f,hf⟩:∃f,f=(kF st rs ts)[x]:=⟨_,rfl⟩;have HIN:Hid (f∈aG st rs ts):=by show f∈_;rw[hf];exact(mP _).mem_iff.1 (U8 hxl)
  rw[<-hf]at t0 t1 t2 t3 t4;have hx1:=bC x;have hx2:(x:Int)<(n:Int):=by omega
  clear hf h7 e2 e3 hS7 hxl;go_wp2_with fail;refine(HPQ.out f _ (H34.out.trans HOS.out)).mono ?_;rintro e w7 ⟨hor,Z0⟩;have HB7:=gF Z0;rcases hor with⟨hno,-⟩|⟨k,hk,gK,capK,-,-,rfl,hown⟩
  ·rw[bP.2 HIN.out]at hno;cases hno
  obtain⟨hfe,hfm⟩:=Co (yS rs ts (aG st rs ts)) (aG st rs ts) k [f];obtain⟨ks,hks⟩:∃ks,ks=tX rs ts (aG st rs ts) f k:=⟨_,rfl⟩;have HRJ:=aD (Yw.out.below Z0);have HOJ:=aD (HOS.out.below Z0);have HWJ:Hid (w7.ownsRow w4.heap.size 29 5 (.slice (some ⟨gK,0,none⟩) ks.length capK) ks.length (av ks)):=by show World.ownsRow _ _ _ _ _ _ _;rw[hks];exact mg hown HOS.out.size
  have HKF:Hid (∀x∈ks,x.fits):=fun y hy=>by
   rw[hks]at hy;rcases hfm y hy with h|h
   ·exact WE.out y h
   rw[Vl.1 h];exact WE.out f HIN.out
  have hkl:ks.length<=115201:=by
   rw[hks];have h1:(tX rs ts (aG st rs ts) f k).length<=k+[f].length:=hfe;simp at h1;omega
  rw[<-hks];obtain⟨wj,hwj⟩:∃wj,wj=w7:=⟨_,rfl⟩;rw[<-hwj]at HRJ HOJ HWJ ⊢;clear hwj hks hfe hfm hown Z0 HB7 hk t0 t1 t2 t3 t4 hbl hx hx1 hx2 Yw HOS HIN hd1 hd2;go_wp2_with fail
 all_goals
  refine(bR R ad len cap 4 _ HRJ.out (by omega) (by omega)).mono ?_;rintro e w9 ⟨⟨y,rfl,hy0,hy4⟩,hR9,hO9⟩;have HR9:=gF hR9;have Zp:=gF (HOJ.out.trans hO9);have HW9:=gF (HWJ.out.kept hO9 (.inr fun e=>by have:=(HWJ.out.lt _ e).1;omega));have HC9:=gF (sN HW9.out);clear hR9 hO9 HRJ HOJ HWJ;by_cases y0:y=0
  ·subst y0;by_cases hk0:ks.length=0
   ·have hd1:decide ((0:Int)<(ks.length:Int))=false:=by rw[hk0];rfl
    have hd2:decide (0<ks.length)=false:=by rw[hk0];rfl
    replace hk0:=gF hk0;obtain⟨_,_,eX,hsX⟩:=gI HW9.out;injection eX with e1 e2 e3;subst e1;have HE:=gF (Xc.out w9 _ capK ks Zp.out HKF.out (by omega) HC9.out hsX);clear hsX e2 e3;go_wp2;exact bodyPost_ret (v:=.tuple #[.slice Xk rs.length WV,.slice (some ⟨g,0,none⟩) ts.length c,.slice (some ⟨gK,0,none⟩) ks.length capK]) (by simp[results,Tryz.results23,go_sem]) rfl HE.out
   have hd1:decide ((0:Int)<(ks.length:Int))=true:=by simp;omega
   have hd2:decide (0<ks.length)=true:=by simp;omega
   have Ye:=gF (Cm R ad len cap ks.length w9 HR9.out (by omega) (by omega));go_wp2_with fail;refine Ye.out.mono ?_;rintro e w10 ⟨⟨z,rfl,hz1⟩,hR10,Y0⟩;have Y3:=gF (Zp.out.trans Y0);have HW10:=gF (HW9.out.kept Y0 (.inr fun e=>by have:=(HW9.out.lt _ e).1;omega));have hcc:=HC9.out;have hq1:=bC z;have hq2:(z:Int)<=(ks.length:Int):=by omega
   have hq3:(ks.length:Int)<=(capK:Int):=by omega
   have hq4:¬(capK=z):=by omega
   have hq5:¬(z=capK):=by omega
   obtain⟨_,_,eX,hsX⟩:=gI HW10.out;injection eX with e1 e2 e3;subst e1;have hdl:(ks.drop z).length=ks.length-z:=Wd;have hE:=Xc.out w10 _ (capK-z) (ks.drop z) Y3.out (fun y hy=>HKF.out y (List.mem_of_mem_drop hy)) (by omega) (by omega) (hsX.dropG z);rw[hdl]at hE;have HE:=gF hE;clear hR10 Y0 hE hdl hsX e2 e3;go_wp2;exact bodyPost_ret (v:=.tuple #[.slice Xk rs.length WV,.slice (some ⟨g,0,none⟩) ts.length c,.slice (some ⟨gK,z*5,none⟩) (ks.length-z) (capK-z)]) (by simp[results,Tryz.results23,go_sem]) rfl HE.out
  by_cases y1:y=1
  ·subst y1;go_wp2_with fail;refine(HDRAW.out _ HR9.out).mono ?_;rintro e w10 ⟨⟨x,rfl,hsx⟩,-,Y0⟩;have XP:=gF hsx.fit;have Y3:=gF (Zp.out.trans Y0);have HW10:=gF (HW9.out.kept Y0 (.inr fun e=>by have:=(HW9.out.lt _ e).1;omega));clear hsx Y0 HW9 Zp HR9;obtain⟨w9,hw9⟩:∃w9,w9=w10:=⟨_,rfl⟩;rw[<-hw9]at Y3 HW10 ⊢;clear hw9;obtain⟨W7,YJ⟩:∃W7,W7=w9.alloc (.cells #[.string x.a,.string x.b,.string x.r,.string x.c,.string x.d] 29):=⟨_,rfl⟩;have HW7:Hid (W7.ownsRow w4.heap.size 29 5 (.slice (some ⟨gK,0,none⟩) ks.length capK) ks.length (av ks)):=by show World.ownsRow _ _ _ _ _ _ _;rw[YJ];exact HW10.out.alloc _
   have HN7:Hid (∀j u,x.row[j]?=some u->W7.cell? ((⟨w9.heap.size,0,none⟩:Addr).add j)=some u):=by rw[YJ];exact wM w9 x
   have Y8:Hid (Only R w4 W7):=by show Only _ _ _;rw[YJ];exact Y3.out.alloc _
   have hsz7:w4.heap.size<=W7.heap.size:=Y8.out.size;clear HW10 Y3;go_wp2_with(at_builtin;rw[<-YJ];clear YJ;refine wpList_append_own_at _ rfl _ _ 40 rfl w4.heap.size 29 iF (.agg #[.string ⟨#[]⟩,.string ⟨#[]⟩,.string ⟨#[]⟩,.string ⟨#[]⟩,.string ⟨#[]⟩]) 5 80 underlying40 Zo.out.1 Zo.out.2.1 Zo.out.2.2.1 Zo.out.2.2.2 rfl (by decide) _ ks.length (av ks) rfl HW7.out ⟨w9.heap.size,0,none⟩ 1 1 x.row rfl rfl HN7.out (by simp[Fc.row,Value.oneCell']) (by unfold maxLen;omega) (by omega) hsz7 ?_);intro v' w8 hown hgr _ _;have HW8:w8.ownsRow w4.heap.size 29 5 v' (ks++[x]).length (av (ks++[x])):=by
    rw[Vh,kC];exact hown
   have HO8:Only R w4 w8:=Y8.out.grownNew hgr fun g e=>(HW7.out.lt g e).1;have HK8:∀y∈ks++[x],y.fits:=fun y hy=>by
    rcases Vn.1 hy with h|h
    ·exact HKF.out y h
    obtain rfl:=Vl.1 h;exact XP.out
   obtain⟨adY,capY,rfl,hsY⟩:=gI HW8;obtain⟨gY,cY,eY⟩:=Q8 HW8 (by simp);injection eY with e1 e2 e3;subst e1;have HE:=gF (Xc.out w8 _ capY (ks++[x]) HO8 HK8 (by simp;omega) (sN HW8) hsY);clear hown hgr HW7 HN7 Y8 HW8 HO8 HK8 hsY e2 e3;go_wp2;exact bodyPost_ret (v:=.tuple #[.slice Xk rs.length WV,.slice (some ⟨g,0,none⟩) ts.length c,.slice (some ⟨gY,0,none⟩) (ks++[x]).length capY]) (by simp[results,Tryz.results23,go_sem]) rfl HE.out
  have hy5:(y==0)=false:=by simpa using y0
  have hy6:(y==1)=false:=by simpa using y1
  obtain⟨_,_,eX,hsX⟩:=gI HW9.out;injection eX with e1 e2 e3;subst e1;have HE:=gF (Xc.out w9 _ capK ks Zp.out HKF.out (by omega) HC9.out hsX);clear hsX e2 e3;go_wp2;exact bodyPost_ret (v:=.tuple #[.slice Xk rs.length WV,.slice (some ⟨g,0,none⟩) ts.length c,.slice (some ⟨gK,0,none⟩) ks.length capK]) (by simp[results,Tryz.results23,go_sem]) rfl HE.out
section
variable  [DecidableEq Fc]
def U0(st:Q00)(rs:Q06)(ts:Q05)(w:World)(e:Ending)(w':World):Prop :=
 ae w w'/\((aO (fP rs) rs ts=false/\e=.returned (.tuple #[.pointer none,.bool false])) \/
  (aO (fP rs) rs ts=true/\∃ (P D br bp bt nr np:Nat) (n1:Int) (Mr:KL->Option Value) (Er:List (KL×RR)) (Mp:K3->Option Value) (vo vu:Value) (Xq:Q02) (WC bK nK:Nat),e=.returned (.tuple #[.pointer (some ⟨P,0,none⟩),.bool true])/\PrM w' P D Xq WC (aG st rs ts) bK nK /\
   DatA w' rs D br bp bt n1 nr Mr Er (bn ts) (dN ts) (bQ ts) np Mp vo vu))
def KV(st:Q00)(rs:Q06)(ts:Q05)(w:World)(e:Ending)(w':World):Prop :=
 ae w w'/\((aO (fP rs) rs ts=false/\e=.returned (.tuple #[.pointer none,.bool false])) \/
  (aO (fP rs) rs ts=true/\∃ (P D br bp bt nr np:Nat) (n1:Int) (Mr:KL->Option Value) (Er:List (KL×RR)) (Mp:K3->Option Value) (vo vu:Value) (Xq:Q02) (WC bK nK:Nat),e=.returned (.tuple #[.pointer (some ⟨P,0,none⟩),.bool true])/\PrM w' P D Xq WC (aG st rs ts) bK nK /\
   DatA w' rs D br bp bt n1 nr Mr Er (bn ts) (dN ts) (bQ ts) np Mp vo vu/\(aG st rs ts).length<=WC))
theorem F5(st:Q00)(ad:Q02)(cap:Nat)(rs:Q06)(Wv:Q02)(cap':Nat)(ts:Q05)(w:af)(hlen:rs.length<=1048576)(hs:j5 w ad rs)(hl:∀r∈rs,r.light)(hfr:∀r∈rs,r.fits)(hcp:∀r∈rs,r.caps)(hlt:ts.length<=1048576)(hst:Sl w Wv ts)(hft:∀x∈ts,x.fits)(hle:aK (ag rs)=true->Least (ag rs) st):
  Calls prog 62 #[.slice ad rs.length cap,.slice Wv ts.length cap'] w (KV st rs ts w):=by
 have HC:=ai (BR (fP rs) ad cap rs Wv cap' ts w hlen hs hl hfr (wZ ad cap rs w hlen hs hl hfr hcp) (fun h t ht=>x8 h ht) hlt hst hft);have HS:=ai hs;have WE:=ai hft;have Yg:=ai hfr;have Xl:=ai hle;clear hs hl hfr hcp hst hft hle;go_enter func62,ntmps62;go_wp2_with fail;refine HC.out.mono ?_;rintro e w1 ⟨hb1,⟨hr,rfl⟩|⟨hr,D,br,bp,bt,nr,np,Mr,Mp,vo,vu,f,rfl,hbt,YP,XY⟩⟩
 ·have HP:Hid (KV st rs ts w (.returned (.tuple #[.pointer none,.bool false])) w1):=⟨hb1,.inl ⟨hr,rfl⟩⟩;clear hb1 HC hr;go_wp2;exact bodyPost_ret (v:=.tuple #[.pointer none,.bool false]) (by simp[results,Tryz.results62,go_sem]) rfl HP.out
 have hsd:aK (ag rs)=true/\ts.length<=40:=by
  unfold aO dI at hr;simp only[Vd,Vk]at hr;exact⟨hr.1.1,hr.1.2.1⟩
 obtain⟨hsd,ht40⟩:=hsd;have hSP:=aW.1 hsd;obtain⟨h6,Yr,-⟩:=bG hSP.1;have YO:=wR h6 Yr;have hfk:∀k∈au (ag rs),f k+1<=(au (ag rs)).length:=fun k hk=>by
  obtain⟨g,hg,hb⟩:=YP.sol.few (jO hSP.2.1);have h1:=YP.low k hk g hg;have h2:=hb k hk;omega
 have hc0:0<=gV (dH f rs):=(xm (dH f rs) 0).1;have hcl:gV (dH f rs)<=(au (ag rs)).length:=F4 _ _ _ (by omega) fun x hx=>by
  obtain⟨k,hk,e,-⟩:=Q6 hx;rw[e];exact hfk k hk
 obtain⟨N,hN⟩:∃N:Nat,gV (dH f rs)=N:=⟨(gV (dH f rs)).toNat,by omega⟩;have hkN:∀k∈au (ag rs),f k<(N:Int):=fun k hk=>by
  obtain⟨x,hx,e⟩:=LF (f:=f) hk;have h2:=(xm (dH f rs) 0).2 x hx;have h3:x.1.2+1<=gV (dH f rs):=h2;rw[e,hN]at h3;omega
 have hLs:lY (ag rs) ts f (dN ts) (bQ ts) N=aG st rs ts:=by
  rw[fQ hr];unfold pY;rw[<-sI (fun k hk=>YP.same (Xl.out hsd) k hk)];exact(Dx hkN _ (by omega)).symm
 rw [hN]at XY;have Xx:=ai (Ey w1 rs ad D br bp bt N nr Mr f ts (dN ts) (bQ ts) np Mp vo vu XY (HS.out.below hb1) (by omega) (by have:=kD ts;omega) (by have:=jm ts;omega) YO (fun k=>by
  have:(G.lookL (dH f rs) k).length<=(dH f rs).length:=Wi _ _;rw[LG]at this;omega) hSP.1 WE.out (by omega) (jo WE.out) (iL WE.out) (oP Yg.out))
 rw[hLs]at Xx;have hGO:=kZ f rs ts (dN ts) (bQ ts) N;rw[hLs]at hGO;have HB1:=ai hb1;have hll:=hGO.len (by have:=kD ts;omega) YO (by have:=jm ts;omega);have HFF:Hid (∀x∈aG st rs ts,x.fits):=fun x hx=>by
  have h1:=hGO.sub x hx;unfold BU at h1;obtain⟨o,ho,h1⟩:=Vp.1 h1;obtain⟨k,hk,h1⟩:=Vp.1 h1;obtain⟨u,hu,rfl⟩:=Vo.1 h1;exact⟨(jo WE.out o ho).1,(jo WE.out o ho).2,oP Yg.out k hk,(iL WE.out u hu).1,(iL WE.out u hu).2⟩
 obtain⟨L0,hL0⟩:∃L0,L0=aG st rs ts:=⟨_,rfl⟩;rw[<-hL0]at Xx hll HFF;have HL0:=ai hL0;have Zl:=ai XY;have HRI:=ai hr;clear HC hb1 XY YP hfk hc0 hcl hN hkN hLs hGO hSP hsd h6 Yr YO hr hbt hL0;go_wp2_with fail;refine Xx.out.mono ?_;rintro e w2 ⟨⟨v,rfl,hown⟩,hb2⟩;have HB2:=ai (HB1.out.trans (hb2.mono HB1.out.size));have HD2:=ai (Zl.out.below hb2);obtain⟨Xq,WC,rfl,hsF⟩:=gI hown;have hcp:=Lx hown;have HSF:=ai hsF;clear Xx hown hb2 HB1 Zl hsF;go_wp2_with fail;refine(CO Xq WC L0 _ (by omega) HSF.out HFF.out).mono ?_;rintro e w3 ⟨⟨bK,nK,rfl,hV⟩,hb3⟩;obtain⟨W4,WP⟩:∃W4,W4=w3.alloc (.cells #[.pointer (some ⟨D,0,none⟩),.slice Xq L0.length WC,.map (some bK)] 133):=⟨_,rfl⟩;have hb4:ae w3 W4:=by rw[WP];exact(Vb _ _).alloc (Va _) _
 have hb34:ae w2 W4:=hb3.trans (hb4.mono hb3.size);have HP:Hid (KV st rs ts w (.returned (.tuple #[.pointer (some ⟨w3.heap.size,0,none⟩),.bool true])) W4):=by
  refine⟨HB2.out.trans (hb34.mono HB2.out.size),.inr ⟨HRI.out,w3.heap.size,D,br,bp,bt,nr,np,_,Mr,_,Mp,vo,vu,Xq,WC,bK,nK,rfl,?_,HD2.out.below hb34,by rw[<-HL0.out];exact hcp⟩⟩;rw[<-HL0.out];exact⟨by rw[WP];simp,by rw[WP];simp,by rw[WP];simp,by rw[WP];simp,HSF.out.below hb34,hV.below hb4⟩
 clear hb3 hb4 hb34 hV;go_wp2;rw[<-WP];exact bodyPost_ret (v:=.tuple #[.pointer (some ⟨w3.heap.size,0,none⟩),.bool true]) (by simp[results,Tryz.results62,go_sem]) rfl HP.out
theorem F6(st:Q00)(ad:Q02)(cap:Nat)(rs:Q06)(Wv:Q02)(cap':Nat)(ts:Q05)(w:af)(hlen:rs.length<=1048576)(hs:j5 w ad rs)(hl:∀r∈rs,r.light)(hfr:∀r∈rs,r.fits)(hcp:∀r∈rs,r.caps)(hlt:ts.length<=1048576)(hst:Sl w Wv ts)(hft:∀x∈ts,x.fits)(hle:aK (ag rs)=true->Least (ag rs) st):
  Calls prog 62 #[.slice ad rs.length cap,.slice Wv ts.length cap'] w (U0 st rs ts w) :=
 (F5 st ad cap rs Wv cap' ts w hlen hs hl hfr hcp hlt hst hft hle).mono fun e w' ⟨hb,h⟩=>⟨hb,h.imp id fun⟨hr,P,D,br,bp,bt,nr,np,n1,Mr,Er,Mp,vo,vu,Xq,WC,bK,nK,he,h1,h2,_⟩=>⟨hr,P,D,br,bp,bt,nr,np,n1,Mr,Er,Mp,vo,vu,Xq,WC,bK,nK,he,h1,h2⟩⟩
theorem aP.kind{w:af}{S:Nat->Prop}{n:Nat}{v:Value}{G:Ru}(h:aP w S n v G):∃T a,v=.iface T a/\Tm T a:=by
 match n,h with
 | 0,h=>exact h.elim
 | n+1,h =>
  rcases h with⟨b,e,-⟩|⟨ad,cap,fs,e,-⟩|⟨ad,cap,Gs,e,-⟩|⟨ad,cap,Gs,e,-⟩
  ·exact⟨_,_,e,.inl ⟨rfl,_,rfl⟩⟩
  ·exact⟨_,_,e,.inr ⟨.inl rfl,_,_,_,rfl⟩⟩
  ·exact⟨_,_,e,.inr ⟨.inr (.inl rfl),_,_,_,rfl⟩⟩
  exact⟨_,_,e,.inr ⟨.inr (.inr rfl),_,_,_,rfl⟩⟩
theorem SI(xs:Array Value)(u:af):(callFunc 65 xs).run prog u=.ok (.enter 65 xs) u:=by kernel_rfl
theorem SK{w:af}{b n:Nat}{fs:Q04}(h:aM jf prog 29 w b n (uK fs)):KnF w 65 #[.map (some b)] #[] (bB fs) :=
 ⟨SI,fun x hx w1 hb=>by simpa using rD b n fs x w1 hx (h.below hb)⟩
theorem Q9{w:af}{T:TypeId}{a:Value}{S:Nat->Prop}{n:Nat}{G:Ru}{FC:Nat}{rc cp:Array Value}{K:Fc->Bool}(hr:aP w S n (.iface T a) G)(hK:KnF w FC rc cp K):Calls prog (KF T) #[a,.func (Fn.func FC) rc cp] w fun e w'=>e=.returned (.bool (G K))/\ae w w':=by
 obtain⟨T',a',e,-,hc⟩:=IC n w _ G hK hr;injection e with e1 e2;subst e1 e2;exact hc w (Vb _ _)
end
section
variable  [DecidableEq Fc]
end
section
variable  [DecidableEq Fc]
def lc(st:Q00)(rs:Q06)(ts:Q05)(L:Q04):Bool:=((aO (fP rs) rs ts&&decide (1<=L.length))&&decide (L.length<=200))&&ny rs ts (aG st rs ts) L L.length
theorem qo(st:Q00)(ad:Q02)(cap:Nat)(rs:Q06)(Wv:Q02)(cap':Nat)(ts:Q05)(WY:Q02)(Wz:Nat)(L:Q04)(w:af)(hlen:rs.length<=1048576)(hs:j5 w ad rs)(hl:∀r∈rs,r.light)(hfr:∀r∈rs,r.fits)(hlt:ts.length<=1048576)(hst:Sl w Wv ts)(hft:∀x∈ts,x.fits)(Y4:L.length<=1048576)(hcL:L.length<=Wz)(hL:kw w WY L)(YP:∀x∈L,x.fits)(hle:aK (ag rs)=true->Least (ag rs) st):
  Calls prog 25 #[.slice ad rs.length cap,.slice Wv ts.length cap',.slice WY L.length Wz] w fun e w'=>e=.returned (.bool (lc st rs ts L))/\ae w w':=by
 have hQl:=kE st (rs:=rs) (ts:=ts);have HRC:=ai (rO ad cap rs Wv cap' ts w hlen hs hl hfr hlt hst hft)
 have Zv:Hid (aO (fP rs) rs ts=true->(∀ W':World,ae w W'->Calls prog 57 #[.slice ad rs.length cap,.slice Wv ts.length cap'] W' fun e w'=>(∃ v,e=.returned v/\w'.ownsRow W'.heap.size 29 5 v (aG st rs ts).length (av (aG st rs ts)))/\ae W' w') /\
   (∀(W':World) (Xf:Q02) (WJ:Nat),ae w W'->kw W' Xf (aG st rs ts)->Calls prog 66 #[.slice ad rs.length cap,.slice Wv ts.length cap',.slice Xf (aG st rs ts).length WJ,.slice WY L.length Wz] W' fun e w'=>e=.returned (.bool (ny rs ts (aG st rs ts) L L.length))/\ae W' w')):=fun hr=>by
  have hsd:aK (ag rs)=true/\ts.length<=40:=by
   unfold aO dI at hr;simp only[Vd,Vk]at hr;exact⟨hr.1.1,hr.1.2.1⟩
  refine⟨fun W' hb=>?_,fun W' Xf WJ hb hsR=>?_⟩
  ·have:=sK st ad cap rs Wv cap' ts W' (aW.1 hsd.1) (hle hsd.1) (hs.below hb) hl hsd.2 (hst.below hb);rw[<-fQ hr]at this;exact this
  exact IQ ad cap rs Wv cap' ts Xf WJ (aG st rs ts) WY Wz L W' hlen (hs.below hb) hl (aW.1 hsd.1).1 hlt (hst.below hb) Y4 hcL (hL.below hb) YP (by omega) hsR
 clear hs hl hfr hst hft hle hL YP;go_enter func25,ntmps25;go_wp2_with fail;refine HRC.out.mono ?_;rintro e w1 ⟨rfl,hb1⟩;have HB1:=ai hb1;clear hb1 HRC;cases hr:aO (fP rs) rs ts;case false=>
  have HN:Hid (lc st rs ts L=false):=by show _=_;unfold lc;rw[hr];rfl
  clear Zv hr;go_wp2;go_ret;exact⟨by rw[HN.out];rfl,HB1.out⟩
 have HA:=ai (Zv.out hr).1;have H5:=ai (Zv.out hr).2;have HRI:=ai hr;clear Zv hr;by_cases h1:1<=L.length
 ·have hd1:(1:Int)<=(L.length:Int):=by omega
  by_cases h2:L.length<=200
  ·have hd2:(L.length:Int)<=200:=by omega
   have HE:Hid (lc st rs ts L=ny rs ts (aG st rs ts) L L.length):=by show _=_;unfold lc;rw[HRI.out,decide_eq_true h1,decide_eq_true h2];rfl
   obtain⟨Q,hQ⟩:∃Q,Q=aG st rs ts:=⟨_,rfl⟩;rw[<-hQ]at HA H5 hQl HE;clear hQ h1 h2;go_wp2_with fail;refine(HA.out _ HB1.out).mono ?_;rintro e w2 ⟨⟨v,rfl,hown⟩,hb2⟩;obtain⟨Xf,WJ,rfl,hsR⟩:=gI hown;have HSR:=ai hsR;have HB2:=ai (HB1.out.trans (hb2.mono HB1.out.size));clear hown hsR hb2;go_wp2_with fail;refine(H5.out _ _ _ HB2.out HSR.out).mono ?_;rintro e w3 ⟨rfl,hb3⟩;have HB3:=ai (HB2.out.trans (hb3.mono HB2.out.size));clear hb3;go_wp2;go_ret;exact⟨by rw[HE.out];rfl,HB3.out⟩
  have hd2:¬((L.length:Int)<=200):=by omega
  have HN:Hid (lc st rs ts L=false):=by show _=_;unfold lc;rw[decide_eq_false h2];simp
  go_wp2;go_ret;exact⟨by rw[HN.out];rfl,HB1.out⟩
 have hd1:¬((1:Int)<=(L.length:Int)):=by omega
 have HN:Hid (lc st rs ts L=false):=by show _=_;unfold lc;rw[decide_eq_false h1];simp
 go_wp2;go_ret;exact⟨by rw[HN.out];rfl,HB1.out⟩
theorem qp(st:Q00)(ad:Q02)(cap:Nat)(rs:Q06)(Wv:Q02)(cap':Nat)(ts:Q05)(WY:Q02)(Wz:Nat)(L:Q04)(w:af)(hlen:rs.length<=1048576)(hs:j5 w ad rs)(hl:∀r∈rs,r.light)(hfr:∀r∈rs,r.fits)(hcp:∀r∈rs,r.caps)(hlt:ts.length<=1048576)(hst:Sl w Wv ts)(hft:∀x∈ts,x.fits)(Y4:L.length<=1048576)(hL:kw w WY L)(YP:∀x∈L,x.fits)(hle:aK (ag rs)=true->Least (ag rs) st):
  Calls prog 24 #[.slice ad rs.length cap,.slice Wv ts.length cap',.slice WY L.length Wz] w fun e w'=>e=.returned (.bool (lc st rs ts L))/\ae w w':=by
 have HPC:=ai (F6 st ad cap rs Wv cap' ts w hlen hs hl hfr hcp hlt hst hft hle);have HS:=ai hs;have HL:=ai hL;have Z9:=ai YP;have WE:=ai hft;have hmm:=@run_makeMap prog;clear hs hl hfr hcp hst hft hle hL YP;go_enter func24,ntmps24;go_wp2_with fail;refine HPC.out.mono ?_;rintro e w1 ⟨hb1,⟨hr,rfl⟩|⟨hr,P,D,br,bp,bt,nr,np,n1,Mr,Er,Mp,vo,vu,Xq,WC,bK,nK,rfl,hP,hD⟩⟩
 ·have HN:Hid (lc st rs ts L=false):=by show _=_;unfold lc;rw[hr];rfl
  have HB1:=ai hb1;clear hb1 hr HPC;go_wp2;go_ret;exact⟨by rw[HN.out];rfl,HB1.out⟩
 have HB1:=ai hb1;have HS1:=ai (HS.out.below hb1);have HL1:=ai (HL.out.below hb1);have HP:=ai hP;have HD:=ai hD;have hsd:aK (ag rs)=true/\ts.length<=40:=by
  have hr2:=hr;unfold aO dI at hr2;simp only[Vd,Vk]at hr2;exact⟨hr2.1.1,hr2.1.2.1⟩
 have HSH:=ai (aW.1 hsd.1).1;have ht40:=hsd.2;have HR1:=ai hr;clear hb1 hr HPC hP hD hsd HS HL;by_cases h1:1<=L.length
 ·have hd1:¬((L.length:Int)<1):=by omega
  by_cases h2:L.length<=200
  ·have hd2:¬((200:Int)<(L.length:Int)):=by omega
   have HE:Hid (lc st rs ts L=ny rs ts (aG st rs ts) L L.length):=by show _=_;unfold lc;rw[HR1.out,decide_eq_true h1,decide_eq_true h2];rfl
   obtain⟨W0,hW0⟩:∃W0,W0=w1.alloc (.map #[] 0):=⟨_,rfl⟩;have HB0:=mi hW0;have Z8:Hid (aM jf prog 29 W0 w1.heap.size 0 (uK (L.take 0))):=by
    have h:=kr jf prog 29 w1;show aM _ _ _ _ _ _ _;rw[hW0];exact h
   have hz0:w1.heap.size<W0.heap.size:=by rw[hW0];simp
   obtain⟨Q,hQ⟩:∃Q,Q=aG st rs ts:=⟨_,rfl⟩;rw[<-hQ]at HE HP;clear h1 hQ;go_wp2_with fail;rw[<-hW0];clear hW0 hmm;go_loopw[33] (fun i wr=>∃k:Nat,k<=L.length/\i=.int .i64 k/\Hid (ny rs ts Q L k=true)/\Hid (aM jf prog 29 wr w1.heap.size k (uK (L.take k)))/\Hid (ae w1 wr)/\Hid (w1.heap.size<wr.heap.size)) (fun i _=>L.length-(intOf i).toNat);case atStart=>exact⟨0,Vf _,rfl,rfl,Z8,HB0,hz0⟩
   clear Z8 HB0 hz0;obtain⟨k,hk,rfl,HPK,HV,HB,HZ⟩:=hrel;by_cases hlk:k<L.length
   ·obtain⟨b,off,Wt,⟨t0,t1,t2,t3,t4⟩,hbl⟩:=kw.at0 (HL1.out.below HB.out) hlk;have hi1:=bC k;have hi2:(k:Int)<(L.length:Int):=by omega
    have HT:Hid (L.take (k+1)=L.take k++[L[k]]):=Ve hlk;have YS:=ai (EF rs ts Q hlk);have HHI:Hid ((okB L[k]&&oQ rs ts Q (L.take k) L[k])=false->ny rs ts Q L L.length=false):=IP rs ts Q hlk;have XP:=ai (Z9.out _ (U8 hlk));obtain⟨kl,hkl⟩:=vW L[k] XP.out;obtain⟨x,hx⟩:∃x,x=L[k]:=⟨_,rfl⟩;rw[<-hx]at t0 t1 t2 t3 t4 HT hkl YS HHI XP;have Xz:=ai hkl;clear hx hkl;obtain⟨W1,hW1⟩:∃W1,W1=wr.alloc (.cells #[.string x.a,.string x.b,.string x.r,.string x.c,.string x.d] 29):=⟨_,rfl⟩;have WZ:=mi hW1;have XK:Hid (W1.cell? ⟨wr.heap.size,0,none⟩=some (.string x.a)/\W1.cell? ⟨wr.heap.size,1,none⟩=some (.string x.b)/\W1.cell? ⟨wr.heap.size,2,none⟩=some (.string x.r)/\W1.cell? ⟨wr.heap.size,3,none⟩=some (.string x.c)/\W1.cell? ⟨wr.heap.size,4,none⟩=some (.string x.d)/\ae wr W1):=by
     refine⟨?_,?_,?_,?_,?_,WZ.out⟩<;>rw[hW1]<;>simp
    have Xx:=ai (KS x W1 XP.out);subst Wt;go_wp2_with fail;rw[<-hW1];clear hW1 t0 t1 t2 t3 t4;refine Xx.out.mono ?_;rintro e w2 ⟨rfl,hb2⟩;have Xh:=ai (uM XK.out hb2);clear hb2 Xx XK WZ;have HB2:=ai (HB.out.trans (Xh.out.2.2.2.2.2.mono HB.out.size));cases hq:okB x;case false=>
     rw[hq]at HHI;have HN:=ai (HHI.out rfl);have YM:Hid (ae w w2):=HB1.out.trans (HB2.out.mono HB1.out.size);go_wp2;go_ret;exact⟨by rw[HE.out,HN.out];rfl,YM.out⟩
    rw[hq]at HHI YS;have HRU:=ai (KT (f:=x) (HP.out.below HB2.out) (HD.out.below HB2.out) XP.out WE.out (by omega) HSH.out (HS1.out.below HB2.out));obtain⟨c0,c1,c2,c3,c4,-⟩:=Xh.out;clear hq;go_wp2_with fail;refine HRU.out.mono ?_;rintro e w3 ⟨⟨v,n,rfl,hru,-⟩,hb3⟩;have Zr:=ai (uM Xh.out hb3);have HB3:=ai (HB2.out.trans (hb3.mono HB2.out.size));have hV3:=HV.out.below Zr.out.2.2.2.2.2;obtain⟨T,a,rfl,hkd⟩:=hru.kind;have hm:=Cj hkd;have Yt:=ai (FX hkd);have HFC:=ai (Q9 hru (SK hV3));have HV3:=ai hV3;clear hru hb3 hkd hV3 HRU c0 c1 c2 c3 c4 Xh;go_wp2_with fail;rw[Yt.out,Oper.upon_enter];refine HFC.out.mono ?_;rintro e w4 ⟨rfl,hb4⟩;rw[NW];have HC4:=ai (uM Zr.out hb4);have Xu:=ai (HB3.out.trans (hb4.mono HB3.out.size));have HV4:=ai (HV3.out.below hb4);obtain⟨v,hv⟩:∃v,oQ rs ts Q (L.take k) x=v:=⟨_,rfl⟩;rw[hv]at YS HHI ⊢;clear hb4 hm Yt HFC HV3 Zr hv;cases v;case false=>
     have HN:=ai (HHI.out rfl);have YM:Hid (ae w w4):=HB1.out.trans (Xu.out.mono HB1.out.size);go_wp2;go_ret;exact⟨by rw[HE.out,HN.out];rfl,YM.out⟩
    have WB:Hid (ny rs ts Q L (k+1)=true):=by show _=_;rw[YS.out,HPK.out];rfl
    obtain⟨c0,c1,c2,c3,c4,-⟩:=HC4.out;have YH:w1.heap.size<w4.heap.size:=U9 HZ.out HC4.out.2.2.2.2.2.size;go_wp2_with(at_mapUpdate;refine jd _ rfl _ _ _ 107 rfl 29 113 E5 AO underlying107 w1.heap.size k _ rfl HV4.out (by unfold maxLen;omega) x kl rfl Xz.out (.agg #[]) rfl ?_);intro w5 hM5 hg5;have HV5:Hid (aM jf prog 29 w5 w1.heap.size (k+1) (uK (L.take (k+1)))):=by show aM _ _ _ _ _ _ _;rw[HT.out,<-FU];exact hM5
    have XH:Hid (ae w1 w5):=Xu.out.grown hg5 Xu.out.size (fun g hg=>by injection hg with hg;omega);have HZ5:Hid (w1.heap.size<w5.heap.size):=U9 YH hg5.size;clear hM5 hg5 c0 c1 c2 c3 c4;go_wp2;go_roundw;case rel=>exact⟨k+1,by omega,by go_num,WB,HV5,XH,HZ5⟩
    simp[intOf]<;>omega
   have HEE:Hid (lc st rs ts L=true):=by
    have e:k=L.length:=by omega
    show _=_;rw[HE.out,<-e];exact HPK.out
   have YM:Hid (ae w wr):=HB1.out.trans (HB.out.mono HB1.out.size);go_wp2;go_ret;exact⟨by rw[HEE.out];rfl,YM.out⟩
  have hd2:(200:Int)<(L.length:Int):=by omega
  have HN:Hid (lc st rs ts L=false):=by show _=_;unfold lc;rw[decide_eq_false h2];simp
  clear hmm;go_wp2;go_ret;exact⟨by rw[HN.out];rfl,HB1.out⟩
 have hd1:(L.length:Int)<1:=by omega
 have HN:Hid (lc st rs ts L=false):=by show _=_;unfold lc;rw[decide_eq_false h1];simp
 clear hmm;go_wp2;go_ret;exact⟨by rw[HN.out];rfl,HB1.out⟩
end
theorem yf{xs:Q0a}{o x:Al}:x∈bz xs o↔x∈xs\/x=o:=by
 unfold bz;split
 ·rename_i h;exact⟨.inl,fun h'=>h'.elim id fun e=>e ▸ PH.1 h⟩
 simp
theorem F7:∀(ts:Q05) (xs:Q0a) (o:Al),(o∈xs \/ ∃t∈ts,o=⟨t.a,t.b⟩\/o=⟨t.c,t.d⟩)->o∈ts.foldl fV xs
 | [],xs,o,h=>h.elim id fun⟨t,ht,_⟩=>by cases ht
 | t::ts,xs,o,h=>by
  refine F7 ts (fV xs t) o ?_;unfold fV;simp only[yf];rcases h with h|⟨u,hu,h⟩
  ·exact .inl (.inl (.inl h))
  rcases Vq.1 hu with rfl|hu
  ·rcases h with h|h
   ·exact .inl (.inl (.inr h))
   exact .inl (.inr h)
  exact .inr ⟨u,hu,h⟩
theorem LH:∀(ts:Q05) (xs:Q0a) (o:Al),(o∈xs \/ ∃t∈ts,t.s.toList.isEmpty=true/\o=⟨t.c,t.d⟩)->o∈ts.foldl df xs
 | [],xs,o,h=>h.elim id fun⟨t,ht,_⟩=>by cases ht
 | t::ts,xs,o,h=>by
  refine LH ts (df xs t) o ?_;rcases h with h|⟨u,hu,hs,h⟩
  ·refine .inl ?_;unfold df;split
   ·exact yf.2 (.inl h)
   exact h
  rcases Vq.1 hu with rfl|hu
  ·refine .inl ?_;unfold df;rw[if_pos (by simpa using hs)];exact yf.2 (.inr h)
  exact .inr ⟨u,hu,hs,h⟩
theorem p9{l:Q05}{es:Q09}{truth known:Q04}{f:Fc}(h5:∀e∈es,e.kind=5->e.kids≠[])(hkn:∀g∈known,(⟨g.a,g.b⟩:Al)∈dN l/\(⟨g.c,g.d⟩:Al)∈bQ l):∀(k n:Nat),dh l es truth f k known n=true->(⟨f.a,f.b⟩:Al)∈dN l/\(⟨f.c,f.d⟩:Al)∈bQ l
 | 0,n,h=>by cases h
 | k+1,n,h=>by
  unfold dh at h;cases e:es[n]? with
  | none=>rw[e]at h;cases h
  | some x =>
   rw[e]at h;simp only at h;by_cases k1:x.kind=1
   ·rw[if_pos k1]at h;unfold eQ at h;obtain⟨t,ht,h⟩:=VF.1 h;simp only[Vd,beq_iff_eq]at h;obtain⟨⟨⟨h1,h2⟩,h3⟩,h4⟩:=h;refine⟨F7 _ _ _ (.inr ⟨t,ht,.inl (by rw[gQ h1,gQ h2])⟩),?_⟩;split at h4
    ·rename_i hs;simp only[Vd,beq_iff_eq]at h4;exact LH _ _ _ (.inr ⟨t,ht,hs,by rw[gQ h4.1,gQ h4.2]⟩)
    exact(hkn _ (bP.1 h4)).2
   rw[if_neg k1]at h;by_cases k2:x.kind=2
   ·rw[if_pos k2]at h;have h2:=hkn _ (bP.1 h);exact h2
   rw[if_neg k2]at h;by_cases k3:x.kind=3
   ·rw[if_pos k3]at h;unfold gp at h;obtain⟨t,ht,h⟩:=VF.1 h;simp only[Vd,beq_iff_eq]at h;obtain⟨⟨⟨h1,h2⟩,h3⟩,h4⟩:=h;exact⟨F7 _ _ _ (.inr ⟨t,ht,.inl (by rw[gQ h1,gQ h2])⟩),(hkn _ (bP.1 h4)).2⟩
   rw[if_neg k3]at h;by_cases k4:x.kind=4
   ·rw[if_pos k4]at h;obtain⟨i,-,h⟩:=VF.1 h;exact p9 h5 hkn k _ h
   rw[if_neg k4]at h;by_cases k5:x.kind=5
   ·rw[if_pos k5]at h;obtain⟨i,hi⟩:=List.exists_mem_of_ne_nil _ (h5 x (We e) k5);exact p9 h5 hkn k _ (Vm.1 h i hi)
   rw[if_neg k5]at h;by_cases k6:x.kind=6
   ·rw[if_pos k6]at h;exact p9 h5 hkn k _ (Bool.and_eq_true_iff.1 h).1
   rw[if_neg k6]at h;cases h
theorem Ra{ts:Q05}(h:dI ts=true):∀t∈ts,t.ok=true:=fun t ht=>by
 unfold dI at h;simp only[Vd]at h;obtain⟨i,hi,rfl⟩:=VV ht;have h1:=h.2;unfold vJ at h1;have h2:=Vm.1 h1 i (by simpa using hi);unfold xx at h2;rw[Vg hi]at h2;exact(Bool.and_eq_true_iff.1 h2).1
section
variable  [DecidableEq Fc]
theorem IR(ts:Q0b)(l:Q05)(st:Q00)(xo xu:Q0a):∀N,lY ts l st xo xu N=vY (fU ts l) (fun n=>cZ ts st xo xu (n:Int)) N
 | 0=>rfl
 | N+1=>by rw[jy,IR ts l st xo xu N];rfl
theorem NZ{rs:Q06}(hsh:bq (ag rs)=true)(a r:bW):∀e∈aB (ag rs) a r,e.kind=5->e.kids≠[]:=by
 intro e he k5;cases hp:eD (ag rs) a r with
 | none=>unfold aB at he;rw[hp]at he;cases he
 | some es =>
  unfold aB at he;rw[hp]at he;obtain⟨t0,ht0,r0,hr0,en,er,ee⟩:=qM hp;have hspec:=(AA hsh ht0 hr0).2;rw[ee]at hspec;have h4:es.all ay=true:=by simp only[aN,Vd]at hspec;exact hspec.1.1.1.2
  have:=Vm.1 h4 e he;unfold ay at this;rw[if_neg (by omega),if_neg (by omega),if_neg (by omega),if_pos (.inr k5)]at this;simp only[Vd,Vk]at this;intro h0;rw[h0]at this;simp at this
theorem F8{st:Q00}{rs:Q06}{ts:Q05}(hle:aK (ag rs)=true->Least (ag rs) st)(hr:aO (fP rs) rs ts=true)(f:Fc):bB (aG st rs ts) f=fU (ag rs) ts (aG st rs ts) f:=by
 have hr2:=hr;unfold aO at hr2;simp only[Vd]at hr2;have hSP:=aW.1 hr2.1.1;have X7:=hle hr2.1.1;have hfit:∀t∈ts,Pj (ag rs) t=true:=fun t ht=>by
  have h1:=Vm.1 hr2.2 t ht;rw[<-x8 hr2.1.1 (Ra hr2.1.2 t ht)]at h1;exact h1
 have hL:=Fb X7.sol hSP.1 hSP.2.1 hfit;have hen:∀k∈au (ag rs),hasB (ag rs) k.1 k.2=true:=fun k hk=>by
  obtain⟨es,h1,h2⟩:=Iy hSP.1 hk;rw[GY];unfold aB;rw[h1];intro e;have e2:es=[]:=e;rw[e2]at h2;simp[aN]at h2
 have hq:∀n:Nat,∀g∈cZ (ag rs) st (dN ts) (bQ ts) (n:Int),Rc (ag rs) st g=(n:Int):=fun n g hg=>JH hen hg;have hsub:∀g∈aG st rs ts,(⟨g.a,g.b⟩:Al)∈dN ts/\(⟨g.c,g.d⟩:Al)∈bQ ts:=fun g hg=>by
  rw[fQ hr]at hg;have h1:=(kZ st rs ts (dN ts) (bQ ts) _).sub g hg;unfold BU at h1;obtain⟨o,ho,h1⟩:=Vp.1 h1;obtain⟨k,hk,h1⟩:=Vp.1 h1;unfold jl at h1;obtain⟨u,hu,rfl⟩:=Vo.1 h1;exact⟨ho,hu⟩
 rw[Vu,bP];have e:aG st rs ts=vY (fU (ag rs) ts) (fun n=>cZ (ag rs) st (dN ts) (bQ ts) (n:Int)) ((au (ag rs)).length+1):=by
  rw[fQ hr];exact IR _ _ _ _ _ _
 constructor
 ·intro h;rw[e]at h ⊢;exact Mw hL hq h
 intro h;obtain⟨ho,hu⟩:=p9 (NZ hSP.1 f.a f.r) hsub _ _ h;have hne:aB (ag rs) f.a f.r≠[]:=fun h0=>by
  unfold fU at h;rw[h0]at h;cases h
 have hk:(f.a,f.r)∈au (ag rs):=rV (by simpa using hne);have hp:=X7.sol.pos (f.a,f.r);have hlt:st (f.a,f.r)<((au (ag rs)).length:Int):=by
  refine Classical.byContradiction fun hc=>?_;exact absurd ⟨st,X7.sol⟩ (Jn (jO hSP.2.1) hk (X7.low _ hk) (by omega))
 rw[e]at h ⊢;refine Pi hL hq (n:=(st (f.a,f.r)).toNat) (by omega) ?_ h;unfold cZ vQ AC jl;refine Vp.2 ⟨_,ho,Vp.2 ⟨(f.a,f.r),V6.2 ⟨hk,?_⟩,Vo.2 ⟨_,hu,rfl⟩⟩⟩;simp only[BEq.rfl,Bool.true_and,Vk];omega
end
theorem yg{x y:Q04}{f:Fc}(h:∀g∈x,g∈y)(hf:bB x f=true):bB y f=true:=bP.2 (h f (bP.1 hf))
theorem Cq{α:Type}{p q:α->Bool}{xs:List α}(h:∀x,p x=true->q x=true)(ha:xs.any p=true):xs.any q=true:=by
 obtain⟨x,hx,hp⟩:=VF.1 ha;exact VF.2 ⟨x,hx,h x hp⟩
theorem qc{l:Q05}{es:Q09}{truth:Q04}{f:Fc}:∀(k:Nat) (x y:Q04) (n:Nat),(∀g∈x,g∈y)->dh l es truth f k x n=true->dh l es truth f k y n=true
 | 0,_,_,_,_,h=>by cases h
 | k+1,x,y,n,hs,h=>by
  unfold dh at h⊢;cases e:es[n]? with
  | none=>rw[e]at h;cases h
  | some q =>
   rw[e]at h;simp only at h⊢;by_cases k1:q.kind=1
   ·rw[if_pos k1]at h⊢;unfold eQ at h⊢;refine Cq (fun t ht=>?_) h;simp only[Vd]at ht⊢;refine⟨ht.1,?_⟩;have h2:=ht.2;split at h2
    ·rename_i he;rw[if_pos he];exact h2
    rename_i he;rw[if_neg he];exact yg hs h2
   rw[if_neg k1]at h ⊢;by_cases k2:q.kind=2
   ·rw[if_pos k2]at h ⊢;exact yg hs h
   rw[if_neg k2]at h ⊢;by_cases k3:q.kind=3
   ·rw[if_pos k3]at h⊢;unfold gp at h⊢;refine Cq (fun t ht=>?_) h;simp only[Vd]at ht⊢;exact⟨ht.1,yg hs ht.2⟩
   rw[if_neg k3]at h ⊢;by_cases k4:q.kind=4
   ·rw[if_pos k4]at h ⊢;exact Cq (fun i hi=>qc k x y _ hs hi) h
   rw[if_neg k4]at h ⊢;by_cases k5:q.kind=5
   ·rw[if_pos k5]at h ⊢;rw[Vm]at h ⊢;exact fun i hi=>qc k x y _ hs (h i hi)
   rw[if_neg k5]at h ⊢;by_cases k6:q.kind=6
   ·rw[if_pos k6]at h ⊢;simp only[Vd]at h ⊢;exact⟨qc k x y _ hs h.1,h.2⟩
   rw[if_neg k6]at h;cases h
theorem N7{rs:Q06}{ts:Q05}{truth x y:Q04}{f:Fc}(hs:∀g∈x,g∈y)(h:oQ rs ts truth x f=true):oQ rs ts truth y f=true:=qc _ _ _ _ hs h
section
variable  [DecidableEq Fc]
theorem F9{st:Q00}{rs:Q06}{ts:Q05}{known:Q04}{f:Fc}(hle:aK (ag rs)=true->Least (ag rs) st)(hr:aO (fP rs) rs ts=true)(h:oQ rs ts (aG st rs ts) known f=true)(hk:∀g∈known,bB (aG st rs ts) g=true):bB (aG st rs ts) f=true:=by
 rw[F8 hle hr];exact N7 (fun g hg=>bP.1 (hk g hg)) h
end
section
variable  [DecidableEq Fc]
theorem uN{st:Q00}{rs:Q06}{ts:Q05}{L:Q04}(h:lc st rs ts L=true):aO (fP rs) rs ts=true/\1<=L.length/\L.length<=200/\∀i (hi:i<L.length),okB L[i]=true/\oQ rs ts (aG st rs ts) (L.take i) L[i]=true:=by
 unfold lc at h;simp only[Vd,Vk]at h;refine⟨h.1.1.1,h.1.1.2,h.1.2,fun i hi=>?_⟩;have h2:=h.2;unfold ny at h2;have h3:=Vm.1 h2 i (List.mem_range.2 hi);rw[Vg hi]at h3;simpa using h3
theorem N8{st:Q00}{rs:Q06}{ts:Q05}{L:Q04}(hle:aK (ag rs)=true->Least (ag rs) st)(h:lc st rs ts L=true):∀i (hi:i<L.length),bB (aG st rs ts) L[i]=true:=by
 obtain⟨hr,-,-,hp⟩:=uN h;intro i
 induction i using Nat.strongRecOn with
 | ind i ih =>
  intro hi;refine F9 hle hr (hp i hi).2 fun g hg=>?_;obtain⟨j,hj,rfl⟩:=VV hg;rw[Vz]at hj;rw[List.getElem_take];exact ih j (by omega) (by omega)
theorem Rb{st:Q00}{rs:Q06}{ts:Q05}{L:Q04}(h:lc st rs ts L=true){n:Nat}(h1:1<=n)(h2:n<=L.length):lc st rs ts (L.take n)=true:=by
 obtain⟨hr,-,hl,hp⟩:=uN h;have e:(L.take n).length=n:=by rw[Vz];omega
 unfold lc;rw[e,hr,decide_eq_true h1,decide_eq_true (show n<=200 by omega)];simp only[Bool.true_and];unfold ny;rw[Vm];intro i hi;have hi2:=List.mem_range.1 hi;rw[List.getElem?_take,if_pos hi2,Vg (by omega)];simp only;rw[List.take_take,Nat.min_eq_left (by omega),(hp i (by omega)).1,(hp i (by omega)).2];rfl
end
end Go.Proofs.YtajkkeikihhejaaGreat
