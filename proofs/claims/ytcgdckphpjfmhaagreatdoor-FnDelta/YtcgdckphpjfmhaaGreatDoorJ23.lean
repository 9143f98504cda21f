/- A change of data, as the program does it: right data are asked first. -/
import Derived.Test.YtcgdckphpjfmhaaGreatDoorSq
import Derived.Test.YtcgdckphpjfmhaaGreatDoorJ20
import Derived.Test.YtcgdckphpjfmhaaGreatDoorJ16
import Derived.Test.YtcgdckphpjfmhaaGreatDoorJ21
import Derived.Maps.OwnIn
open Go.Proofs.Tryz
set_option maxHeartbeats 80000000
namespace Go.Proofs.YtcgdckphpjfmhaaGreatDoor
set_option maxRecDepth 100000
set_option linter.unusedVariables false
open ChangeShapes WideShapes ChangeAt RowKit Maps
open Pl
theorem KW{fit:Tp->Bool}{ts:Q05}{k:Int}{t:Tp}(h:bn fit ts k t≠0):2<=bn fit ts k t/\bn fit ts k t<=6:=by
 unfold bn at h⊢
 repeat' split at h
 all_goals(repeat' split)
 all_goals simp_all
theorem Rn{w W w':ae}{D g:Nat}{y x0 x1 x2 x3 x4 x5 x6:Value}(h:W.cell? ⟨D,0,none⟩=some y/\W.cell? ⟨g,0,none⟩=some x0/\W.cell? ⟨g,1,none⟩=some x1/\W.cell? ⟨g,2,none⟩=some x2/\W.cell? ⟨g,3,none⟩=some x3/\W.cell? ⟨g,4,none⟩=some x4/\W.cell? ⟨g,5,none⟩=some x5/\W.cell? ⟨g,6,none⟩=some x6/\D<W.heap.size/\g<W.heap.size/\af w W)(hb:af W w'):w'.cell? ⟨D,0,none⟩=some y/\w'.cell? ⟨g,0,none⟩=some x0/\w'.cell? ⟨g,1,none⟩=some x1/\w'.cell? ⟨g,2,none⟩=some x2/\w'.cell? ⟨g,3,none⟩=some x3/\w'.cell? ⟨g,4,none⟩=some x4/\w'.cell? ⟨g,5,none⟩=some x5/\w'.cell? ⟨g,6,none⟩=some x6/\D<w'.heap.size/\g<w'.heap.size/\af w w':=by
 obtain⟨h0,g0,g1,g2,g3,g4,g5,g6,hn,hm,hB⟩:=h;have hc:∀o,w'.cell? ⟨D,o,none⟩=W.cell? ⟨D,o,none⟩:=fun o=>hb.cell (p:=⟨D,o,none⟩) hn;have hd:∀o,w'.cell? ⟨g,o,none⟩=W.cell? ⟨g,o,none⟩:=fun o=>hb.cell (p:=⟨g,o,none⟩) hm;exact⟨(hc _).trans h0,(hd _).trans g0,(hd _).trans g1,(hd _).trans g2,(hd _).trans g3,(hd _).trans g4,(hd _).trans g5,(hd _).trans g6,VY hn hb.size,VY hm hb.size,hB.trans (hb.mono hB.size)⟩
def UZ(fit:Tp->Bool)(rs:Q06)(a:Nat->Addr)(w:World)(ts:Q05)(k:Int)(t:Tp)(e:Ending)(w':World):Prop :=
 af w w'/\((bu fit rs ts=false/\e=.returned (.tuple #[.slice none 0 0,.iface 350 (.pointer (some (a 0)))])) \/
  (bu fit rs ts=true/\bn fit ts k t=0/\∃v,e=.returned (.tuple #[v,.nilIface])/\w'.ownsRow w.heap.size 29 6 v (gm ts k t).length (aF (gm ts k t))) \/
  (bu fit rs ts=true/\∃(g p:Nat) (v:Value),bn fit ts k t=g/\2<=g/\g<=6/\e=.returned (.tuple #[.slice none 0 0,.iface 76 (.pointer (some ⟨p,0,none⟩))])/\w.heap.size<=p/\w'.cell? ⟨p,0,none⟩=some (.iface 350 (.pointer (some (a g))))/\w'.cell? ⟨p,1,none⟩=some v/\w'.ownsRow w.heap.size 29 6 v ts.length (aF ts)))
theorem IG(fit:Tp->Bool)(a:Nat->Addr)(ad:Q02)(cap:Nat)(rs:Q06)(XB:Q02)(cap':Nat)(ts:Q05)(k:Int)(t:Tp)(w:ae)(hE:ErrsD w a)(hlen:rs.length<=1048576)(hs:lc w ad rs)(hl:∀r∈rs,r.light)(hfr:∀r∈rs,r.fits)(hC:∀w1:World,af w w1->Calls prog 78 #[.slice ad rs.length cap] w1 (Kw (ag rs) w1))(hfb:aD (ag rs)=true->∀t:Tp,t.ok=true->o7 (ag rs) t.a t.r ⟨t.c,t.s⟩=fit t)(hlt:ts.length<=1048576)(hst:Sv w XB cap' ts)(hft:∀x∈ts,x.fits)(ht:t.fits):
  Calls prog 38 #[.slice ad rs.length cap,.slice XB ts.length cap',.agg #[.int .i64 k,.string t.a,.string t.b,.string t.r,.string t.c,.string t.d,.string t.s]] w (UZ fit rs a w ts k t):=by
 have HE:=aG hE;have HS:=aG hs;have HL:=aG hl;have Zq:=aG hfr;have HC:=aG hC;have HFB:=aG hfb;have HST:=aG hst;have XC:=aG hft;have HT:=aG ht;clear hE hs hl hfr hC hfb hst hft ht;obtain⟨W0,hW0⟩:∃W0,W0=w.alloc (.cells #[.int .i64 k,.string t.a,.string t.b,.string t.r,.string t.c,.string t.d,.string t.s] 31):=⟨_,rfl⟩;have HX0:Hid (oC W0 w.heap.size k t):=by show oC _ _ _ _;rw[hW0];refine⟨?_,?_,?_,?_,?_,?_,?_,?_⟩<;>simp
 have HB0:=nC hW0;have hw0:w.heap.size<W0.heap.size:=by rw[hW0];simp
 go_enter func38,ntmps38;go_wp2_with fail;rw[<-hW0];clear hW0;refine(BQ fit ad cap rs XB cap' ts W0 hlen (HS.out.below HB0.out) HL.out Zq.out (HC.out W0 HB0.out) HFB.out hlt (HST.out.below HB0.out).sl XC.out).mono ?_;rintro e w1 ⟨hb1,hor⟩;have HB1:=aG (HB0.out.trans (hb1.mono HB0.out.size));have Yo:=aG (HX0.out.below hb1);have HE1:=aG (HE.out.below HB1.out);rcases hor with⟨hr,rfl⟩|⟨hr,D,br,bp,bt,nr,np,Mr,Mp,vo,vu,f,rfl,hbt,hLs,YN⟩
 ·have HR:=aG hr;obtain⟨-,c0,-⟩:=HE1.out.cell 0 (by omega) (by omega);clear hb1 hr;go_wp2_with fail;go_quiet (fail);go_wp2;exact bodyPost_ret (v:=.tuple #[.slice none 0 0,.iface 350 (.pointer (some (a 0)))]) (by simp[results,Tryz.results38,go_sem]) rfl ⟨below_drewN HB1.out _,.inl ⟨HR.out,rfl⟩⟩
 have HR:=aG hr;obtain⟨hsd,htu,-⟩:=BL (fit:=fit) (sok:=aD (ag rs)) (ts:=ts) hr;have HU:=aG (GU htu);have HSD:=aG hsd;have HTAB:=aG (xk (bG.1 hsd).1);have Z8:=aG YN;obtain⟨x0,x1,x2,x3,x4,x5,x6,xl⟩:=Yo.out;have H0:Hid ((fun w'=>w'.cell? ⟨D,0,none⟩=some (.map (some bt))/\w'.cell? ⟨w.heap.size,0,none⟩=some (.int .i64 k)/\w'.cell? ⟨w.heap.size,1,none⟩=some (.string t.a)/\w'.cell? ⟨w.heap.size,2,none⟩=some (.string t.b)/\w'.cell? ⟨w.heap.size,3,none⟩=some (.string t.r)/\w'.cell? ⟨w.heap.size,4,none⟩=some (.string t.c)/\w'.cell? ⟨w.heap.size,5,none⟩=some (.string t.d)/\w'.cell? ⟨w.heap.size,6,none⟩=some (.string t.s)/\D<w'.heap.size/\w.heap.size<w'.heap.size/\af w1 w') w1.drew):=⟨YN.dat.c0,x0,x1,x2,x3,x4,x5,x6,YN.dat.lt,xl,(V5 _ _).drew⟩;have Ya:Hid (∀W',(fun w'=>w'.cell? ⟨D,0,none⟩=some (.map (some bt))/\w'.cell? ⟨w.heap.size,0,none⟩=some (.int .i64 k)/\w'.cell? ⟨w.heap.size,1,none⟩=some (.string t.a)/\w'.cell? ⟨w.heap.size,2,none⟩=some (.string t.b)/\w'.cell? ⟨w.heap.size,3,none⟩=some (.string t.r)/\w'.cell? ⟨w.heap.size,4,none⟩=some (.string t.c)/\w'.cell? ⟨w.heap.size,5,none⟩=some (.string t.d)/\w'.cell? ⟨w.heap.size,6,none⟩=some (.string t.s)/\D<w'.heap.size/\w.heap.size<w'.heap.size/\af w1 w') W'->Calls prog 52 #[.map (some bt),.slice XB ts.length cap',.agg #[.int .i64 k,.string t.a,.string t.b,.string t.r,.string t.c,.string t.d,.string t.s]] W' (TW W' fit ts k t)):=fun W' hS'=>by
  have hb':=hS'.2.2.2.2.2.2.2.2.2.2;have hBw':af w W':=HB1.out.trans (hb'.mono HB1.out.size);refine Ir (.map (some bt)) fit XB cap' ts k t W' (HE.out.below hBw').errs (fun w5 hok hb5=>?_) HU.out.2.2 (HST.out.below hBw') XC.out HU.out.1 HU.out.2.1 HT.out;refine(Hm bt 36 rs ad (tC rs) t.a t.b t.r t.c t.d t.s w5 ((Z8.out.tab.below hb').below hb5) HTAB.out (HS.out.below (hBw'.trans (hb5.mono hBw'.size))) HL.out HT.out.1 HT.out.2.2.1).mono ?_;rintro e w6 ⟨rfl,hb6⟩;exact⟨by rw[HFB.out HSD.out t hok],hb6⟩
 clear x0 x1 x2 x3 x4 x5 x6 hb1 hr YN hsd htu hLs;by_cases hz:bn fit ts k t=0
 ·have HZ:=aG hz;go_wp2_with fail
  go_region_held3 (fun w'=>w'.cell? ⟨D,0,none⟩=some (.map (some bt))/\w'.cell? ⟨w.heap.size,0,none⟩=some (.int .i64 k)/\w'.cell? ⟨w.heap.size,1,none⟩=some (.string t.a)/\w'.cell? ⟨w.heap.size,2,none⟩=some (.string t.b)/\w'.cell? ⟨w.heap.size,3,none⟩=some (.string t.r)/\w'.cell? ⟨w.heap.size,4,none⟩=some (.string t.c)/\w'.cell? ⟨w.heap.size,5,none⟩=some (.string t.d)/\w'.cell? ⟨w.heap.size,6,none⟩=some (.string t.s)/\D<w'.heap.size/\w.heap.size<w'.heap.size/\af w1 w')
   (first|assumption|exact Rn (by assumption) hbx|exact H0.out)
   (first|(go_at_call 52;refine(Ya.out _ (by assumption)).mono ?_;rintro e w' ⟨hbx,⟨-,v,rfl,hown⟩|⟨hnz,-⟩⟩;rotate_left;exact absurd HZ.out hnz))
  have HBE:Hid (af w w'):=HB1.out.trans ((V5 _ _).drew.trans hbx |>.mono HB1.out.size);have HO:=aG (jK hown HB1.out.size);clear hbx hown;go_wp2;exact bodyPost_ret (v:=.tuple #[v,.nilIface]) (by simp[results,Tryz.results38,go_sem]) rfl ⟨HBE.out,.inr (.inl ⟨HR.out,HZ.out,v,rfl,HO.out⟩)⟩
 have HZ:=aG hz;have hrg:=KW hz;obtain⟨gc,hgc⟩:∃gc:Nat,bn fit ts k t=gc:=⟨(bn fit ts k t).toNat,by omega⟩;go_wp2_with fail
 go_region_held3 (fun w'=>w'.cell? ⟨D,0,none⟩=some (.map (some bt))/\w'.cell? ⟨w.heap.size,0,none⟩=some (.int .i64 k)/\w'.cell? ⟨w.heap.size,1,none⟩=some (.string t.a)/\w'.cell? ⟨w.heap.size,2,none⟩=some (.string t.b)/\w'.cell? ⟨w.heap.size,3,none⟩=some (.string t.r)/\w'.cell? ⟨w.heap.size,4,none⟩=some (.string t.c)/\w'.cell? ⟨w.heap.size,5,none⟩=some (.string t.d)/\w'.cell? ⟨w.heap.size,6,none⟩=some (.string t.s)/\D<w'.heap.size/\w.heap.size<w'.heap.size/\af w1 w')
  (first|assumption|exact Rn (by assumption) hbx|exact H0.out)
  (first|(go_at_call 52;refine(Ya.out _ (by assumption)).mono ?_;rintro e w' ⟨hbx,⟨h0,-⟩|⟨-,g,T,u,v,rfl,hgp,hc0,hcE,hc1,hown⟩⟩;exact absurd h0 HZ.out))
 have HBE:Hid (af w w'):=HB1.out.trans ((V5 _ _).drew.trans hbx |>.mono HB1.out.size);have HO:=aG (jK hown HB1.out.size);have Z9:Hid (w'.cell? ⟨g,0,none⟩=some (.iface 350 (.pointer (some (a gc))))):=by
  show _=_;have h1:=(HE1.out.cell gc (by omega) (by omega)).2.1;have h2:w1.cell? ⟨gc,0,none⟩=some (.iface T u):=by rw[hgc,Int.toNat_natCast]at hcE;exact hcE
  rw[hc0,<-h2,h1]
 have Yl:=aG hc1;have HGC:=aG hgc;have hgp':w.heap.size<=g:=Wh HB1.out.size hgp;have hg2:2<=gc/\gc<=6:=by omega
 clear hbx hown hc0 hcE hc1 hgc hrg hz hgp;go_wp2;exact bodyPost_ret (v:=.tuple #[.slice none 0 0,.iface 76 (.pointer (some ⟨g,0,none⟩))]) (by simp[results,Tryz.results38,go_sem]) rfl ⟨HBE.out,.inr (.inr ⟨HR.out,gc,g,v,HGC.out,hg2.1,hg2.2,rfl,hgp',Z9.out,Yl.out,HO.out⟩)⟩
def Ro(ts:Q0b)(t:Tp):Bool:=!pF ts t.a t.b t.r t.c t.d t.s
theorem LU{w:ae}{base n:Nat}{v:Value}{ts:Q05}(h:w.ownsRow base 29 6 v n (aF ts))(hn:n=ts.length):∃ad cap,v=.slice ad ts.length cap/\H7 base w ad ts:=by
 obtain⟨ad,cap,hv,hsl,hg⟩:=GQ h hn;refine⟨ad,cap,hv,hsl,fun hne=>?_⟩;rcases h.2 with⟨rfl,h0⟩|⟨g,cap',cur,rfl,hbg,-⟩
 ·rw[hn]at h0;exact absurd (Wu.1 h0) hne
 injection hv with e1 e2 e3;exact⟨g,e1.symm,hbg,(hg g e1.symm).2.2⟩
theorem Og{rs:Q06}{t:Tp}(h:aD (ag rs)=true)(ht:t.ok=true):o7 (ag rs) t.a t.r ⟨t.c,t.s⟩=!Ro (ag rs) t:=by
 have hSP:=bG.1 h;have h1:o7 (ag rs) t.a t.r ⟨t.c,t.s⟩=dR (aW (aM (ag rs) t.a t.r)) (aW (aM (ag rs) t.a t.r)).length ⟨t.c,t.s⟩:=Ce _ (LM hSP _ _);have h2:bz t.a t.b t.r t.c t.d t.s=true:=ht;rw[h1];unfold Ro pF;rw[h2];simp
def Oh(rs:Q06)(t:Tp):Bool:=pF (ag rs) t.a t.b t.r t.c t.d t.s
theorem Oi{rs:Q06}{t:Tp}(h:aD (ag rs)=true)(ht:t.ok=true):o7 (ag rs) t.a t.r ⟨t.c,t.s⟩=Oh rs t:=by
 rw[Og h ht];unfold Ro Oh;simp
theorem U0{w:ae}{base:Nat}{v:Value}{ts:Q05}(h:w.ownsRow base 29 6 v ts.length (aF ts)):∃ad cap,v=.slice ad ts.length cap/\Sv w ad cap ts:=by
 have h':=h;rcases h.2 with⟨rfl,h0⟩|⟨g,cap,cur,rfl,hb,hg,hc,-⟩
 ·exact⟨none,0,by rw[h0],.inl ⟨rfl,rfl,Wu.1 h0⟩⟩
 obtain⟨hrow,hl,hle⟩:=QA h';exact⟨_,cap,rfl,.inr ⟨g,0,rfl,hl,hle,hrow⟩⟩
theorem Tc{fit:Tp->Bool}{rs:Q06}{ts:Q05}{k:Int}{t:Tp}(h:bu fit rs ts=false):wF fit (aD (ag rs)) ts k t=1/\qp fit (aD (ag rs)) ts k t=[]:=by
 have h':iC fit (aD (ag rs)) ts=false:=h;unfold wF qp;rw[h'];exact⟨rfl,rfl⟩
theorem II{fit:Tp->Bool}{rs:Q06}{ts:Q05}{k:Int}{t:Tp}(h:bu fit rs ts=true):wF fit (aD (ag rs)) ts k t=bn fit ts k t/\qp fit (aD (ag rs)) ts k t=nu fit ts k t:=by
 have h':iC fit (aD (ag rs)) ts=true:=h;unfold wF qp;rw[h'];exact⟨rfl,rfl⟩
theorem zh(fit:Tp->Bool)(a:Nat->Addr)(ad:Q02)(cap:Nat)(rs:Q06)(XB:Q02)(cap':Nat)(ts:Q05)(k:Int)(t:Tp)(w:ae)(hE:ErrsD w a)(hlen:rs.length<=1048576)(hs:lc w ad rs)(hl:∀r∈rs,r.light)(hfr:∀r∈rs,r.fits)(hC:∀w1:World,af w w1->Calls prog 78 #[.slice ad rs.length cap] w1 (Kw (ag rs) w1))(hfb:aD (ag rs)=true->∀t:Tp,t.ok=true->o7 (ag rs) t.a t.r ⟨t.c,t.s⟩=fit t)(hlt:ts.length<=1048576)(hst:Sv w XB cap' ts)(hft:∀x∈ts,x.fits)(ht:t.fits):
  Calls prog 11 #[.slice ad rs.length cap,.slice XB ts.length cap',.agg #[.int .i64 k,.string t.a,.string t.b,.string t.r,.string t.c,.string t.d,.string t.s]] w fun e w'=>∃v,e=.returned (.tuple #[v,.int .i64 (wF fit (aD (ag rs)) ts k t)])/\w'.ownsRow w.heap.size 29 6 v (qp fit (aD (ag rs)) ts k t).length (aF (qp fit (aD (ag rs)) ts k t))/\af w w':=by
 obtain⟨W0,hW0⟩:∃W0,W0=w.alloc (.cells #[.int .i64 k,.string t.a,.string t.b,.string t.r,.string t.c,.string t.d,.string t.s] 31):=⟨_,rfl⟩;have HX0:Hid (oC W0 w.heap.size k t):=by show oC _ _ _ _;rw[hW0];refine⟨?_,?_,?_,?_,?_,?_,?_,?_⟩<;>simp
 have HB0:=nC hW0;have HE:=aG hE;have Ya:=aG (IG fit a ad cap rs XB cap' ts k t W0 (hE.below HB0.out) hlen (hs.below HB0.out) hl hfr (fun w1 h=>hC w1 (HB0.out.trans (h.mono HB0.out.size))) hfb hlt (hst.below HB0.out) hft ht);obtain⟨x0,x1,x2,x3,x4,x5,x6,xl⟩:=HX0.out;clear hE hs hl hfr hC hfb hst hft ht;go_enter func11,ntmps11;go_wp2_with fail;rw[<-hW0];clear hW0;refine Ya.out.mono ?_;rintro e w1 ⟨hb1,hor⟩;have HB1:=aG (HB0.out.trans (hb1.mono HB0.out.size));obtain⟨W2,hW2⟩:∃W2,W2=w1.alloc (.cells #[.pointer none] 76):=⟨_,rfl⟩;have hb2:af w1 W2:=by rw[hW2];exact(V5 _ _).alloc (V4 _) _
 have HB2:=aG (HB1.out.trans (hb2.mono HB1.out.size));have HE2:=aG (HE.out.below HB2.out);have hwz:w.heap.size<=W0.heap.size:=HB0.out.size;have ht0:W2.cell? ⟨w1.heap.size,0,none⟩=some (.pointer none):=by rw[hW2];simp
 have hf0:W2.frozen? ⟨w1.heap.size,0,none⟩=false:=by rw[hW2];simp
 have hs2:W2.heap.size=w1.heap.size+1:=by rw[hW2];simp
 clear x0 x1 x2 x3 x4 x5 x6 xl Ya hb1;rcases hor with⟨hr,rfl⟩|⟨hr,hz,v,rfl,hown⟩|⟨hr,g,p,v,hgc,hg2,Zn,rfl,hpl,hc0,hc1,hown⟩
 ·have HA:=aG (Tc (k:=k) (t:=t) hr);clear hr;go_wp2_with fail;rw[<-hW2];clear hW2;refine(SK (a 0) ⟨w1.heap.size,0,none⟩ W2 HE2.out.typ.2).mono ?_;rintro e w3 ⟨rfl,hb3⟩;have HB3:=aG (HB2.out.trans (hb3.mono HB2.out.size));clear hb3;go_wp2_with fail;refine(FM a _ (HE.out.below HB3.out)).mono ?_;rintro e w4 ⟨rfl,rfl⟩;go_wp2;exact bodyPost_ret (v:=.tuple #[.slice none 0 0,.int .i64 1]) (by simp[results,Tryz.results11,go_sem]) rfl ⟨_,by rw[HA.out.1],by rw[HA.out.2];exact World.ownsRow_nil _ _ _ _,HB3.out⟩
 ·have HA:=aG (II (k:=k) (t:=t) hr);have HL:Hid (wF fit (aD (ag rs)) ts k t=0/\qp fit (aD (ag rs)) ts k t=gm ts k t):=⟨HA.out.1.trans hz,HA.out.2.trans (BF hz)⟩;have Xv:=aG (aH (jK hown hwz) hb2);clear hr hz hown;go_wp2_with fail;rw[<-hW2];clear hW2;refine(UO _ W2).mono ?_;rintro e w3 ⟨rfl,rfl⟩;go_wp2_with fail;refine(KO a _ HE2.out).mono ?_;rintro e w4 ⟨rfl,rfl⟩;go_wp2;exact bodyPost_ret (v:=.tuple #[v,.int .i64 0]) (by simp[results,Tryz.results11,go_sem]) rfl ⟨_,by rw[HL.out.1],by rw[HL.out.2];exact Xv.out,HB2.out⟩
 have HA:=aG (II (k:=k) (t:=t) hr);have HL:Hid (wF fit (aD (ag rs)) ts k t=g/\qp fit (aD (ag rs)) ts k t=ts):=⟨HA.out.1.trans hgc,HA.out.2.trans (qj hgc (by omega))⟩;have hpw:p<w1.heap.size:=World.block_lt_of_cell? w1 ⟨p,0,none⟩ hc0;obtain⟨adv,cv,rfl,-⟩:=U0 hown;have Xv:=aG (aH (jK hown hwz) hb2);have HOL:=aG hown;have c0:W2.cell? ⟨p,0,none⟩=_:=(hb2.cell (p:=⟨p,0,none⟩) hpw).trans hc0;have c1:W2.cell? ⟨p,1,none⟩=_:=(hb2.cell (p:=⟨p,1,none⟩) hpw).trans hc1;have HC01:=aG (And.intro c0 c1);clear hr hown hc0 hc1 c0 c1;go_wp2_with fail;rw[<-hW2];clear hW2;refine(UU ⟨p,0,none⟩ ⟨w1.heap.size,0,none⟩ (.pointer none) W2 HE2.out.typ.2 ht0 hf0).mono ?_;rintro e w3 ⟨rfl,W3,hb3,rfl⟩;obtain⟨w4,hw4⟩:∃x,x=W3.setCell ⟨w1.heap.size,0,none⟩ (.pointer (some ⟨p,0,none⟩)):=⟨_,rfl⟩;have hne:∀g',g'≠w1.heap.size->w4.heap[g']?=W3.heap[g']?:=fun g' e=>by rw[hw4];exact heap_setCell_other W3 ⟨w1.heap.size,0,none⟩ g' _ e
 have XM:Hid (af w w4):=by show Below _ _ _;rw[hw4];exact(HB2.out.trans (hb3.mono HB2.out.size)).setCell (by show w.heap.size<=w1.heap.size;exact HB1.out.size) _
 have d0:w4.cell? ⟨w1.heap.size,0,none⟩=some (.pointer (some ⟨p,0,none⟩)):=by rw[hw4];exact MR ((hb3.cell (p:=⟨w1.heap.size,0,none⟩) (by show w1.heap.size<_;omega)).trans ht0)
 have hp4:∀o,w4.cell? ⟨p,o,none⟩=W2.cell? ⟨p,o,none⟩:=fun o=>(Wt (w:=W3) (a:=⟨p,o,none⟩) (hne p (by omega))).trans (hb3.cell (p:=⟨p,o,none⟩) (by show p<_;omega));have d1:=(hp4 0).trans HC01.out.1;have d2:=(hp4 1).trans HC01.out.2;have XE:Hid (w4.ownsRow w.heap.size 29 6 (.slice adv ts.length cv) ts.length (aF ts)):=dI (aH Xv.out hb3) fun g' hg'=>hne g' (by have:=(HOL.out.lt g' hg').2;omega);have HE4:=aG (HE.out.below XM.out);rw[<-hw4];clear hw4 hb3 hne hp4;go_wp2_with fail;refine(KP a p g _ HE4.out hg2 Zn d1).mono ?_;rintro e w5 ⟨rfl,rfl⟩;go_wp2;exact bodyPost_ret (v:=.tuple #[.slice adv ts.length cv,.int .i64 (g:Int)]) (by simp[results,Tryz.results11,go_sem]) rfl ⟨_,by rw[HL.out.1],by rw[HL.out.2];exact XE.out,XM.out⟩
theorem Rp(fit:Tp->Bool)(sok:Bool)(ts:Q05)(k:Int)(t:Tp):(qp fit sok ts k t).length<=41:=by
 unfold qp;cases h:iC fit sok ts;case false=>simp
 obtain⟨-,h2,-⟩:=BL h;obtain⟨hu,hok,hl⟩:=GU h2;simp only[if_true];unfold nu;split
 ·rename_i hz;have:=(Ke hu hok hl hz).2.2;omega
 omega
def uQ(rs:Q06)(ts:Q05)(k:Int)(t:Tp):List Tp:=qp (Oh rs) (aD (ag rs)) ts k t
def Ov(rs:Q06)(ts:Q05)(k:Int)(t:Tp):Int:=wF (Oh rs) (aD (ag rs)) ts k t
theorem FR(rs:Q06)(ts:Q05)(k:Int)(t:Tp):(uQ rs ts k t).length<=41:=Rp _ _ _ _ _
theorem IJ(ad:Q02)(cap:Nat)(rs:Q06)(b cap':Nat)(ts:Q05)(k:Int)(t:Tp)(w:ae)(hlen:rs.length<=1048576)(hs:lc w ad rs)(hl:∀r∈rs,r.light)(hfr:∀r∈rs,r.fits)(hlt:ts.length<=1048576)(hcp:ts.length<=cap')(hb:b<w.heap.size)(hr:dM w b 0 ts)(hf:∀x∈ts,x.fits)(ht:t.fits):
  Calls prog 35 #[.slice ad rs.length cap,.slice (some ⟨b,0,none⟩) ts.length cap',.agg #[.int .i64 k,.string t.a,.string t.b,.string t.r,.string t.c,.string t.d,.string t.s]] w fun e w'=>∃v,e=.returned (.tuple #[v,.int .i64 (Ov rs ts k t)])/\w'.ownsRow w.heap.size 29 6 v (uQ rs ts k t).length (aF (uQ rs ts k t))/\af w w'/\(Ov rs ts k t=0->∃g c,v=.slice (some ⟨g,0,none⟩) (uQ rs ts k t).length c) :=
 za (.slice ad rs.length cap) (Oh rs) (aD (ag rs)) b 0 cap' ts k t w hlt hcp hb hr hf ht (fun w1 hb=>iJ ad cap rs w1 hlen (hs.below hb) hl hfr)
  (fun t w1 ht hb=>uO ad cap rs t.a t.b t.r t.c t.d t.s w1 hlen (hs.below hb) hl ht.1 ht.2.1 ht.2.2.1 ht.2.2.2.1 ht.2.2.2.2.1 ht.2.2.2.2.2)
theorem IK(ad:Q02)(cap:Nat)(rs:Q06)(b cap':Nat)(ts:Q05)(k:Int)(t:Tp)(w:ae)(hlen:rs.length<=1048576)(hs:lc w ad rs)(hl:∀r∈rs,r.light)(hfr:∀r∈rs,r.fits)(hlt:ts.length<=1048576)(hcp:ts.length<=cap')(hb:b<w.heap.size)(hr:dM w b 0 ts)(hf:∀x∈ts,x.fits)(ht:t.fits):
  Calls prog 35 #[.slice ad rs.length cap,.slice (some ⟨b,0,none⟩) ts.length cap',.agg #[.int .i64 k,.string t.a,.string t.b,.string t.r,.string t.c,.string t.d,.string t.s]] w fun e w'=>∃(ZH:Q02) (cap5:Nat),e=.returned (.tuple #[.slice ZH (uQ rs ts k t).length cap5,.int .i64 (Ov rs ts k t)])/\Sl w' ZH (uQ rs ts k t)/\af w w':=by
 refine(IJ ad cap rs b cap' ts k t w hlen hs hl hfr hlt hcp hb hr hf ht).mono ?_;rintro e w' ⟨v,rfl,ho,hb,-⟩;obtain⟨ZH,cap5,rfl,hO⟩:=LU ho rfl;exact⟨ZH,cap5,rfl,hO.1,hb⟩
theorem yL(a:Nat->Addr)(ad:Q02)(cap:Nat)(rs:Q06)(b cap':Nat)(ts:Q05)(k:Int)(t:Tp)(w:ae)(hE:ErrsD w a)(hlen:rs.length<=1048576)(hs:lc w ad rs)(hl:∀r∈rs,r.light)(hfr:∀r∈rs,r.fits)(hcpT:∀r∈rs,r.caps)(hlt:ts.length<=1048576)(hcp:ts.length<=cap')(hb:b<w.heap.size)(hr:dM w b 0 ts)(hf:∀x∈ts,x.fits)(ht:t.fits):
  Calls prog 11 #[.slice ad rs.length cap,.slice (some ⟨b,0,none⟩) ts.length cap',.agg #[.int .i64 k,.string t.a,.string t.b,.string t.r,.string t.c,.string t.d,.string t.s]] w fun e w'=>∃(ad8:Q02) (cap8:Nat),e=.returned (.tuple #[.slice ad8 (uQ rs ts k t).length cap8,.int .i64 (Ov rs ts k t)])/\H7 w.heap.size w' ad8 (uQ rs ts k t)/\af w w':=by
 refine(zh (Oh rs) a ad cap rs _ cap' ts k t w hE hlen hs hl hfr (fun w1 hb=>wN ad cap rs w1 hlen (hs.below hb) hl hfr hcpT) (fun h t ht=>Oi h ht) hlt (.inr ⟨b,0,rfl,hb,hcp,hr⟩) hf ht).mono ?_;rintro e w' ⟨v,rfl,ho,hb⟩;obtain⟨ad8,cap8,rfl,hO⟩:=LU ho rfl;exact⟨ad8,cap8,rfl,hO,hb⟩
theorem KX{e:Ex}(h:ay e=true):(e.kind=2->e.name.size<=maxLen)/\(e.kind=3->e.over.size<=maxLen/\e.name.size<=maxLen)/\(e.kind=1\/e.kind=2\/e.kind=3\/e.kind=4\/e.kind=5\/e.kind=6):=by
 unfold ay at h;have hle:∀s:ByteArray,aR s=true->s.size<=maxLen:=fun s hs=>by have:=(oH hs).2;unfold maxLen;omega
 by_cases k1:e.kind=1
 ·exact⟨fun h2=>by omega,fun h3=>by omega,.inl k1⟩
 by_cases k2:e.kind=2
 ·rw[if_neg k1,if_pos k2]at h;simp only[V9]at h;exact⟨fun _=>hle _ h.1.1.1,fun h3=>by omega,.inr (.inl k2)⟩
 by_cases k3:e.kind=3
 ·rw[if_neg k1,if_neg k2,if_pos k3]at h;simp only[V9]at h;exact⟨fun h2=>by omega,fun _=>⟨hle _ h.1.1.1,hle _ h.1.1.2⟩,.inr (.inr (.inl k3))⟩
 refine⟨fun h2=>absurd h2 k2,fun h3=>absurd h3 k3,?_⟩;by_cases k4:e.kind=4\/e.kind=5
 ·rcases k4 with k4|k4
  ·exact .inr (.inr (.inr (.inl k4)))
  exact .inr (.inr (.inr (.inr (.inl k4))))
 by_cases k6:e.kind=6
 ·exact .inr (.inr (.inr (.inr (.inr k6))))
 rw[if_neg k1,if_neg k2,if_neg k3,if_neg k4,if_neg k6]at h;cases h
section
variable  {rs:Q06}{D br bp bt bK nK:Nat}{n1:Int}{nr:Nat}{Mr:KL->Option Value}{Er:List (KL×RR)}{ts:Q05}{xo xu:Q0a}{np:Nat}{Mp:K3->Option Value}{vo vu:Value}{out:Q04}{f:Fc}{Xw:Q02}{capE:Nat}{rows:Q08}
theorem ug(hN:ZI rows)(hnb:∀e∈aj rows,ay e=true)(hf:f.fits)(hts:∀t∈ts,t.fits)(htl:ts.length<=1000):
  ∀(k n:Nat) (w:World),n<k->n<rows.length->DatA w rs D br bp bt n1 nr Mr Er (dH ts) xo xu np Mp vo vu->aN kX prog 43 w bK nK (yI out)->jv w Xw rows ->
  Calls prog 183 #[.pointer (some ⟨D,0,none⟩),.slice Xw rows.length capE,.int .i64 (n:Int),.agg #[.string f.a,.string f.b,.string f.r,.string f.c,.string f.d],.map (some bK)] w fun e w'=>e=.returned (.bool (jI ts (aj rows) out f k out n))/\af w w'
 | 0,_,_,h,_,_,_,_=>absurd h (Xg _)
 | k+1,n,w,hk,hn,hD,hK,hex=>by
  have e:(aj rows)[n]?=some rows[n].e:=by simp[aj,hn]
  have Zc:∀i∈rows[n].e.kids,KG D (.slice Xw rows.length capE) f bK w i (jI ts (aj rows) out f k out i.toNat):=fun i hi w1 hb1=>by
   have h1:=hN.kid hn hi;have h2:=ug hN hnb hf hts htl k i.toNat w1 (by omega) (by omega) (hD.below hb1) (hK.below hb1) (hex.below hb1);have e2:((i.toNat:Nat):Int)=i:=by omega
   rw[e2]at h2;exact h2
  have hm:rows[n]∈rows:=VZ hn;have hme:rows[n].e∈aj rows:=Wp.2 ⟨_,hm,rfl⟩;obtain⟨hn2,hn3,hkd⟩:=KX (hnb _ hme);unfold jI;rw[e];by_cases k1:rows[n].e.kind=1
  ·simp only[if_pos k1];exact NV hn hD hK hf hts htl hex hN.len k1
  by_cases k2:rows[n].e.kind=2
  ·simp only[if_neg k1,if_pos k2];exact Q9 hn hK hf (hn2 k2) hex hN.len k2
  by_cases k3:rows[n].e.kind=3
  ·simp only[if_neg k1,if_neg k2,if_pos k3];exact NW hn hD hK hf (hn3 k3) hts htl hex hN.len k3
  by_cases k4:rows[n].e.kind=4
  ·simp only[if_neg k1,if_neg k2,if_neg k3,if_pos k4];exact KQ hn (fun i=>jI ts (aj rows) out f k out i.toNat) (hN.kids _ hm) Zc hex hN.len k4
  by_cases k5:rows[n].e.kind=5
  ·simp only[if_neg k1,if_neg k2,if_neg k3,if_neg k4,if_pos k5];exact NY hn (fun i=>jI ts (aj rows) out f k out i.toNat) (hN.kids _ hm) Zc hex hN.len k5
  have k6:rows[n].e.kind=6:=by omega
  simp only[if_neg k1,if_neg k2,if_neg k3,if_neg k4,if_neg k5,if_pos k6];have h2:=hN.two _ hme k6;have hg:∀q,q<2->rows[n].e.kids.getD q 0∈rows[n].e.kids:=fun q hq=>by
   rw[Xd,Wm (by omega)];exact VZ _
  exact Ra hn _ _ (hN.kids _ hm) h2 (Zc _ (hg 0 (by omega))) (Zc _ (hg 1 (by omega))) hex hN.len k6
theorem Td{rs:Q06}(h:bF (ag rs)=true){k:Q01}(hk:k∈au (ag rs)):∃t∈rs,∃q∈t.rows,tC rs k=some q.sl/\aj q.rows=aM (ag rs) k.1 k.2/\aP (aj q.rows)=true:=by
 have hk':=hk;unfold au at hk;obtain⟨T,hT,hk⟩:=Wx.1 hk;obtain⟨t,ht,rfl⟩:=Wp.1 hT;unfold jT at hk;obtain⟨r,hr,rfl⟩:=Wp.1 hk;obtain⟨q,hq,rfl⟩:=Wp.1 hr;have hrel:=qw h ht hq;cases e:tC rs (t.p.name,q.p.name) with
 | none =>
  have h1:=(xk h).no _ e;have h2:gu (ag rs) t.name q.name=none:=h1;rw[hrel]at h2;cases h2
 | some v =>
  obtain⟨t',ht',q',hq',-,rfl,e1,-⟩:=(xk h).yes _ v e;refine⟨t',ht',q',hq',rfl,?_,((bR h).2.2 t' ht' q' hq').1⟩;unfold aM;rw[e1];rfl
theorem Oj{w:ae}{ad:Q02}(hD:DatA w rs D br bp bt n1 nr Mr Er (dH ts) xo xu np Mp vo vu)(hK:aN kX prog 43 w bK nK (yI out))(hf:f.fits)(hts:∀t∈ts,t.fits)(htl:ts.length<=1000)(hsh:bF (ag rs)=true)(hkey:(f.a,f.r)∈au (ag rs))(hs:lc w ad rs):
  Calls prog 134 #[.pointer (some ⟨D,0,none⟩),.agg #[.string f.a,.string f.b,.string f.r,.string f.c,.string f.d],.map (some bK)] w fun e w'=>e=.returned (.bool (ja (ag rs) ts out f))/\af w w':=by
 obtain⟨t,htm,q,hq,htab,hrx,hsp⟩:=Td hsh hkey;obtain⟨hN,hr1⟩:=LH hsp;have hnb:=jr hsp;have Zq:qB rs q.ad q.rows:=.inr ⟨t,htm,q,hq,rfl,rfl⟩;obtain⟨kl,hkl⟩:=kJ (f.a,f.r) hf.1 hf.2.2.1;obtain⟨W0,hW0⟩:∃W0,W0=w.alloc (.cells #[.string f.a,.string f.b,.string f.r,.string f.c,.string f.d] 43):=⟨_,rfl⟩;have HB0:=nC hW0;have c0:W0.cell? ⟨w.heap.size,0,none⟩=some (.string f.a):=by rw[hW0];simp
 have c1:W0.cell? ⟨w.heap.size,1,none⟩=some (.string f.b):=by rw[hW0];simp
 have c2:W0.cell? ⟨w.heap.size,2,none⟩=some (.string f.r):=by rw[hW0];simp
 have c3:W0.cell? ⟨w.heap.size,3,none⟩=some (.string f.c):=by rw[hW0];simp
 have c4:W0.cell? ⟨w.heap.size,4,none⟩=some (.string f.d):=by rw[hW0];simp
 have d0:=HB0.out.cell (p:=⟨D,0,none⟩) hD.dat.lt |>.trans hD.dat.c0;obtain⟨Xw,hadE⟩:∃a,a=q.ad:=⟨_,rfl⟩;obtain⟨capE,hcapE⟩:∃a,a=q.cap:=⟨_,rfl⟩;obtain⟨rows,hrows⟩:∃a,a=q.rows:=⟨_,rfl⟩;have hsl:q.sl=.slice Xw rows.length capE:=by rw[hadE,hcapE,hrows];rfl
 rw[<-hrows]at hN hnb hr1 hrx;rw[<-hrows,<-hadE]at Zq;have hlk:∀m,(Instr.lookup 95 (.map (some bt)) (.agg #[.string f.a,.string f.r]) false).run prog (W0.drewN m)=.ok (.slice Xw rows.length capE) (W0.drewN m):=fun m=>by
  have h:=((hD.tab.below HB0.out).below (below_drewN (V5 _ _) m)).look (t:=95) (e:=147) jf underlying95 (sD _) (x:=(f.a,f.r)) hkl;rw[htab,hsl]at h;exact h
 have hr1000:=hN.len;have hwr:IntKind.i64.wrap ((rows.length:Int)-1)=((rows.length-1:Nat):Int):=by rw[IntKind.wrap_i64];omega
 have HC:Hid (∀nq,Calls prog 183 #[.pointer (some ⟨D,0,none⟩),.slice Xw rows.length capE,.int .i64 ((rows.length-1:Nat):Int),.agg #[.string f.a,.string f.b,.string f.r,.string f.c,.string f.d],.map (some bK)] (W0.drewN nq) fun e w'=>e=.returned (.bool (ja (ag rs) ts out f))/\Below (W0.drewN nq).heap.size (W0.drewN nq) w'):=fun nq=>by
  have hb:af w (W0.drewN nq):=below_drewN HB0.out nq;have h:=ug (capE:=capE) hN hnb hf hts htl rows.length (rows.length-1) (W0.drewN nq) (by omega) (by omega) (hD.below hb) (hK.below hb) (Zq.sl (hs.below hb));unfold ja;rw[<-hrx,bf];exact h
 clear hD hK hs hsp hkl htab hsl hN hnb hf hadE hcapE hrows Zq hrx hkey;go_enter func134,ntmps134;go_wp2_with fail;rw[<-hW0];clear hW0;go_quiet (fail);clear d0 hlk;go_wp2_with fail;refine(HC.out _).mono ?_;rintro e w1 ⟨rfl,hb1⟩;have HB1:=ak ((below_drewN HB0.out _).trans (hb1.mono HB0.out.size));clear hb1 c0 c1 c2 c3 c4;go_wp2;go_ret;exact⟨rfl,HB1.out⟩
end
end Go.Proofs.YtcgdckphpjfmhaaGreatDoor
namespace Go.Proofs.YtcgdckphpjfmhaaGreatDoor
set_option linter.unusedVariables false
set_option maxRecDepth 100000
open ChangeShapes WideShapes ChangeAt RowKit Maps Go.Shelf
open Pl
attribute [local go_sem] Oper.semAt_some
theorem KY{n m:Nat}{P:Program}{l:Nat}{f:FuncId}{tmps:Array Value}{assign body:Code}{w:ae}{R:Ending->World->Prop}(h:RoundIn Fence.wide n P l f tmps assign body w R):RoundIn Fence.wide m P l f tmps assign body w R :=
 ⟨h.1,fun c cs _=>h.2 c cs (room_wide _)⟩
theorem Cg(D:Nat)(sn:Int)(Yr:Q02)(nU XI:Nat)(w:ae):
  Calls prog 133 #[.pointer (some ⟨D,0,none⟩),.int .i64 sn,.slice Yr nU XI] w fun e w'=>e=.returned (.func (.func 182) #[] #[.pointer (some ⟨w.heap.size,0,none⟩),.pointer (some ⟨w.heap.size+1,0,none⟩),.pointer (some ⟨w.heap.size+1+1,0,none⟩)])/\w'=((w.alloc (.cells #[.pointer (some ⟨D,0,none⟩)] 82)).alloc (.cells #[.int .i64 sn] 2)).alloc (.cells #[.slice Yr nU XI] 124):=by
 go_enter func133,ntmps133;go_wp2;go_ret;exact⟨rfl,rfl⟩
theorem FT(D:Nat)(sn:Int)(Yr:Q02)(nU XI:Nat)(bK:Nat)(w:ae):
  Calls prog 82 #[.pointer (some ⟨D,0,none⟩),.int .i64 sn,.slice Yr nU XI,.map (some bK)] w fun e w'=>e=.returned (.func (.func 132) #[] #[.pointer (some ⟨w.heap.size,0,none⟩),.pointer (some ⟨w.heap.size+1,0,none⟩),.pointer (some ⟨w.heap.size+1+1,0,none⟩),.pointer (some ⟨w.heap.size+1+1+1,0,none⟩)])/\w'=(((w.alloc (.cells #[.pointer (some ⟨D,0,none⟩)] 82)).alloc (.cells #[.int .i64 sn] 2)).alloc (.cells #[.slice Yr nU XI] 124)).alloc (.cells #[.map (some bK)] 117):=by
 go_enter func82,ntmps82;go_wp2;go_ret;exact⟨rfl,rfl⟩
structure NewM(W:World)(rs:Q06)(Yt:Q02)(D br bp bt:Nat)(n1:Int)(nr:Nat)(Mr:KL->Option Value)(Er:List (KL×RR))(ts:Q05)(xo xu:Q0a)(np:Nat)(Mp:K3->Option Value)(vo vu:Value)(bK:Nat)(out:Q04)(hD hS hU hK:Nat)(sn:Int)(Yr:Q02)(XI:Nat)(us:Q0a):Prop where
 dat:DatA W rs D br bp bt n1 nr Mr Er (dH ts) xo xu np Mp vo vu
 sch:lc W Yt rs
 map:∃nK,aN kX prog 43 W bK nK (yI out)
 bD:W.cell? ⟨hD,0,none⟩=some (.pointer (some ⟨D,0,none⟩))
 bS:W.cell? ⟨hS,0,none⟩=some (.int .i64 sn)
 bU:W.cell? ⟨hU,0,none⟩=some (.slice Yr us.length XI)
 bM:W.cell? ⟨hK,0,none⟩=some (.map (some bK))
 users:lK W Yr us
def U1(l:Nat):Value:=.func (.yield l) #[] #[]
def ic(W:World)(g:Nat)(v:Value)(T:TypeId):Prop:=W.heap[g]?=some (.cells #[v] T (0,0))
theorem ic.c{W:ae}{g:Nat}{v:Value}{T:TypeId}(h:ic W g v T):W.cell? ⟨g,0,none⟩=some v:=by
 unfold ic at h;simp[World.cell?,h]
theorem ic.kp{b l:Nat}{W W':ae}{g:Nat}{v:Value}{T:TypeId}(h:ic W g v T)(hk:KpO b l W W')(h1:T≠43)(h2:T≠34):ic W' g v T:=hk.cells g _ _ _ h h1 h2
theorem ic.bel{W W':ae}{g:Nat}{v:Value}{T:TypeId}(h:ic W g v T)(hb:af W W'):ic W' g v T:=(hb.block g (We.1 h).1).trans h
structure NBx(W:World)(B l D:Nat)(sn:Int)(vU:Value):Prop where
 y:ic W B (U1 l) 119
 d:ic W (B+1) (.pointer (some ⟨D,0,none⟩)) 82
 s:ic W (B+1+1) (.int .i64 sn) 2
 u:ic W (B+1+1+1) vU 124
theorem NBx.kp{b l0:Nat}{W W':ae}{B l D:Nat}{sn:Int}{vU:Value}(h:NBx W B l D sn vU)(hk:KpO b l0 W W'):NBx W' B l D sn vU :=
 ⟨h.y.kp hk (by decide) (by decide),h.d.kp hk (by decide) (by decide),h.s.kp hk (by decide) (by decide),h.u.kp hk (by decide) (by decide)⟩
theorem NBx.bel{W W':ae}{B l D:Nat}{sn:Int}{vU:Value}(h:NBx W B l D sn vU)(hb:af W W'):NBx W' B l D sn vU:=⟨h.y.bel hb,h.d.bel hb,h.s.bel hb,h.u.bel hb⟩
theorem Te{β:Type}{B0 B l D:Nat}{sn:Int}{vU:Value}(hB:B+1+1+1<B0):OwnFrom B0 (fun(_:β) W=>NBx W B l D sn vU):=fun s X Y row hs hg hr=>by
 have key:∀g v T,g<B0->ic X g v T->ic Y g v T:=fun g v T hl h=>(hg.block g (We.1 h).1 fun e=>by have:=(hr g e.symm).1;omega).trans h;exact⟨key _ _ _ (by omega) hs.y,key _ _ _ (by omega) hs.d,key _ _ _ (by omega) hs.s,key _ _ _ (by omega) hs.u⟩
def CJ(W:World)(g:Nat)(x:Fc):Prop:=W.heap[g]?=some (.cells #[.string x.a,.string x.b,.string x.r,.string x.c,.string x.d] 43 (0,0))
theorem CJ.c{W:ae}{g:Nat}{x:Fc}(h:CJ W g x):W.cell? ⟨g,0,none⟩=some (.string x.a)/\W.cell? ⟨g,1,none⟩=some (.string x.b)/\W.cell? ⟨g,2,none⟩=some (.string x.r)/\W.cell? ⟨g,3,none⟩=some (.string x.c)/\W.cell? ⟨g,4,none⟩=some (.string x.d)/\g<W.heap.size:=by
 have hl:=(We.1 h).1;unfold CJ at h;exact⟨by simp[World.cell?,h],by simp[World.cell?,h],by simp[World.cell?,h],by simp[World.cell?,h],by simp[World.cell?,h],hl⟩
theorem CJ.bel{W W':ae}{g:Nat}{x:Fc}(h:CJ W g x)(hb:af W W'):CJ W' g x:=(hb.block g (We.1 h).1).trans h
theorem IL{B0 g:Nat}{x:Fc}:OwnFrom B0 (fun(_:Unit) W=>CJ W g x):=fun s X Y row hs hg hr=>by
 refine(hg.block g (We.1 hs).1 fun e=>?_).trans hs;obtain⟨-,o,ho,hc⟩:=hr g e.symm;rw[show X.heap[g]?=_ from hs]at ho;cases ho;cases hc
theorem Rq{l' m:Nat}{P:Program}{f:FuncId}{args:Array Value}{w:ae}{R:Ending->World->Prop}(h:Calls P f args w R):CallsIn (Fence.wide.inRound l') m P f args w R:=(callsIn_wide (n:=m)).2 h
theorem U2{l' n m:Nat}{P:Program}{l:Nat}{f:FuncId}{tmps:Array Value}{assign body:Code}{w:ae}{R:Ending->World->Prop}(h:RoundIn Fence.wide n P l f tmps assign body w R):RoundIn (Fence.wide.inRound l') m P l f tmps assign body w R:=KY (m:=m) h
theorem yM{B:Nat}{W W':ae}(h:af W W'):KeepsFrom B W W':=⟨h.size,fun k o _ hk _=>(h.block k (We.1 hk).1).trans hk⟩
theorem Rs{B b l:Nat}{W W':ae}(h:KpO b l W W')(hl:l<B)(hb:b<B):KeepsFrom B W W':=⟨h.size,fun k o hB hk hc=>h.other k o hk hc (by omega) (by omega)⟩
theorem IM{rs:Q06}{st:Q00}{xo us:Q0a}{sn:Int}{x:Fc}(hof:∀o∈xo,o.t.size<=maxLen/\o.s.size<=maxLen)(huf:∀o∈us,o.t.size<=maxLen/\o.s.size<=maxLen)(hrf:∀k∈au (ag rs),k.2.size<=maxLen)(h:x∈dw (ag rs) st xo us sn):(x.a,x.r)∈au (ag rs)/\x.fits:=by
 unfold dw yZ at h;obtain⟨o,ho,h⟩:=Wx.1 h;obtain⟨k,hk,h⟩:=Wx.1 h;obtain⟨u,hu,rfl⟩:=Wp.1 h;obtain⟨h1,h2⟩:=WW.1 hk;rw[V9,fw]at h2;have e:(o.t,k.2)=k:=Prod.ext h2.1.symm rfl;refine⟨?_,(hof o ho).1,(hof o ho).2,hrf k h1,(huf u hu).1,(huf u hu).2⟩;show(o.t,k.2)∈_;rw[e];exact h1
theorem Ol[DecidableEq Fc](n:Nat)(hn:4<=n)(rs:Q06)(Yt:Q02)(D br bp bt:Nat)(n1:Int)(nr:Nat)(Mr:KL->Option Value)(st:Q00)(ts:Q05)(Y8:Q02)(YU:Nat)(xo xu:Q0a)(np:Nat)(Mp:K3->Option Value)(vu:Value)(bK:Nat)(YP:Q04)(hD hS hU hK:Nat)(sn:Int)(Yr:Q02)(XI:Nat)(us:Q0a)(w0:ae)(hs0:0<=sn)(hs1:sn<=1000)(hol:xo.length<=1000)(hul:us.length<=1000)(hrl:∀k,(G.lookL (eY st rs) k).length<=1000)(hsh:bF (ag rs)=true)(hts:∀t∈ts,t.fits)(htl:ts.length<=1000)(hof:∀o∈xo,o.t.size<=maxLen/\o.s.size<=maxLen)(huf:∀o∈us,o.t.size<=maxLen/\o.s.size<=maxLen)(hrf:∀k∈au (ag rs),k.2.size<=maxLen):
  Fa Fence.wide n prog 132 #[.pointer (some ⟨hD,0,none⟩),.pointer (some ⟨hS,0,none⟩),.pointer (some ⟨hU,0,none⟩),.pointer (some ⟨hK,0,none⟩)] Eo (KpO bK) (fun pre W=>NewM W rs Yt D br bp bt n1 nr Mr (eY st rs) ts xo xu np Mp (.slice Y8 xo.length YU) vu bK (YP++pre) hD hS hU hK sn Yr XI us) (fun pre x=>x∈dw (ag rs) st xo us sn/\x ∉ YP++pre) (fun xs=>bW (ja (ag rs) ts) (dw (ag rs) st xo us sn) YP=YP++xs) w0:=by
 intro l J W _ hlW _ hJ hT hY h0;have hM:=hT _ _ h0;obtain⟨nK0,hmap0⟩:=hM.map;have hbK:=hmap0.lt;have bD:=hM.bD;have bS:=hM.bS;have bU:=hM.bU;have lD:=aL bD;have lS:=aL bS;have lU:=aL bU;obtain⟨W1,hW1⟩:∃W1,W1=W.alloc (.cells #[.func (.yield l) #[] #[]] 119):=⟨_,rfl⟩;have hB1:af W W1:=by rw[hW1];exact(V5 _ _).alloc (V4 _) _
 have s1:W1.heap.size=W.heap.size+1:=by rw[hW1,World.size_alloc]
 have y1:ic W1 W.heap.size (U1 l) 119:=by rw[hW1];exact World.alloc_heap_new W _
 have bD1:=aU hB1 lD bD;have bS1:=aU hB1 lS bS;have bU1:=aU hB1 lU bU;clear hM hmap0;refine callsIn_of_wp_marks func132 rfl trivial ?_ rfl;simp only[ntmps132,List.size_toArray,WH,Xh,Nat.reduceAdd,Nat.reduceSub,Array.replicate_succ,Array.replicate_zero,List.push_toArray,List.append_toArray,Xi,WU]
 gi_wp2_with fail
 rw[<-hW1];clear hW1;refine⟨trivial,fun _=>by omega,(callsIn_wide.2 (Cg D sn Yr us.length XI W1)).mono ?_⟩;rintro e W2 ⟨rfl,hW2⟩;have hB2:af W1 W2:=by rw[hW2];exact(((V5 _ _).alloc (V4 _) _).alloc (by simp) _).alloc (by simp;omega) _
 have s2:W2.heap.size=W.heap.size+1+1+1+1:=by rw[hW2,World.size_alloc,World.size_alloc,World.size_alloc,s1]
 have NB:NBx W2 W.heap.size l D sn (.slice Yr us.length XI):=by
  obtain⟨V1,e1⟩:∃V,V=W1.alloc (.cells #[.pointer (some ⟨D,0,none⟩)] 82):=⟨_,rfl⟩;obtain⟨V2,e2⟩:∃V,V=V1.alloc (.cells #[.int .i64 sn] 2):=⟨_,rfl⟩;rw[<-e1,<-e2]at hW2;have t1:V1.heap.size=W.heap.size+1+1:=by rw[e1,World.size_alloc,s1]
  have t2:V2.heap.size=W.heap.size+1+1+1:=by rw[e2,World.size_alloc,t1]
  have f1:af W1 V1:=by rw[e1];exact(V5 _ _).alloc (V4 _) _
  have f2:af V1 V2:=by rw[e2];exact(V5 _ _).alloc (V4 _) _
  have f3:af V2 W2:=by rw[hW2];exact(V5 _ _).alloc (V4 _) _
  have g1:ic V1 (W.heap.size+1) (.pointer (some ⟨D,0,none⟩)) 82:=by rw[e1,<-s1];exact World.alloc_heap_new W1 _
  have g2:ic V2 (W.heap.size+1+1) (.int .i64 sn) 2:=by rw[e2,<-t1];exact World.alloc_heap_new V1 _
  have g3:ic W2 (W.heap.size+1+1+1) (.slice Yr us.length XI) 124:=by rw[hW2,<-t2];exact World.alloc_heap_new V2 _
  exact⟨((y1.bel f1).bel f2).bel f3,(g1.bel f2).bel f3,g2.bel f3,g3⟩
 have hB02:af W W2:=hB1.trans (hB2.mono hB1.size);have J2:=nW hJ h0 hB02;rw[s1];clear hW2 y1 bD bS bU bD1 bS1 bU1 hB1 hB2 lD lS lU;gi_wp2
 refine rC (α:=Fc) rfl (by omega) (gf:=182) (lb:=#[.pointer (some ⟨W.heap.size+1,0,none⟩),.pointer (some ⟨W.heap.size+1+1,0,none⟩),.pointer (some ⟨W.heap.size+1+1+1,0,none⟩)]) rfl trivial (enters_of func182 (by kernel_rfl) rfl)
  (Q8 (n-1) (by omega) D br nr Mr st rs Y8 YU xo (W.heap.size+1) (W.heap.size+1+1) (W.heap.size+1+1+1) sn Yr XI us W2 hs0 hs1 hol hul hrl (fun o ho=>(hof o ho).1)) (V5 _ _) (fun _=>rfl) (fun h k=>h.trans k) (fun X lx o o' h1 h2=>KpI.put h1 h2)
  (fun pre X=>(∃xs,bW (ja (ag rs) ts) pre YP=YP++xs/\J xs X)/\NBx X W.heap.size l D sn (.slice Yr us.length XI))
  ?own ?tell ⟨⟨[],by rw[WS];rfl,J2⟩,NB⟩
  (fun x a' X=>∃Bx,CJ X Bx x/\a'={ tmps:=#[.func (.yield l) #[] #[],.pointer (some ⟨hD,0,none⟩),.pointer (some ⟨hS,0,none⟩),.pointer (some ⟨hU,0,none⟩),.pointer (some ⟨hK,0,none⟩),.pointer (some ⟨W.heap.size,0,none⟩),.pointer (some ⟨Bx,0,none⟩),.pointer (some ⟨D,0,none⟩),.int .i64 sn,.slice Yr us.length XI,.func (.func 182) #[] #[.pointer (some ⟨W.heap.size+1,0,none⟩),.pointer (some ⟨W.heap.size+1+1,0,none⟩),.pointer (some ⟨W.heap.size+1+1+1,0,none⟩)],.agg #[.string x.a,.string x.b,.string x.r,.string x.c,.string x.d],undef,undef,undef,undef,undef,undef,undef,undef,undef,undef,undef,undef,undef,undef,undef,undef],defers:=[] })
  (fun x a' s X Y row hs hg hr=>by obtain⟨Bx,h,e⟩:=hs;exact⟨Bx,IL (B0:=W2.heap.size) (g:=Bx) (x:=x) () X Y row h hg hr,e⟩) ?assign ?body ?done
 case own =>
  refine OwnFrom.and (fun pre X Y row hs hg hr=>?_) (Te (by omega));obtain⟨xs,h1,h2⟩:=hs;exact⟨xs,h1,hJ xs X Y row h2 hg fun r e=>⟨by have:=(hr r e).1;have:=hB02.size;omega,(hr r e).2⟩⟩
 case tell =>
  rintro pre X ⟨⟨xs,h1,h2⟩,hb⟩;have hm:=hT _ _ h2;obtain⟨XB,cap',e,hso⟩:=mU hm.dat.dat.objs;injection e with ea eb ec;exact⟨hm.dat.dat.c2,hm.dat.dat.c4,by rw[ea];exact hso,hm.dat.rel,hb.d.c,hb.s.c,hb.u.c,hm.users⟩
 case assign =>
  rintro l' pre x X K ⟨⟨xs,h1,h2⟩,hb⟩ hKK;unfold Eo;gi_wp2;have hbl:af X (X.alloc (.cells #[.string x.a,.string x.b,.string x.r,.string x.c,.string x.d] 43)):=(V5 _ _).alloc (V4 _) _;exact hKK _ _ ((KeepsOthers.alloc _ _).from _) (KpI.below hbl) ⟨⟨xs,h1,nW hJ h2 hbl⟩,hb.bel hbl⟩ ⟨X.heap.size,World.alloc_heap_new X _,rfl⟩
 case body =>
  rintro l' pre x a' X hl hEx ⟨⟨xs,hrun,hJx⟩,NBX⟩ ⟨Bx,bX,rfl⟩;have hm:=hT _ _ hJx;obtain⟨nK,hmap⟩:=hm.map;obtain⟨c0,c1,c2,c3,c4,cl⟩:=bX.c;have bM:=hm.bM;have lM:=aL bM;obtain⟨hkey,hxf⟩:=IM hof huf hrf hEx
  gi_wp2_with fail
  refine⟨trivial,fun _=>by omega,(Rq (rR bK nK (YP++xs) x X hxf hmap)).mono ?_⟩;rintro e X2 ⟨rfl,hb2⟩;have J2':=nW hJ hJx hb2;have NB2:=NBX.bel hb2;cases hh:bY (YP++xs) x;case true=>
   have hr2:bW (ja (ag rs) ts) (pre++[x]) YP=YP++xs:=by rw[sV,hrun,wJ (.inl hh)]
   clear c0 c1 c2 c3 c4 cl bM lM hm;gi_wp2;refine⟨trivial,?_⟩;gi_wp2;refine⟨fun f h=>(by cases h),?_⟩;gi_wp2;exact⟨yM hb2,KpI.below hb2,⟨xs,hr2,J2'⟩,NB2⟩
  have bX2:=bX.bel hb2;have hm2:=hT _ _ J2';obtain⟨nK2,hmap2⟩:=hm2.map;have bM2:=hm2.bM;have bD2:=hm2.bD;obtain⟨d0,d1,d2,d3,d4,dl⟩:=bX2.c;clear c0 c1 c2 c3 c4 cl bM lM hm
  gi_wp2_with fail
  refine⟨trivial,fun _=>by omega,(Rq (Oj hm2.dat hmap2 hxf hts htl hsh hkey hm2.sch)).mono ?_⟩;rintro e X3 ⟨rfl,hb3⟩;have hb23:af X X3:=hb2.trans (hb3.mono hb2.size);have J3':=nW hJ J2' hb3;have NB3:=NB2.bel hb3;clear hm2;cases hv:ja (ag rs) ts (YP++xs) x;case false=>
   have hr2:bW (ja (ag rs) ts) (pre++[x]) YP=YP++xs:=by rw[sV,hrun,wJ (.inr hv)]
   clear d0 d1 d2 d3 d4 dl bM2 bD2;gi_wp2;refine⟨fun f h=>(by cases h),?_⟩;gi_wp2;exact⟨yM hb23,KpI.below hb23,⟨xs,hr2,J3'⟩,NB3⟩
  have hr2:bW (ja (ag rs) ts) (pre++[x]) YP=YP++(xs++[x]):=by rw[sV,hrun,El hh hv,WE]
  obtain⟨fn,tmps,assign,body,hy,hR⟩:=hY xs x X3 J3' ⟨hEx,fun hm=>by rw[fF.2 hm]at hh;cases hh⟩;unfold Eo at hy;obtain⟨f0,f1,f2,f3,f4,fl⟩:=(bX2.bel hb3).c;have yc:=NB3.y.c;have yl:=aL yc;unfold U1 at yc;clear d0 d1 d2 d3 d4 dl bM2 bD2;gi_wp2;refine⟨fun _=>by omega,(U2 hR).mono ?_⟩;rintro e X4 ⟨rfl,hJ4,hK4⟩;have hk24:KpO bK l X X4:=(KpO.below hb23).trans hK4;have NB4:=NB3.kp hK4;clear f0 f1 f2 f3 f4 fl yc yl hy;gi_wp2;exact⟨Rs hk24 (by omega) (by omega),hk24.toI,⟨xs++[x],hr2,hJ4⟩,NB4⟩
 case done =>
  rintro Dd ys X hDd hS ⟨⟨xs,h1,h2⟩,-⟩ hKd;rw[hS]at h1;gi_wp2;refine⟨by simp,.inl ⟨_,_,rfl,run_takeDeferred hKd,?_⟩⟩;exact⟨_,results_none rfl _ _ _,⟨_,rfl⟩,xs,h1,hJ.putObj _ h2 (by have:=hB02.size;omega) hKd rfl⟩
end Go.Proofs.YtcgdckphpjfmhaaGreatDoor
namespace Go.Proofs.YtcgdckphpjfmhaaGreatDoor
set_option linter.unusedVariables false
set_option maxRecDepth 100000
open ChangeShapes WideShapes ChangeAt RowKit Maps Go.Shelf
open Pl
theorem zi{K:Type}{enc:K->Value}{P:Program}{F:Fence}{nF:Nat}(w:ae){ops:Array Oper}{rest:List Oper}{o:Oper}{a:Act}{Q:Exit->Act->World->Prop}[DecidableEq K](hg:o.guard=none)(m x v:Operand)(t:TypeId)(hop:o.op=Op.mapUpdate t m x v)(k e:TypeId)(L:Keyed P k)(hinj:∀x y,enc x=enc y->x=y)(ht:P.underlying t=some (.map k e))(b n:Nat)(M:K->Option Value)
  (hm:a.eval m=.map (some b)) (hV:aN enc P k w b n M) (hn:n<maxLen) (y:K) (kl:Lit) (hx:a.eval x=enc y) (hkey:keyOf P k (enc y)=some kl) (u:Value) (hv:a.eval v=u)
  (hK:∀w',aN enc P k w' b (n+1) (lQ M y (some u))->w.grownBy w' (some b)->wpListIn F nF P ops Q rest (a.put o.dst undef) w'):wpListIn F nF P ops Q (o::rest) a w:=by
 refine wpListIn_plain hg fun K' hK'=>?_;obtain⟨w',hrun,r1,r2⟩:=hV.store L hinj ht hn hkey u;unfold Oper.wpIn;refine⟨by simp[Oper.about,hop],?_⟩;rw[Oper.semAt_plain F _ _ (by rw[hop];intro c hc';cases hc')];simp[execOp,hop,hm,hx,hv,hrun,Result.andThen];exact hK' _ _ (hK w' r1 r2)
theorem LV[DecidableEq Fc](out:Q04)(f:Fc):lQ (yI out) f (some (.agg #[]))=yI (out++[f]):=by
 funext y
 by_cases e:y=f
 ·subst e;rw[dY];unfold yI;rw[if_pos (fF.2 (by simp))]
 rw[cu e];unfold yI;have:bY (out++[f]) y=bY out y:=by
  rw[Wy,fF,fF];simp[e]
 rw[this]
def marks(rl:List Nat):List Deferred:=rl.map fun r=>{ target:=.collected r,args:=#[] }
def jd(W:World)(rl:List Nat):Prop:=rl.Nodup/\∀r∈rl,W.heap[r]?=some (.deferred (some []))
theorem jd.kp{b l:Nat}{W W':ae}{rl:List Nat}(h:jd W rl)(hk:KpO b l W W')(hl:l ∉ rl)(hb:b ∉ rl):jd W' rl :=
 ⟨h.1,fun r hr=>hk.other r _ (h.2 r hr) rfl (fun e=>hl (e ▸ hr)) (fun e=>hb (e ▸ hr))⟩
theorem jd.bel{W W':ae}{rl:List Nat}(h:jd W rl)(hb:af W W'):jd W' rl :=
 ⟨h.1,fun r hr=>(hb.block r (We.1 (h.2 r hr)).1).trans (h.2 r hr)⟩
theorem jd.lt{W:ae}{rl:List Nat}(h:jd W rl){r:Nat}(hr:r∈rl):r<W.heap.size:=(We.1 (h.2 r hr)).1
theorem wP{n:Nat}{P:Program}{fn:Func}{tmps:Array Value}{R:Ending->World->Prop}(B:Nat)(Inv:World->Prop)(hinv:∀W r,B<r->Inv W->W.heap[r]?=some (.deferred (some []))->Inv (W.putObj r (.deferred none)))(hend:∀W,Inv W->LeavesIn Fence.wide n P fn tmps R [] .returning W):∀(rl:List Nat) (W:ae),jd W rl->(∀r∈rl,B<r)->Inv W->LeavesInM Fence.wide n P fn tmps R (marks rl) .returning W
 | [],W,_,_,hI=>hend W hI
 | r::rl,W,hm,hB,hI=>by
  have hr:=hm.2 r (by simp);obtain⟨h1,h2⟩:=List.nodup_cons.1 hm.1;refine⟨by simp,.inl ⟨r,_,rfl,run_takeDeferred hr,wP B Inv hinv hend rl _ ⟨h2,fun q hq=>?_⟩ (fun q hq=>hB q (by simp[hq])) (hinv W r (hB r (by simp)) hI hr)⟩⟩;have hne:q≠r:=fun e=>h1 (e ▸ hq);rw[o9 hne];exact hm.2 q (by simp[hq])
theorem LW{b l:Nat}{W W':ae}{base size n:Nat}{T:TypeId}{v:Value}{xs:Q03}(h:W.ownsRow base T size v n xs)(hk:KpO b l W W')(h1:T≠43)(h2:T≠34):W'.ownsRow base T size v n xs :=
 dI h fun g hg=>by
  obtain⟨cur,e⟩:=jH h hg;rw[hk.cells g _ _ _ e h1 h2,e]
structure FBx(W:World)(B D:Nat)(sn:Int)(vU:Value)(bK:Nat):Prop where
 d:ic W B (.pointer (some ⟨D,0,none⟩)) 82
 s:ic W (B+1) (.int .i64 sn) 2
 u:ic W (B+1+1) vU 124
 k:ic W (B+1+1+1) (.map (some bK)) 117
theorem FBx.kp{b l0:Nat}{W W':ae}{B D:Nat}{sn:Int}{vU:Value}{bK:Nat}(h:FBx W B D sn vU bK)(hk:KpO b l0 W W'):FBx W' B D sn vU bK :=
 ⟨h.d.kp hk (by decide) (by decide),h.s.kp hk (by decide) (by decide),h.u.kp hk (by decide) (by decide),h.k.kp hk (by decide) (by decide)⟩
theorem Tf(w:ae)(D:Nat)(sn:Int)(vU:Value)(bK:Nat){W:ae}(hW:W=(((w.alloc (.cells #[.pointer (some ⟨D,0,none⟩)] 82)).alloc (.cells #[.int .i64 sn] 2)).alloc (.cells #[vU] 124)).alloc (.cells #[.map (some bK)] 117)):FBx W w.heap.size D sn vU bK/\af w W/\W.heap.size=w.heap.size+1+1+1+1:=by
 obtain⟨V1,e1⟩:∃V,V=w.alloc (.cells #[.pointer (some ⟨D,0,none⟩)] 82):=⟨_,rfl⟩;obtain⟨V2,e2⟩:∃V,V=V1.alloc (.cells #[.int .i64 sn] 2):=⟨_,rfl⟩;obtain⟨V3,e3⟩:∃V,V=V2.alloc (.cells #[vU] 124):=⟨_,rfl⟩;rw[<-e1,<-e2,<-e3]at hW;have t1:V1.heap.size=w.heap.size+1:=by rw[e1,World.size_alloc]
 have t2:V2.heap.size=w.heap.size+1+1:=by rw[e2,World.size_alloc,t1]
 have t3:V3.heap.size=w.heap.size+1+1+1:=by rw[e3,World.size_alloc,t2]
 have f1:af w V1:=by rw[e1];exact(V5 _ _).alloc (V4 _) _
 have f2:af V1 V2:=by rw[e2];exact(V5 _ _).alloc (V4 _) _
 have f3:af V2 V3:=by rw[e3];exact(V5 _ _).alloc (V4 _) _
 have f4:af V3 W:=by rw[hW];exact(V5 _ _).alloc (V4 _) _
 have g1:ic V1 w.heap.size (.pointer (some ⟨D,0,none⟩)) 82:=by rw[e1];exact World.alloc_heap_new w _
 have g2:ic V2 (w.heap.size+1) (.int .i64 sn) 2:=by rw[e2,<-t1];exact World.alloc_heap_new V1 _
 have g3:ic V3 (w.heap.size+1+1) vU 124:=by rw[e3,<-t2];exact World.alloc_heap_new V2 _
 have g4:ic W (w.heap.size+1+1+1) (.map (some bK)) 117:=by rw[hW,<-t3];exact World.alloc_heap_new V3 _
 have f12:=f1.trans (f2.mono f1.size);have f13:=f12.trans (f3.mono f12.size);exact⟨⟨((g1.bel f2).bel f3).bel f4,(g2.bel f3).bel f4,g3.bel f4,g4⟩,f13.trans (f4.mono f13.size),by rw[hW,World.size_alloc,t3]⟩
theorem Tg{β:Type}{b l:Nat}{X:ae}:OwnFrom X.heap.size (fun(_:β) Y=>KpO b l X Y):=fun s Y Z row hs hg hr=>by
 have key:∀ (g:Nat) (o:Obj),X.heap[g]?=some o->Y.heap[g]?=some o->Z.heap[g]?=some o:=fun g o h1 h2=>(hg.block g (We.1 h2).1 fun e=>by
  have h3:=(hr g e.symm).1;have h4:=(We.1 h1).1;omega).trans h2
 exact⟨Wh hs.size hg.size,fun g cs T m h h1 h2=>key g _ h (hs.cells g cs T m h h1 h2),fun g o h hc n1 n2=>key g _ h (hs.other g o h hc n1 n2)⟩
structure FoW(w X:World)(v:Value)(out:Q04):Prop where
 bel:af w X
 box:ic X w.heap.size v 34
 row:X.ownsRow (w.heap.size+1) 43 5 v out.length (aA out)
 map:aN kX prog 43 X (w.heap.size+1) out.length (yI out)
theorem FoW.below{w X X':ae}{v:Value}{out:Q04}(h:FoW w X v out)(hb:af X X'):FoW w X' v out :=
 ⟨h.bel.trans (hb.mono h.bel.size),h.box.bel hb,aH h.row hb,h.map.below hb⟩
theorem FoW.kept{w X X':ae}{v:Value}{out:Q04}(h:FoW w X v out){row:Option Nat}(hg:X.grownBy X' row)(hr:∀r,row=some r->w.heap.size+1<r/\(∃o,X.heap[r]?=some o/\o.isCells=false)):FoW w X' v out where
 bel:=h.bel.grown hg h.bel.size (fun g e=>by have:=(hr g e).1;omega)
 box:=(hg.block _ (We.1 h.box).1 fun e=>by have:=(hr _ e.symm).1;omega).trans h.box
 row:=dI h.row fun g hg2=>hg.block g (h.row.lt g hg2).2 fun e=>by
  obtain⟨-,o,ho,hc⟩:=hr g e.symm;obtain⟨cur,e2⟩:=jH h.row hg2;rw[e2]at ho;cases ho;cases hc
 map:=h.map.kept hg (fun e=>by have:=(hr _ e.symm).1;omega)
theorem FoW.step{w X Y V:ae}{v v':Value}{out:Q04}{f:Fc}[DecidableEq Fc](h:FoW w X v out)(hM:aN kX prog 43 Y (w.heap.size+1) (out.length+1) (lQ (yI out) f (some (.agg #[]))))(hg1:X.grownBy Y (some (w.heap.size+1)))
  {Y':World} (hY':af Y Y') (hown:V.ownsRow (w.heap.size+1) 43 5 v' (out.length+1) (aA out++f.row)) (hg2:Y'.grownBy V v.ownBlock) (hat:v'.ownBlock=v.ownBlock\/v'.ownBlock=some Y'.heap.size) (l:Nat) :
  FoW w (V.setCell ⟨w.heap.size,0,none⟩ v') v' (out++[f])/\KpO (w.heap.size+1) l X (V.setCell ⟨w.heap.size,0,none⟩ v')/\KeepsFrom (w.heap.size+1+1) X (V.setCell ⟨w.heap.size,0,none⟩ v'):=by
 obtain⟨es,c,hmb⟩:=qi h.map;have hlB:w.heap.size<X.heap.size:=(We.1 h.box).1;have hvB:v.ownBlock≠some w.heap.size:=fun e=>by have:=(h.row.lt _ e).1;omega
 have hvM:v.ownBlock≠some (w.heap.size+1):=fun e=>Fh h.row e hmb;have key:∀(g:Nat) (o:Obj),X.heap[g]?=some o->g≠w.heap.size+1->g≠w.heap.size->v.ownBlock≠some g->(V.setCell ⟨w.heap.size,0,none⟩ v').heap[g]?=some o:=fun g o hg n1 n2 n3=>by
  have hl:=(We.1 hg).1;have y1:Y.heap[g]?=some o:=(hg1.block g hl (fun e=>n1 (by injection e))).trans hg;have hl1:=(We.1 y1).1;have y2:Y'.heap[g]?=some o:=(hY'.block g hl1).trans y1;have hl2:=(We.1 y2).1;have y3:V.heap[g]?=some o:=(hg2.block g hl2 (fun e=>n3 e.symm)).trans y2;exact(heap_setCell_other V ⟨w.heap.size,0,none⟩ g v' n2).trans y3
 have hVB:V.heap[w.heap.size]?=some (.cells #[v] 34 (0,0)):=by
  have y1:Y.heap[w.heap.size]?=_:=(hg1.block _ hlB (fun e=>by injection e with e;omega)).trans h.box;have y2:Y'.heap[w.heap.size]?=_:=(hY'.block _ (We.1 y1).1).trans y1;exact(hg2.block _ (We.1 y2).1 (fun e=>hvB e.symm)).trans y2
 have b1:af w Y:=h.bel.grown hg1 h.bel.size (fun g e=>by injection e with e;omega);have b2:af w Y':=b1.trans (hY'.mono b1.size);have b3:af w V:=b2.grown hg2 b2.size (fun g e=>by have:=(h.row.lt g e).1;omega);have sz:X.heap.size<=(V.setCell ⟨w.heap.size,0,none⟩ v').heap.size:=by
  have e1:=hg1.size;have e2:=hY'.size;have e3:=hg2.size;simp;omega
 refine⟨⟨b3.setCell (V4 _) _,?_,?_,?_⟩,⟨sz,fun g cs T m hg h1 h2=>?_,fun g o hg hc n1 n2=>?_⟩,⟨sz,fun g o hB hg hc=>?_⟩⟩
 ·have:=heap_setCell_same V w.heap.size 0 #[v] _ v' hVB;unfold ic;simpa using this
 ·rw[qo,Wi];exact dI hown fun g hg=>heap_setCell_other V ⟨w.heap.size,0,none⟩ g v' (fun(e:g=w.heap.size)=>by have:=(hown.lt g hg).1;omega)
 ·rw[Wi,<-LV];exact((hM.below hY').kept hg2 (fun e=>hvM e.symm)).setCell (by show w.heap.size+1≠w.heap.size;omega) _
 ·refine key g _ hg (fun e=>?_) (fun e=>?_) (fun e=>?_)
  ·rw[e,hmb]at hg;cases hg
  ·rw[e,h.box]at hg;injection hg with hg;injection hg with _ hT;exact h2 hT.symm
  obtain⟨cur,e2⟩:=jH h.row e;rw[e2]at hg;injection hg with hg;injection hg with _ hT;exact h1 hT.symm
 ·refine key g _ hg n2 (fun e=>?_) (fun e=>?_)
  ·rw[e,h.box]at hg;injection hg with hg;subst hg;cases hc
  obtain⟨cur,e2⟩:=jH h.row e;rw[e2]at hg;injection hg with hg;subst hg;cases hc
 refine key g _ hg (by omega) (by omega) (fun e=>?_);obtain⟨cur,e2⟩:=jH h.row e;rw[e2]at hg;injection hg with hg;subst hg;cases hc
theorem tT.dropF{w:ae}{ad:Q02}{fs:Q04}(h:tT w ad fs)(k:Nat):tT w (Option.map (fun x=>Addr.add x (k*5)) ad) (fs.drop k):=by
 rcases h with h|⟨b,off,e,hb,hr⟩
 ·exact .inl (by rw[h];simp)
 have ea:Option.map (fun x=>Addr.add x (k*5)) ad=some ⟨b,off+k*5,none⟩:=by
  rw[e];simp[Addr.add]
 refine .inr ⟨b,off+k*5,ea,hb,fun i hi=>?_⟩;have hi2:k+i<fs.length:=by rw[WR]at hi;omega
 have h1:=hr (k+i) hi2;have e2:(fs.drop k)[i]=fs[k+i]:=by simp
 rw[e2];have e3:off+k*5+i*5=off+(k+i)*5:=by omega
 rw[e3];exact h1
theorem Ti{w:ae}{base size n cap:Nat}{T:TypeId}{ad:Q02}{xs:Q03}(h:w.ownsRow base T size (.slice ad n cap) n xs):n<=cap:=by
 rcases h.2 with⟨e,h0⟩|⟨g,cap',cur,e,h1,h2,h3,h4,h5,-⟩
 ·omega
 injection e with _ _ e3;omega
theorem Rt{Y Y1 Y2 V:ae}{B:Nat}{v:Value}{T:TypeId}(h:ic Y B v T)(hg1:Y.grownBy Y1 (some (B+1)))(hY2:af Y1 Y2)(hg2:Y2.grownBy V v.ownBlock)(hv:v.ownBlock≠some B):ic V B v T:=by
 have y1:Y1.heap[B]?=_:=(hg1.block _ (We.1 h).1 (fun e=>by injection e with e;omega)).trans h;have y2:Y2.heap[B]?=_:=(hY2.block _ (We.1 y1).1).trans y1;exact(hg2.block _ (We.1 y2).1 (fun e=>hv e.symm)).trans y2
theorem Ru{B B':Nat}{W W':ae}(h:KeepsFrom B W W')(hB:B<=B'):KeepsFrom B' W W':=⟨h.size,fun k o hk h1 h2=>h.same k o (Wh hB hk) h1 h2⟩
theorem KpO.after{b l l':Nat}{X Y Z:ae}(h:KpO b l X Y)(k:KpO b l' Y Z)(hl:X.heap.size<=l'):KpO b l X Z :=
 ⟨Wh h.size k.size,fun g cs T m hg h1 h2=>k.cells g cs T m (h.cells g cs T m hg h1 h2) h1 h2,fun g o hg hc h1 h2=>k.other g o (h.other g o hg hc h1 h2) hc (fun e=>by have:=(We.1 hg).1;omega) h2⟩
section
variable  [DecidableEq Fc]
theorem CK(ad:Q02)(cap:Nat)(fs:Q04)(w:ae)(hl:fs.length<=1048576)(hs:tT w ad fs)(hf:∀x∈fs,x.fits):
  Calls prog 66 #[.slice ad fs.length cap] w fun e w'=>(∃b n,e=.returned (.map (some b))/\aN kX prog 43 w' b n (yI fs))/\af w w':=by
 have hmm:=@run_makeMap prog;obtain⟨W0,hW0⟩:∃W0,W0=w.alloc (.map #[] 0):=⟨_,rfl⟩;have HB0:=nC hW0;have HV0:Hid (aN kX prog 43 W0 w.heap.size 0 (yI (fs.take 0))):=by
  have h:=lX kX prog 43 w;show aN _ _ _ _ _ _ _;rw[hW0];exact h
 have hz0:w.heap.size<W0.heap.size:=by rw[hW0];simp
 have HS:=ak hs;have HF:=ak hf;clear hs hf;go_enter func66,ntmps66;go_wp2_with fail;rw[<-hW0];clear hW0 hmm;go_loopw[9] (fun i wr=>∃k:Nat,k<=fs.length/\i=.int .i64 k/\Hid (aN kX prog 43 wr w.heap.size k (yI (fs.take k)))/\Hid (af w wr)/\Hid (w.heap.size<wr.heap.size)) (fun i _=>fs.length-(intOf i).toNat);case atStart=>exact⟨0,Wd _,rfl,HV0,HB0,hz0⟩
 clear HV0 HB0 hz0;obtain⟨k,hk,rfl,HV,HB,HZ⟩:=hrel;by_cases hlt:k<fs.length
 ·obtain⟨b,off,Xx,⟨t0,t1,t2,t3,t4⟩,hbl⟩:=tT.at0 (HS.out.below HB.out) hlt;have hi1:=bC k;have hi2:(k:Int)<(fs.length:Int):=by omega
  have HT:Hid (fs.take (k+1)=fs.take k++[fs[k]]):=V8 hlt;obtain⟨kl,hkl⟩:=BI fs[k] (HF.out _ (VZ hlt));obtain⟨x,hx⟩:∃x,x=fs[k]:=⟨_,rfl⟩;rw[<-hx]at t0 t1 t2 t3 t4 HT hkl;have Yp:=ak hkl;clear hx hkl;obtain⟨W1,hW1⟩:∃W1,W1=wr.alloc (.cells #[.string x.a,.string x.b,.string x.r,.string x.c,.string x.d] 43):=⟨_,rfl⟩;have Yj:=nC hW1;have HV1:=ak (HV.out.below Yj.out);have HB1:=ak (HB.out.trans (Yj.out.mono HB.out.size));have hz1:w.heap.size<W1.heap.size:=VY HZ.out Yj.out.size;subst Xx;clear HV HB Yj;go_wp2_with(at_mapUpdate;rw[<-hW1];clear hW1;refine kw _ rfl _ _ _ 117 rfl 43 157 Ki Hw underlying117 w.heap.size k _ rfl HV1.out (by unfold maxLen;omega) x kl rfl Yp.out (.agg #[]) rfl ?_);intro w2 hM2 hg2;have HV2:Hid (aN kX prog 43 w2 w.heap.size (k+1) (yI (fs.take (k+1)))):=by show aN _ _ _ _ _ _ _;rw[HT.out,<-LV];exact hM2
  have HB2:Hid (af w w2):=HB1.out.grown hg2 HB1.out.size (fun g hg=>by injection hg with hg;omega);have HZ2:Hid (w.heap.size<w2.heap.size):=VY hz1 hg2.size;clear hM2 hg2 t0 t1 t2 t3 t4;go_wp2;go_roundw;case rel=>exact⟨k+1,by omega,by go_num,HV2,HB2,HZ2⟩
  simp[intOf]<;>omega
 have HVE:Hid (aN kX prog 43 wr w.heap.size k (yI fs)):=by
  have h:=HV.out;rw[WL (by omega)]at h;exact h
 go_wp2;go_ret;exact⟨⟨_,_,rfl,HVE.out⟩,HB.out⟩
end
def dZ(L R:Q04):List Fc:=L.filter fun x=>!bY R x
theorem Et{L R:Q04}{k:Nat}(hk:k<L.length):dZ (L.take (k+1)) R=dZ (L.take k) R++(if bY R L[k] then [] else [L[k]]):=by
 unfold dZ;rw[V8 hk,Xn];congr 1;rw[Xm];cases bY R L[k]<;>rfl
theorem wQ(L R:Q04):(dZ L R).length<=L.length:=List.length_filter_le _ _
def VK(w:World)(B:Q04)(e:Ending)(w':World):Prop:=(∃v,e=.returned v/\w'.ownsRow w.heap.size 43 5 v B.length (aA B))/\af w w'
theorem yN[DecidableEq Fc](ad:Q02)(cap:Nat)(L:Q04)(XB:Q02)(cap':Nat)(R:Q04)(w:ae)(hLl:L.length<=115200)(hRl:R.length<=115200)(hs:tT w ad L)(hs':tT w XB R)(hf:∀x∈L,x.fits)(hf':∀x∈R,x.fits):
  Calls prog 34 #[.slice ad L.length cap,.slice XB R.length cap'] w (VK w (dZ L R)):=by
 obtain⟨iF,h0,h1,h2,h3⟩:=wE;have HIF:=ak (And.intro h0 (And.intro h1 (And.intro h2 h3)));have HSF:=ak hs;have HFL:=ak hf;have HFS:=ak (CK XB cap' R w (by omega) hs' hf');clear h0 h1 h2 h3 hs hs' hf hf';go_enter func34,ntmps34;go_wp2_with fail;refine HFS.out.mono ?_;rintro e w1 ⟨⟨bK,nK,rfl,hV⟩,hb1⟩;have HV:=ak hV;have HB1:=ak hb1;clear hV hb1 HFS;have Yz:Hid (w1.ownsRow w1.heap.size 43 5 (.slice none 0 0) (dZ (L.take 0) R).length (aA (dZ (L.take 0) R))):=World.ownsRow_nil _ _ _ _;go_wp2_with fail;go_loopw[5,13] (fun v i wr=>∃k:Nat,k<=L.length/\i=.int .i64 k/\Hid (wr.ownsRow w1.heap.size 43 5 v (dZ (L.take k) R).length (aA (dZ (L.take k) R)))/\Hid (af w1 wr)) (fun _ i _=>L.length-(intOf i).toNat);case atStart=>exact⟨0,Wd _,rfl,Yz,V5 _ _⟩
 clear Yz;obtain⟨k,hk,rfl,HO,HB⟩:=hrel;by_cases hlk:k<L.length
 ·obtain⟨b,off,Xx,⟨t0,t1,t2,t3,t4⟩,hbl⟩:=tT.at0 ((HSF.out.below HB1.out).below HB.out) hlk;have hi1:=bC k;have hi2:(k:Int)<(L.length:Int):=by omega
  have Zx:=ak (Et (R:=R) hlk);have hkl:=wQ (L.take k) R;rw[WK]at hkl;have Zw:=ak (HFL.out L[k] (VZ hlk));obtain⟨x,hx⟩:∃x,x=L[k]:=⟨_,rfl⟩;rw[<-hx]at t0 t1 t2 t3 t4 Zx Zw;clear hx;obtain⟨W1,hW1⟩:∃W1,W1=wr.alloc (.cells #[.string x.a,.string x.b,.string x.r,.string x.c,.string x.d] 43):=⟨_,rfl⟩;have Yj:=nC hW1;have hn8:W1.cell? ⟨wr.heap.size,0,none⟩=some (.string x.a)/\W1.cell? ⟨wr.heap.size,1,none⟩=some (.string x.b)/\W1.cell? ⟨wr.heap.size,2,none⟩=some (.string x.r)/\W1.cell? ⟨wr.heap.size,3,none⟩=some (.string x.c)/\W1.cell? ⟨wr.heap.size,4,none⟩=some (.string x.d):=by
   rw[hW1];refine⟨?_,?_,?_,?_,?_⟩<;>simp
  have HN8:=ak hn8;have Xz:=ak (HB.out.trans (Yj.out.mono HB.out.size));have XD:=ak (aH HO.out Yj.out);obtain⟨n8,hn8'⟩:∃n8,n8=wr.heap.size:=⟨_,rfl⟩;have hl8:n8<W1.heap.size:=by rw[hW1,hn8'];simp
  obtain⟨ys,hys⟩:∃ys,ys=dZ (L.take k) R:=⟨_,rfl⟩;rw[<-hys]at XD Zx hkl;obtain⟨adV,YY,rfl,-⟩:=jc XD.out;subst Xx;clear hys HO Yj hn8;have HHS:=ak (rR bK nK R x W1 Zw.out (HV.out.below Xz.out));go_wp2_with fail;rw[<-hW1];rw[<-hn8']at HN8 ⊢;clear hW1 hn8' t0 t1 t2 t3 t4;refine HHS.out.mono ?_;rintro e w2 ⟨rfl,hb2⟩;have HB2:=ak (Xz.out.trans (hb2.mono Xz.out.size));have Xv:=ak (aH XD.out hb2);obtain⟨y0,y1,y2,y3,y4⟩:=HN8.out;replace y0:=aU hb2 hl8 y0;replace y1:=aU hb2 hl8 y1;replace y2:=aU hb2 hl8 y2;replace y3:=aU hb2 hl8 y3;replace y4:=aU hb2 hl8 y4;replace hl8:=VY hl8 hb2.size;clear HHS HN8 XD Xz hb2;obtain⟨q,hq⟩:∃q,bY R x=q:=⟨_,rfl⟩;rw[hq]at Zx ⊢;clear hq;cases q;case true=>
   have HR:Hid (w2.ownsRow w1.heap.size 43 5 (.slice adV ys.length YY) (dZ (L.take (k+1)) R).length (aA (dZ (L.take (k+1)) R))):=by
    show World.ownsRow _ _ _ _ _ _ _;rw[Zx.out];simp only[if_true,WS];exact Xv.out
   clear y0 y1 y2 y3 y4;go_wp2;go_roundw;case rel=>exact⟨k+1,by omega,by go_num,HR,HB2⟩
   simp[intOf]<;>omega
  have HWE:Hid (dZ (L.take (k+1)) R=ys++[x]):=by show _=_;rw[Zx.out];simp
  obtain⟨W4,Yg⟩:∃W4,W4=w2.alloc (.cells #[.string x.a,.string x.b,.string x.r,.string x.c,.string x.d] 43):=⟨_,rfl⟩;have XE:Hid (W4.ownsRow w1.heap.size 43 5 (.slice adV ys.length YY) ys.length (aA ys)):=by show World.ownsRow _ _ _ _ _ _ _;rw[Yg];exact Xv.out.alloc _
  have HN4:Hid (∀j u,x.row[j]?=some u->W4.cell? ((⟨w2.heap.size,0,none⟩:Addr).add j)=some u):=by rw[Yg];exact Ec w2 x
  have YA:Hid (af w1 W4):=by show Below _ _ _;rw[Yg];exact HB2.out.alloc HB2.out.size _
  have hsz4:w1.heap.size<=W4.heap.size:=YA.out.size;go_wp2_with(at_builtin;rw[<-Yg];clear Yg;refine wpList_append_own_at _ rfl _ _ 34 rfl w1.heap.size 43 iF (.agg #[.string ⟨#[]⟩,.string ⟨#[]⟩,.string ⟨#[]⟩,.string ⟨#[]⟩,.string ⟨#[]⟩]) 5 80 underlying34 HIF.out.1 HIF.out.2.1 HIF.out.2.2.1 HIF.out.2.2.2 rfl (by decide) _ ys.length (aA ys) rfl XE.out ⟨w2.heap.size,0,none⟩ 1 1 x.row rfl rfl HN4.out (by simp[Fc.row,Value.oneCell']) (by unfold maxLen;omega) (by omega) hsz4 ?_);intro v' w5 hown hgr _ _;have HR:Hid (w5.ownsRow w1.heap.size 43 5 v' (dZ (L.take (k+1)) R).length (aA (dZ (L.take (k+1)) R))):=by
   show World.ownsRow _ _ _ _ _ _ _;rw[HWE.out,Wi,qo];exact hown
  have ZV:Hid (af w1 w5):=YA.out.grown hgr YA.out.size (fun g hg=>(XE.out.lt g hg).1);clear hown hgr y0 y1 y2 y3 y4;go_wp2;go_roundw;case rel=>exact⟨k+1,by omega,by go_num,HR,ZV⟩
  simp[intOf]<;>omega
 have HE:Hid (wr.ownsRow w.heap.size 43 5 u5 (dZ L R).length (aA (dZ L R))):=by
  have h:=HO.out;rw[WL (by omega)]at h;exact ma h HB1.out.size
 have HBE:Hid (af w wr):=HB1.out.trans (HB.out.mono HB1.out.size);clear HO;go_wp2;go_ret;exact⟨⟨_,rfl,HE.out⟩,HBE.out⟩
theorem wR(ad:Q02)(cap:Nat)(L:Q04)(XB:Q02)(cap':Nat)(R:Q04)(w:ae)(hLl:L.length<=115200)(hRl:R.length<=115200)(hs:tT w ad L)(hs':tT w XB R):
  Calls prog 37 #[.slice ad L.length cap,.slice XB R.length cap'] w (VK w (dZ L R)):=by
 obtain⟨iF,h0,h1,h2,h3⟩:=wE;have HIF:=ak (And.intro h0 (And.intro h1 (And.intro h2 h3)));have HSF:=ak hs;have HSR:=ak hs';clear h0 h1 h2 h3 hs hs';obtain⟨W2,hW2⟩:∃W2,W2=w.alloc (.cells #[] 43):=⟨_,rfl⟩;have Yz:Hid (W2.ownsRow w.heap.size 43 5 (.slice (some ⟨w.heap.size,0,none⟩) 0 0) (dZ (L.take 0) R).length (aA (dZ (L.take 0) R))):=by
  show World.ownsRow _ _ _ _ _ _ _;rw[hW2];exact World.ownsRow_lit w #[] 0 (V4 _) (by unfold maxLen;omega) (by simp)
 have HB2:=nC hW2;go_enter func37,ntmps37;go_wp2_with fail;rw[<-hW2];clear hW2;go_loopw[5,6] (fun v i wr=>∃k:Nat,k<=L.length/\i=.int .i64 k/\Hid (wr.ownsRow w.heap.size 43 5 v (dZ (L.take k) R).length (aA (dZ (L.take k) R)))/\Hid (af w wr)) (fun _ i _=>L.length-(intOf i).toNat);case atStart=>exact⟨0,Wd _,rfl,Yz,HB2.out⟩
 clear Yz HB2;obtain⟨k,hk,rfl,HO,HB⟩:=hrel;by_cases hlk:k<L.length
 ·obtain⟨b,off,Xx,⟨t0,t1,t2,t3,t4⟩,hbl⟩:=tT.at0 (HSF.out.below HB.out) hlk;have hi1:=bC k;have hi2:(k:Int)<(L.length:Int):=by omega
  have Zx:=ak (Et (R:=R) hlk);have hkl:=wQ (L.take k) R;rw[WK]at hkl;obtain⟨x,hx⟩:∃x,x=L[k]:=⟨_,rfl⟩;rw[<-hx]at t0 t1 t2 t3 t4 Zx;clear hx;have XD:=HO;obtain⟨ys,hys⟩:∃ys,ys=dZ (L.take k) R:=⟨_,rfl⟩;rw[<-hys]at XD Zx hkl;obtain⟨adV,YY,rfl,-⟩:=jc XD.out;subst Xx;clear hys HO;have HHS:=ak (oU XB cap' R x wr (by omega) (HSR.out.below HB.out));go_wp2_with fail;refine HHS.out.mono ?_;rintro e w2 ⟨rfl,hb2⟩;have HB2:=ak (HB.out.trans (hb2.mono HB.out.size));have Xv:=ak (aH XD.out hb2);replace t0:=aU hb2 hbl t0;replace t1:=aU hb2 hbl t1;replace t2:=aU hb2 hbl t2;replace t3:=aU hb2 hbl t3;replace t4:=aU hb2 hbl t4;clear HHS XD hb2;obtain⟨q,hq⟩:∃q,bY R x=q:=⟨_,rfl⟩;rw[hq]at Zx ⊢;clear hq;cases q;case true=>
   have HR:Hid (w2.ownsRow w.heap.size 43 5 (.slice adV ys.length YY) (dZ (L.take (k+1)) R).length (aA (dZ (L.take (k+1)) R))):=by
    show World.ownsRow _ _ _ _ _ _ _;rw[Zx.out];simp only[if_true,WS];exact Xv.out
   clear t0 t1 t2 t3 t4;go_wp2;go_roundw;case rel=>exact⟨k+1,by omega,by go_num,HR,HB2⟩
   simp[intOf]<;>omega
  have HWE:Hid (dZ (L.take (k+1)) R=ys++[x]):=by show _=_;rw[Zx.out];simp
  obtain⟨W4,Yg⟩:∃W4,W4=w2.alloc (.cells #[.string x.a,.string x.b,.string x.r,.string x.c,.string x.d] 43):=⟨_,rfl⟩;have XE:Hid (W4.ownsRow w.heap.size 43 5 (.slice adV ys.length YY) ys.length (aA ys)):=by show World.ownsRow _ _ _ _ _ _ _;rw[Yg];exact Xv.out.alloc _
  have HN4:Hid (∀j u,x.row[j]?=some u->W4.cell? ((⟨w2.heap.size,0,none⟩:Addr).add j)=some u):=by rw[Yg];exact Ec w2 x
  have YA:Hid (af w W4):=by show Below _ _ _;rw[Yg];exact HB2.out.alloc HB2.out.size _
  have hsz4:w.heap.size<=W4.heap.size:=YA.out.size;go_wp2_with(at_builtin;rw[<-Yg];clear Yg;refine wpList_append_own_at _ rfl _ _ 34 rfl w.heap.size 43 iF (.agg #[.string ⟨#[]⟩,.string ⟨#[]⟩,.string ⟨#[]⟩,.string ⟨#[]⟩,.string ⟨#[]⟩]) 5 80 underlying34 HIF.out.1 HIF.out.2.1 HIF.out.2.2.1 HIF.out.2.2.2 rfl (by decide) _ ys.length (aA ys) rfl XE.out ⟨w2.heap.size,0,none⟩ 1 1 x.row rfl rfl HN4.out (by simp[Fc.row,Value.oneCell']) (by unfold maxLen;omega) (by omega) hsz4 ?_);intro v' w5 hown hgr _ _;have HR:Hid (w5.ownsRow w.heap.size 43 5 v' (dZ (L.take (k+1)) R).length (aA (dZ (L.take (k+1)) R))):=by
   show World.ownsRow _ _ _ _ _ _ _;rw[HWE.out,Wi,qo];exact hown
  have ZV:Hid (af w w5):=YA.out.grown hgr YA.out.size (fun g hg=>(XE.out.lt g hg).1);clear hown hgr t0 t1 t2 t3 t4;go_wp2;go_roundw;case rel=>exact⟨k+1,by omega,by go_num,HR,ZV⟩
  simp[intOf]<;>omega
 have HE:Hid (wr.ownsRow w.heap.size 43 5 u5 (dZ L R).length (aA (dZ L R))):=by
  have h:=HO.out;rw[WL (by omega)]at h;exact h
 clear HO;go_wp2;go_ret;exact⟨⟨_,rfl,HE.out⟩,HB.out⟩
set_option linter.unusedSectionVars false
theorem Rv{L R:Q04}{x:Fc}(h:bY L x=true):bY (dZ L R) x=!bY R x:=by
 rw[Wy,fF];unfold dZ;rw[WW];exact⟨fun h=>h.2,fun h2=>⟨fF.1 h,h2⟩⟩
theorem Eu(L R:Q04):(dZ L R).length+(L.filter fun x=>bY R x).length=L.length:=by
 unfold dZ
 induction L with
 | nil=>rfl
 | cons a L ih =>
  rw[Xm,Xm];cases bY R a<;>simp only[Bool.not_true,Bool.not_false,if_true,Bool.false_eq_true,if_false,WH]<;>omega
theorem Rx{L R:Q04}(hL:L.Nodup)(hR:R.Nodup):(L.filter fun x=>bY R x).length=(R.filter fun x=>bY L x).length:=by
 refine List.Perm.length_eq ?_;refine(List.perm_ext_iff_of_nodup (hL.filter _) (hR.filter _)).2 fun x=>?_;rw[WW,WW,fF,fF];exact⟨fun h=>⟨h.2,h.1⟩,fun h=>⟨h.2,h.1⟩⟩
theorem Om{was now:Q04}(h1:was.Nodup)(h2:now.Nodup):was.length+(dZ now was).length=now.length+(dZ was now).length:=by
 have e1:=Eu now was;have e2:=Eu was now;have e3:=Rx h1 h2;omega
end Go.Proofs.YtcgdckphpjfmhaaGreatDoor
