/- What the drawing of a change answers: a change of short strings; nothing that was there is touched. -/
import Derived.Test.YtcgdckphpjfmhaaGreatDoorSq
import Derived.Test.YtcgdckphpjfmhaaGreatDoorJ13
import Derived.Test.YtcgdckphpjfmhaaGreatDoorJ20
open Go.Proofs.Tryz
set_option maxHeartbeats 80000000
namespace Go.Proofs.YtcgdckphpjfmhaaGreatDoor
open ChangeShapes WideShapes ChangeAt RowKit Maps
open Pl
def uA(w:World)(R n:Nat)(k:Int)(a b r c d s:ByteArray):Prop:=n≠R/\n<w.heap.size/\(∀o,w.frozen? ⟨n,o,none⟩=false)/\w.cell? ⟨n,0,none⟩=some (.int .i64 k)/\w.cell? ⟨n,1,none⟩=some (.string a)/\w.cell? ⟨n,2,none⟩=some (.string b)/\w.cell? ⟨n,3,none⟩=some (.string r)/\w.cell? ⟨n,4,none⟩=some (.string c)/\w.cell? ⟨n,5,none⟩=some (.string d)/\w.cell? ⟨n,6,none⟩=some (.string s)
theorem uA.only{w w':ae}{R n:Nat}{k:Int}{a b r c d s:ByteArray}(h:uA w R n k a b r c d s)(hO:Only R w w'):uA w' R n k a b r c d s:=by
 obtain⟨h1,h2,h3,c0,c1,c2,c3,c4,c5,c6⟩:=h;have hc:=fun o=>hO.cell (b:=n) (o:=o) h2 h1;exact⟨h1,Vy h2 hO.size,fun o=>(hO.frozen (o:=o) h2 h1).trans (h3 o),(hc 0).trans c0,(hc 1).trans c1,(hc 2).trans c2,(hc 3).trans c3,(hc 4).trans c4,(hc 5).trans c5,(hc 6).trans c6⟩
theorem uA.alloc{w:ae}{R n:Nat}{k:Int}{a b r c d s:ByteArray}(h:uA w R n k a b r c d s)(o:Obj):uA (w.alloc o) R n k a b r c d s:=h.only ((Only.refl R w).alloc o)
theorem Fh{w:ae}{R:Nat}(hR:R<w.heap.size)(t:TypeId)(k:Int)(a b r c d s:bW):uA (w.alloc (.cells #[.int .i64 k,.string a,.string b,.string r,.string c,.string d,.string s] t)) R w.heap.size k a b r c d s:=by
 refine⟨by omega,by simp,fun o=>by simp,?_,?_,?_,?_,?_,?_,?_⟩<;>simp
theorem Uq{w:ae}{n m i j:Nat}{v:Value}(h:n≠m\/i≠j):(w.setCell ⟨n,i,none⟩ v).cell? ⟨m,j,none⟩=w.cell? ⟨m,j,none⟩:=by
 apply World.cell?_setCell_other;intro e;have kc:=congrArg Addr.block e;have e2:=congrArg Addr.off e;rcases h with h|h
 ·exact h kc
 exact h e2
theorem Sa{w:ae}{a:Addr}{v u:Value}(h:w.cell? a=some u):(w.setCell a v).cell? a=some v:=World.cell?_setCell_same _ _ _ h
theorem uA.set{w:ae}{R n:Nat}{k k':Int}{a b r c d s a' b' r' c' d' s':ByteArray}(h:uA w R n k a b r c d s):uA (((((((w.setCell ⟨n,0,none⟩ (.int .i64 k')).setCell ⟨n,1,none⟩ (.string a')).setCell ⟨n,2,none⟩ (.string b')).setCell ⟨n,3,none⟩ (.string r')).setCell ⟨n,4,none⟩ (.string c')).setCell ⟨n,5,none⟩ (.string d')).setCell ⟨n,6,none⟩ (.string s')) R n k' a' b' r' c' d' s':=by
 obtain⟨h1,h2,h3,c0,c1,c2,c3,c4,c5,c6⟩:=h;refine⟨h1,by simpa using h2,fun o=>by simpa using h3 o,?_,?_,?_,?_,?_,?_,?_⟩
 all_goals(repeat rw[Uq (.inr (by omega))])
 all_goals exact Sa (u:=_) (by (repeat rw[Uq (.inr (by omega))]);assumption)
theorem uA.setOther{w:ae}{R n m:Nat}{k k':Int}{a b r c d s a' b' r' c' d' s':ByteArray}(h:uA w R m k a b r c d s)(hn:n≠m):uA (((((((w.setCell ⟨n,0,none⟩ (.int .i64 k')).setCell ⟨n,1,none⟩ (.string a')).setCell ⟨n,2,none⟩ (.string b')).setCell ⟨n,3,none⟩ (.string r')).setCell ⟨n,4,none⟩ (.string c')).setCell ⟨n,5,none⟩ (.string d')).setCell ⟨n,6,none⟩ (.string s')) R m k a b r c d s:=by
 obtain⟨h1,h2,h3,c0,c1,c2,c3,c4,c5,c6⟩:=h;refine⟨h1,by simpa using h2,fun o=>by simpa using h3 o,?_,?_,?_,?_,?_,?_,?_⟩
 all_goals((repeat rw[Uq (.inl hn)]);assumption)
theorem xz{w a0:ae}{R n:Nat}{k':Int}{a' b' r' c' d' s':ByteArray}(h:Only R a0 w)(hn:a0.heap.size<=n):Only R a0 (((((((w.setCell ⟨n,0,none⟩ (.int .i64 k')).setCell ⟨n,1,none⟩ (.string a')).setCell ⟨n,2,none⟩ (.string b')).setCell ⟨n,3,none⟩ (.string r')).setCell ⟨n,4,none⟩ (.string c')).setCell ⟨n,5,none⟩ (.string d')).setCell ⟨n,6,none⟩ (.string s')) :=
 ((((((h.setNew hn).setNew hn).setNew hn).setNew hn).setNew hn).setNew hn).setNew hn
theorem Fj{w:ae}{R n:Nat}{ad:Q02}{len cap:Nat}{k':Int}{a' b' r' c' d' s':ByteArray}(h:Rd w R ad len cap)(hn:n≠R)(hb:0<len->∀b off,ad=some ⟨b,off,none⟩->b≠n):Rd (((((((w.setCell ⟨n,0,none⟩ (.int .i64 k')).setCell ⟨n,1,none⟩ (.string a')).setCell ⟨n,2,none⟩ (.string b')).setCell ⟨n,3,none⟩ (.string r')).setCell ⟨n,4,none⟩ (.string c')).setCell ⟨n,5,none⟩ (.string d')).setCell ⟨n,6,none⟩ (.string s')) R ad len cap :=
 ((((((h.setFar hn hb).setFar hn hb).setFar hn hb).setFar hn hb).setFar hn hb).setFar hn hb).setFar hn hb
def Vf(R:Nat)(ad:Q02)(len cap:Nat)(w:World)(e:Ending)(w':World):Prop:=(∃(k:Int) (a b r c d s:ByteArray),e=.returned (.agg #[.int .i64 k,.string a,.string b,.string r,.string c,.string d,.string s])/\a.size<=20/\b.size<=20/\r.size<=20/\c.size<=20/\d.size<=20/\s.size<=20)/\Rd w' R ad len cap/\Only R w w'
theorem H6{R:Nat}{ad:Q02}{len cap:Nat}{w w':ae}{k:Int}{a b r c d s:ByteArray}(ht:a.size<=20/\b.size<=20/\r.size<=20/\c.size<=20/\d.size<=20/\s.size<=20)(hR:Rd w' R ad len cap)(hO:Only R w w'):Vf R ad len cap w (.returned (.agg #[.int .i64 k,.string a,.string b,.string r,.string c,.string d,.string s])) w':=⟨⟨k,a,b,r,c,d,s,rfl,ht⟩,hR,hO⟩
theorem Kj(R:Nat)(ad:Q02)(len cap g c0:Nat)(ts:Q05)(w:ae)(h:Rd w R ad len cap)(hlen:ts.length<=20)(hsh:p8 ts)(hrow:dE w g 0 ts)(hg:g<w.heap.size)(hgR:g≠R):
  Calls prog 65 #[.pointer (some ⟨R,0,none⟩),.slice (some ⟨g,0,none⟩) ts.length c0] w fun e w'=>Vf R ad len cap w e w':=by
 have hRw:=h.lt;have HFAR:Hid (0<len->∀b off,ad=some ⟨b,off,none⟩->b<w.heap.size):=fun h0 b off e=>by
  obtain⟨b',off',e',-,hbl,-⟩:=h.bytes h0;rw[e]at e';injection e' with e';injection e' with e1 e2;omega
 obtain⟨W0,hW0⟩:∃W0,W0=w.alloc (.cells #[.int .i64 0,.string ⟨#[]⟩,.string ⟨#[]⟩,.string ⟨#[]⟩,.string ⟨#[]⟩,.string ⟨#[]⟩,.string ⟨#[]⟩] 31):=⟨_,rfl⟩;have YT:Hid (uA W0 R w.heap.size 0 ⟨#[]⟩ ⟨#[]⟩ ⟨#[]⟩ ⟨#[]⟩ ⟨#[]⟩ ⟨#[]⟩):=by show uA _ _ _ _ _ _ _ _ _ _;rw[hW0];exact Fh hRw _ _ _ _ _ _ _ _
 have XZ:Hid (Rd W0 R ad len cap):=by show Rd _ _ _ _ _;rw[hW0];exact h.alloc _
 have Y0:Hid (Only R w W0):=by show Only _ _ _;rw[hW0];exact(Only.refl _ _).alloc _
 have HRow:Hid (∀W,Only R w W->dE W g 0 ts):=fun W hO i hi=>by
  obtain⟨x0,x1,x2,x3,x4,x5⟩:=hrow i hi;have hc:=fun o=>hO.cell (b:=g) (o:=o) hg hgR;exact⟨(hc _).trans x0,(hc _).trans x1,(hc _).trans x2,(hc _).trans x3,(hc _).trans x4,(hc _).trans x5⟩
 have HSH:=aC hsh;clear h hrow hsh;go_enter func65,ntmps65;go_wp2_with fail;rw[<-hW0];clear hW0;refine(LD R ad len cap _ XZ.out).mono ?_;rintro e w1 ⟨⟨a,b,r,c,d,s,rfl,ha,hb,hr,hc,hd,hs⟩,Xv,Xq⟩;have HT:Hid (a.size<=20/\b.size<=20/\r.size<=20/\c.size<=20/\d.size<=20/\s.size<=20):=⟨ha,hb,hr,hc,hd,hs⟩;obtain⟨W1,hW1⟩:∃W1,W1=w1.alloc (.cells #[.int .i64 1,.string a,.string b,.string r,.string c,.string d,.string s] 31):=⟨_,rfl⟩;have HS1:Hid (uA W1 R w.heap.size 0 ⟨#[]⟩ ⟨#[]⟩ ⟨#[]⟩ ⟨#[]⟩ ⟨#[]⟩ ⟨#[]⟩):=by show uA _ _ _ _ _ _ _ _ _ _;rw[hW1];exact(YT.out.only Xq).alloc _
 have XL:Hid (uA W1 R w1.heap.size 1 a b r c d s):=by show uA _ _ _ _ _ _ _ _ _ _;rw[hW1];exact Fh Xv.lt _ _ _ _ _ _ _ _
 have HR1:Hid (Rd W1 R ad len cap):=by show Rd _ _ _ _ _;rw[hW1];exact Xv.alloc _
 have Xj:Hid (Only R w W1):=by show Only _ _ _;rw[hW1];exact(Y0.out.trans Xq).alloc _
 have hBw:w.heap.size<w1.heap.size:=by have:=YT.out.2.1;have:=Xq.size;omega
 clear ha hb hr hc hd hs Xv Xq XZ Y0 YT;by_cases hts:ts.length=0
 case' pos =>
  have hdc:decide ((0:Int)<(ts.length:Int))=false:=by simp[hts]
  have hdc2:decide (0<ts.length)=false:=by simp[hts]
  clear hts;go_wp2_with fail;rw[<-hW1];clear hW1;obtain⟨wj,k1,ka,kb,kr,kc,kd,ks,hwj,HSJ,HCJ,HRJ,HOJ,HTJ⟩:∃(wj:World) (k1:Int) (ka kb kr kc kd ks:ByteArray),wj=W1/\Hid (uA wj R w.heap.size 0 ⟨#[]⟩ ⟨#[]⟩ ⟨#[]⟩ ⟨#[]⟩ ⟨#[]⟩ ⟨#[]⟩)/\Hid (uA wj R w1.heap.size k1 ka kb kr kc kd ks)/\Hid (Rd wj R ad len cap)/\Hid (Only R w wj)/\Hid (ka.size<=20/\kb.size<=20/\kr.size<=20/\kc.size<=20/\kd.size<=20/\ks.size<=20):=⟨_,_,_,_,_,_,_,_,rfl,HS1,XL,HR1,Xj,HT⟩;rw[<-hwj];clear hwj HS1 XL HR1 Xj HT
 case' neg =>
  have hdc:decide ((0:Int)<(ts.length:Int))=true:=by simp;omega
  have hdc2:decide (0<ts.length)=true:=by simp;omega
  go_wp2_with fail;rw[<-hW1];clear hW1;refine(ib R ad len cap 3 _ HR1.out (by omega) (by omega)).mono ?_;rintro e w2 ⟨⟨q1,rfl⟩,hR2,hO2⟩;have HS2:=fe (HS1.out.only hO2);have Xp:=fe (XL.out.only hO2);have HR2:=fe hR2;have WV:Hid (Only R w w2):=Xj.out.trans hO2;clear hR2 hO2 HS1 XL HR1 Xj;cases q1
  case' false =>
   go_wp2_with fail;obtain⟨wj,k1,ka,kb,kr,kc,kd,ks,hwj,HSJ,HCJ,HRJ,HOJ,HTJ⟩:∃(wj:World) (k1:Int) (ka kb kr kc kd ks:ByteArray),wj=w2/\Hid (uA wj R w.heap.size 0 ⟨#[]⟩ ⟨#[]⟩ ⟨#[]⟩ ⟨#[]⟩ ⟨#[]⟩ ⟨#[]⟩)/\Hid (uA wj R w1.heap.size k1 ka kb kr kc kd ks)/\Hid (Rd wj R ad len cap)/\Hid (Only R w wj)/\Hid (ka.size<=20/\kb.size<=20/\kr.size<=20/\kc.size<=20/\kd.size<=20/\ks.size<=20):=⟨_,_,_,_,_,_,_,_,rfl,HS2,Xp,HR2,WV,HT⟩;rw[<-hwj];clear hwj HS2 Xp HR2 WV HT
  case' true =>
   go_wp2_with fail;refine(M7 R ad len cap ts.length _ HR2.out (by omega) (by omega)).mono ?_;rintro e w3 ⟨⟨x,rfl,hx⟩,Yz,hO3⟩;have HS3:=fe (HS2.out.only hO3);have HC3:=fe (Xp.out.only hO3);have HR3:=fe Yz;have Xm:Hid (Only R w w3):=WV.out.trans hO3;obtain⟨x0,x1,x2,x3,x4,x5⟩:=HRow.out w3 Xm.out x hx;rw[V4]at x0 x1 x2 x3 x4 x5;have HTX:Hid (ts[x].a.size<=20/\ts[x].b.size<=20/\ts[x].r.size<=20/\ts[x].c.size<=20/\ts[x].d.size<=20/\ts[x].s.size<=20):=HSH.out _ (Vz hx);have j0:=bq x;have j1:(x:Int)<(ts.length:Int):=by omega
   obtain⟨t1,t2,t3,e0,kc,e2,e3,e4,e5,e6⟩:=HC3.out;obtain⟨W3,hW3⟩:∃W3,W3=(((((((w3.setCell ⟨w1.heap.size,0,none⟩ (.int .i64 2)).setCell ⟨w1.heap.size,1,none⟩ (.string ts[x].a)).setCell ⟨w1.heap.size,2,none⟩ (.string ts[x].b)).setCell ⟨w1.heap.size,3,none⟩ (.string ts[x].r)).setCell ⟨w1.heap.size,4,none⟩ (.string ts[x].c)).setCell ⟨w1.heap.size,5,none⟩ (.string ts[x].d)).setCell ⟨w1.heap.size,6,none⟩ (.string ts[x].s)):=⟨_,rfl⟩;have HSW:Hid (uA W3 R w.heap.size 0 ⟨#[]⟩ ⟨#[]⟩ ⟨#[]⟩ ⟨#[]⟩ ⟨#[]⟩ ⟨#[]⟩):=by show uA _ _ _ _ _ _ _ _ _ _;rw[hW3];exact HS3.out.setOther (by omega)
   have HCW:Hid (uA W3 R w1.heap.size 2 ts[x].a ts[x].b ts[x].r ts[x].c ts[x].d ts[x].s):=by show uA _ _ _ _ _ _ _ _ _ _;rw[hW3];exact HC3.out.set
   have HRW:Hid (Rd W3 R ad len cap):=by show Rd _ _ _ _ _;rw[hW3];exact Fj HR3.out t1 (fun h0 b off e eb=>by have:=HFAR.out h0 b off e;omega)
   have HOW:Hid (Only R w W3):=by show Only _ _ _;rw[hW3];exact xz Xm.out (by omega)
   clear Yz hO3 HS2 Xp HR2 WV;go_wp2_with fail;rw[<-hW3];clear hW3;obtain⟨wj,k1,ka,kb,kr,kc,kd,ks,hwj,HSJ,HCJ,HRJ,HOJ,HTJ⟩:∃(wj:World) (k1:Int) (ka kb kr kc kd ks:ByteArray),wj=W3/\Hid (uA wj R w.heap.size 0 ⟨#[]⟩ ⟨#[]⟩ ⟨#[]⟩ ⟨#[]⟩ ⟨#[]⟩ ⟨#[]⟩)/\Hid (uA wj R w1.heap.size k1 ka kb kr kc kd ks)/\Hid (Rd wj R ad len cap)/\Hid (Only R w wj)/\Hid (ka.size<=20/\kb.size<=20/\kr.size<=20/\kc.size<=20/\kd.size<=20/\ks.size<=20):=⟨_,_,_,_,_,_,_,_,rfl,HSW,HCW,HRW,HOW,HTX⟩;rw[<-hwj];clear hwj HSW HCW HRW HOW HTX
 all_goals
  refine(ib R ad len cap 20 _ HRJ.out (by omega) (by omega)).mono ?_;rintro e w5 ⟨⟨q2,rfl⟩,Xo,Xn⟩;have HS5:=fe (HSJ.out.only Xn);have HC5:=fe (HCJ.out.only Xn);have Xt:=fe Xo;have Xi:Hid (Only R w w5):=HOJ.out.trans Xn;clear Xo Xn HSJ HCJ HRJ HOJ;cases q2;case false=>
   obtain⟨z1,z2,z3,d0,u1,d2,d3,d4,d5,d6⟩:=HS5.out;obtain⟨t1,t2,t3,x0,x1,x2,x3,x4,x5,x6⟩:=HC5.out;go_wp2;exact bodyPost_ret (v:=.agg #[.int .i64 k1,.string ka,.string kb,.string kr,.string kc,.string kd,.string ks]) (by simp[results,Tryz.results65,go_sem, *]) rfl (H6 HTJ.out (Fj Xt.out z1 (fun h0 b off e eb=>by have:=HFAR.out h0 b off e;omega)) (xz Xi.out (VC _)))
  go_wp2_with fail;refine(E9 R ad len cap 1 2 _ Xt.out (by decide) (by decide) (by decide)).mono ?_;rintro e w6 ⟨⟨z,rfl⟩,hR6,ZC⟩;have Yv:=fe hR6;have XD:Hid (Only R w w6):=Xi.out.trans ZC;obtain⟨z1,z2,z3,d0,u1,d2,d3,d4,d5,d6⟩:=HS5.out.only ZC;obtain⟨t1,t2,t3,x0,x1,x2,x3,x4,x5,x6⟩:=HC5.out.only ZC;clear hR6 ZC HS5 HC5 Xt Xi;go_wp2;exact bodyPost_ret (v:=.agg #[.int .i64 z,.string ka,.string kb,.string kr,.string kc,.string kd,.string ks]) (by simp[results,Tryz.results65,go_sem, *]) rfl (H6 HTJ.out (Fj (Yv.out.setFar t1 (fun h0 b off e eb=>by have:=HFAR.out h0 b off e;omega)) z1 (fun h0 b off e eb=>by have:=HFAR.out h0 b off e;omega)) (xz (XD.out.setNew (by omega)) (VC _)))
set_option linter.unusedVariables false
set_option maxRecDepth 100000
theorem Kk{fit:Tp->Bool}{ts:Q05}{k:Int}{t:Tp}(h:aQ fit ts k t≠0):2<=aQ fit ts k t/\aQ fit ts k t<=6:=by
 unfold aQ at h⊢
 repeat' split at h
 all_goals(repeat' split)
 all_goals simp_all
theorem QI{w W w':ae}{D g:Nat}{y x0 x1 x2 x3 x4 x5 x6:Value}(h:W.cell? ⟨D,0,none⟩=some y/\W.cell? ⟨g,0,none⟩=some x0/\W.cell? ⟨g,1,none⟩=some x1/\W.cell? ⟨g,2,none⟩=some x2/\W.cell? ⟨g,3,none⟩=some x3/\W.cell? ⟨g,4,none⟩=some x4/\W.cell? ⟨g,5,none⟩=some x5/\W.cell? ⟨g,6,none⟩=some x6/\D<W.heap.size/\g<W.heap.size/\af w W)(hb:af W w'):w'.cell? ⟨D,0,none⟩=some y/\w'.cell? ⟨g,0,none⟩=some x0/\w'.cell? ⟨g,1,none⟩=some x1/\w'.cell? ⟨g,2,none⟩=some x2/\w'.cell? ⟨g,3,none⟩=some x3/\w'.cell? ⟨g,4,none⟩=some x4/\w'.cell? ⟨g,5,none⟩=some x5/\w'.cell? ⟨g,6,none⟩=some x6/\D<w'.heap.size/\g<w'.heap.size/\af w w':=by
 obtain⟨h0,g0,g1,g2,g3,g4,g5,g6,hn,hm,hB⟩:=h;have hc:∀o,w'.cell? ⟨D,o,none⟩=W.cell? ⟨D,o,none⟩:=fun o=>hb.cell (p:=⟨D,o,none⟩) hn;have hd:∀o,w'.cell? ⟨g,o,none⟩=W.cell? ⟨g,o,none⟩:=fun o=>hb.cell (p:=⟨g,o,none⟩) hm;exact⟨(hc _).trans h0,(hd _).trans g0,(hd _).trans g1,(hd _).trans g2,(hd _).trans g3,(hd _).trans g4,(hd _).trans g5,(hd _).trans g6,Vy hn hb.size,Vy hm hb.size,hB.trans (hb.mono hB.size)⟩
def Ur(fit:Tp->Bool)(rs:Q06)(a:Nat->Addr)(w:World)(ts:Q05)(k:Int)(t:Tp)(e:Ending)(w':World):Prop :=
 af w w'/\((bC fit rs ts=false/\e=.returned (.tuple #[.slice none 0 0,.iface 350 (.pointer (some (a 0)))])) \/
  (bC fit rs ts=true/\aQ fit ts k t=0/\∃v,e=.returned (.tuple #[v,.nilIface])/\w'.ownsRow w.heap.size 29 6 v (bn ts k t).length (aF (bn ts k t))) \/
  (bC fit rs ts=true/\∃(g p:Nat) (v:Value),aQ fit ts k t=g/\2<=g/\g<=6/\e=.returned (.tuple #[.slice none 0 0,.iface 76 (.pointer (some ⟨p,0,none⟩))])/\w.heap.size<=p/\w'.cell? ⟨p,0,none⟩=some (.iface 350 (.pointer (some (a g))))/\w'.cell? ⟨p,1,none⟩=some v/\w'.ownsRow w.heap.size 29 6 v ts.length (aF ts)))
theorem H7(fit:Tp->Bool)(a:Nat->Addr)(ad:Q02)(cap:Nat)(rs:Q06)(WY:Q02)(cap':Nat)(ts:Q05)(k:Int)(t:Tp)(w:ae)(hE:ErrsD w a)(hlen:rs.length<=1048576)(hs:jP w ad rs)(hl:∀r∈rs,r.light)(hfr:∀r∈rs,r.fits)(hC:∀w1:World,af w w1->Calls prog 78 #[.slice ad rs.length cap] w1 (J7 (ag rs) w1))(hfb:ak (ag rs)=true->∀t:Tp,t.ok=true->oG (ag rs) t.a t.r ⟨t.c,t.s⟩=fit t)(hlt:ts.length<=1048576)(hst:Sv w WY cap' ts)(hft:∀x∈ts,x.fits)(ht:t.fits):
  Calls prog 38 #[.slice ad rs.length cap,.slice WY ts.length cap',.agg #[.int .i64 k,.string t.a,.string t.b,.string t.r,.string t.c,.string t.d,.string t.s]] w (Ur fit rs a w ts k t):=by
 have HE:=ay hE;have HS:=ay hs;have HL:=ay hl;have YJ:=ay hfr;have HC:=ay hC;have HFB:=ay hfb;have HST:=ay hst;have Xd:=ay hft;have HT:=ay ht;clear hE hs hl hfr hC hfb hst hft ht;obtain⟨W0,hW0⟩:∃W0,W0=w.alloc (.cells #[.int .i64 k,.string t.a,.string t.b,.string t.r,.string t.c,.string t.d,.string t.s] 31):=⟨_,rfl⟩;have HX0:Hid (nN W0 w.heap.size k t):=by show nN _ _ _ _;rw[hW0];refine⟨?_,?_,?_,?_,?_,?_,?_,?_⟩<;>simp
 have HB0:=oQ hW0;have hw0:w.heap.size<W0.heap.size:=by rw[hW0];simp
 go_enter func38,ntmps38;go_wp2_with fail;rw[<-hW0];clear hW0;refine(Bv fit ad cap rs WY cap' ts W0 hlen (HS.out.below HB0.out) HL.out YJ.out (HC.out W0 HB0.out) HFB.out hlt (HST.out.below HB0.out).sl Xd.out).mono ?_;rintro e w1 ⟨hb1,hor⟩;have HB1:=ay (HB0.out.trans (hb1.mono HB0.out.size));have Yo:=ay (HX0.out.below hb1);have HE1:=ay (HE.out.below HB1.out);rcases hor with⟨hr,rfl⟩|⟨hr,D,br,bp,bt,nr,np,Mr,Mp,vo,vu,f,rfl,hbt,hLs,Yi⟩
 ·have HR:=ay hr;obtain⟨-,c0,-⟩:=HE1.out.cell 0 (by omega) (by omega);clear hb1 hr;go_wp2_with fail;go_quiet (fail);go_wp2;exact bodyPost_ret (v:=.tuple #[.slice none 0 0,.iface 350 (.pointer (some (a 0)))]) (by simp[results,Tryz.results38,go_sem]) rfl ⟨below_drewN HB1.out _,.inl ⟨HR.out,rfl⟩⟩
 have HR:=ay hr;obtain⟨hsd,htu,-⟩:=He (fit:=fit) (sok:=ak (ag rs)) (ts:=ts) hr;have HU:=ay (OU htu);have HSD:=ay hsd;have HTAB:=ay (uq (bz.1 hsd).1);have ZE:=ay Yi;obtain⟨x0,x1,x2,x3,x4,x5,x6,xl⟩:=Yo.out;have H0:Hid ((fun w'=>w'.cell? ⟨D,0,none⟩=some (.map (some bt))/\w'.cell? ⟨w.heap.size,0,none⟩=some (.int .i64 k)/\w'.cell? ⟨w.heap.size,1,none⟩=some (.string t.a)/\w'.cell? ⟨w.heap.size,2,none⟩=some (.string t.b)/\w'.cell? ⟨w.heap.size,3,none⟩=some (.string t.r)/\w'.cell? ⟨w.heap.size,4,none⟩=some (.string t.c)/\w'.cell? ⟨w.heap.size,5,none⟩=some (.string t.d)/\w'.cell? ⟨w.heap.size,6,none⟩=some (.string t.s)/\D<w'.heap.size/\w.heap.size<w'.heap.size/\af w1 w') w1.drew):=⟨Yi.dat.c0,x0,x1,x2,x3,x4,x5,x6,Yi.dat.lt,xl,(VD _ _).drew⟩;have Xe:Hid (∀W',(fun w'=>w'.cell? ⟨D,0,none⟩=some (.map (some bt))/\w'.cell? ⟨w.heap.size,0,none⟩=some (.int .i64 k)/\w'.cell? ⟨w.heap.size,1,none⟩=some (.string t.a)/\w'.cell? ⟨w.heap.size,2,none⟩=some (.string t.b)/\w'.cell? ⟨w.heap.size,3,none⟩=some (.string t.r)/\w'.cell? ⟨w.heap.size,4,none⟩=some (.string t.c)/\w'.cell? ⟨w.heap.size,5,none⟩=some (.string t.d)/\w'.cell? ⟨w.heap.size,6,none⟩=some (.string t.s)/\D<w'.heap.size/\w.heap.size<w'.heap.size/\af w1 w') W'->Calls prog 52 #[.map (some bt),.slice WY ts.length cap',.agg #[.int .i64 k,.string t.a,.string t.b,.string t.r,.string t.c,.string t.d,.string t.s]] W' (Tj W' fit ts k t)):=fun W' hS'=>by
  have hb':=hS'.2.2.2.2.2.2.2.2.2.2;have hBw':af w W':=HB1.out.trans (hb'.mono HB1.out.size);refine yh (.map (some bt)) fit WY cap' ts k t W' (HE.out.below hBw').errs (fun w5 hok hb5=>?_) HU.out.2.2 (HST.out.below hBw') Xd.out HU.out.1 HU.out.2.1 HT.out;refine(Bf bt 36 rs ad (qg rs) t.a t.b t.r t.c t.d t.s w5 ((ZE.out.tab.below hb').below hb5) HTAB.out (HS.out.below (hBw'.trans (hb5.mono hBw'.size))) HL.out HT.out.1 HT.out.2.2.1).mono ?_;rintro e w6 ⟨rfl,hb6⟩;exact⟨by rw[HFB.out HSD.out t hok],hb6⟩
 clear x0 x1 x2 x3 x4 x5 x6 hb1 hr Yi hsd htu hLs;by_cases hz:aQ fit ts k t=0
 ·have HZ:=ay hz;go_wp2_with fail
  go_region_held3 (fun w'=>w'.cell? ⟨D,0,none⟩=some (.map (some bt))/\w'.cell? ⟨w.heap.size,0,none⟩=some (.int .i64 k)/\w'.cell? ⟨w.heap.size,1,none⟩=some (.string t.a)/\w'.cell? ⟨w.heap.size,2,none⟩=some (.string t.b)/\w'.cell? ⟨w.heap.size,3,none⟩=some (.string t.r)/\w'.cell? ⟨w.heap.size,4,none⟩=some (.string t.c)/\w'.cell? ⟨w.heap.size,5,none⟩=some (.string t.d)/\w'.cell? ⟨w.heap.size,6,none⟩=some (.string t.s)/\D<w'.heap.size/\w.heap.size<w'.heap.size/\af w1 w')
   (first|assumption|exact QI (by assumption) hbx|exact H0.out)
   (first|(go_at_call 52;refine(Xe.out _ (by assumption)).mono ?_;rintro e w' ⟨hbx,⟨-,v,rfl,hown⟩|⟨hnz,-⟩⟩;rotate_left;exact absurd HZ.out hnz))
  have HBE:Hid (af w w'):=HB1.out.trans ((VD _ _).drew.trans hbx |>.mono HB1.out.size);have HO:=ay (fT hown HB1.out.size);clear hbx hown;go_wp2;exact bodyPost_ret (v:=.tuple #[v,.nilIface]) (by simp[results,Tryz.results38,go_sem]) rfl ⟨HBE.out,.inr (.inl ⟨HR.out,HZ.out,v,rfl,HO.out⟩)⟩
 have HZ:=ay hz;have hrg:=Kk hz;obtain⟨gc,hgc⟩:∃gc:Nat,aQ fit ts k t=gc:=⟨(aQ fit ts k t).toNat,by omega⟩;go_wp2_with fail
 go_region_held3 (fun w'=>w'.cell? ⟨D,0,none⟩=some (.map (some bt))/\w'.cell? ⟨w.heap.size,0,none⟩=some (.int .i64 k)/\w'.cell? ⟨w.heap.size,1,none⟩=some (.string t.a)/\w'.cell? ⟨w.heap.size,2,none⟩=some (.string t.b)/\w'.cell? ⟨w.heap.size,3,none⟩=some (.string t.r)/\w'.cell? ⟨w.heap.size,4,none⟩=some (.string t.c)/\w'.cell? ⟨w.heap.size,5,none⟩=some (.string t.d)/\w'.cell? ⟨w.heap.size,6,none⟩=some (.string t.s)/\D<w'.heap.size/\w.heap.size<w'.heap.size/\af w1 w')
  (first|assumption|exact QI (by assumption) hbx|exact H0.out)
  (first|(go_at_call 52;refine(Xe.out _ (by assumption)).mono ?_;rintro e w' ⟨hbx,⟨h0,-⟩|⟨-,g,T,u,v,rfl,hgp,hc0,hcE,hc1,hown⟩⟩;exact absurd h0 HZ.out))
 have HBE:Hid (af w w'):=HB1.out.trans ((VD _ _).drew.trans hbx |>.mono HB1.out.size);have HO:=ay (fT hown HB1.out.size);have ZA:Hid (w'.cell? ⟨g,0,none⟩=some (.iface 350 (.pointer (some (a gc))))):=by
  show _=_;have h1:=(HE1.out.cell gc (by omega) (by omega)).2.1;have h2:w1.cell? ⟨gc,0,none⟩=some (.iface T u):=by rw[hgc,Int.toNat_natCast]at hcE;exact hcE
  rw[hc0,<-h2,h1]
 have XL:=ay hc1;have HGC:=ay hgc;have hgp':w.heap.size<=g:=VJ HB1.out.size hgp;have hg2:2<=gc/\gc<=6:=by omega
 clear hbx hown hc0 hcE hc1 hgc hrg hz hgp;go_wp2;exact bodyPost_ret (v:=.tuple #[.slice none 0 0,.iface 76 (.pointer (some ⟨g,0,none⟩))]) (by simp[results,Tryz.results38,go_sem]) rfl ⟨HBE.out,.inr (.inr ⟨HR.out,gc,g,v,HGC.out,hg2.1,hg2.2,rfl,hgp',ZA.out,XL.out,HO.out⟩)⟩
def Vg(w:World)(b off:Nat)(c:Int×Tp):Prop:=w.cell? ⟨b,off,none⟩=some (.int .i64 c.1)/\w.cell? ⟨b,off+1,none⟩=some (.string c.2.a)/\w.cell? ⟨b,off+2,none⟩=some (.string c.2.b)/\w.cell? ⟨b,off+3,none⟩=some (.string c.2.r)/\w.cell? ⟨b,off+4,none⟩=some (.string c.2.c)/\w.cell? ⟨b,off+5,none⟩=some (.string c.2.d)/\w.cell? ⟨b,off+6,none⟩=some (.string c.2.s)
def UG(w:World)(ad:Q02)(cs:List (Int×Tp)):Prop:=cs=[] \/ ∃b off,ad=some ⟨b,off,none⟩/\b<w.heap.size/\∀(i:Nat) (h:i<cs.length),Vg w b (off+i*7) cs[i]
theorem UG.below{w w':ae}{ad:Q02}{cs:List (Int×Tp)}(h:UG w ad cs)(hb:af w w'):UG w' ad cs:=by
 rcases h with h|⟨b,off,e,hl,hr⟩
 ·exact .inl h
 refine .inr ⟨b,off,e,Vy hl hb.size,fun i hi=>?_⟩;have hc:∀o,w'.cell? ⟨b,o,none⟩=w.cell? ⟨b,o,none⟩:=fun o=>hb.cell (p:=⟨b,o,none⟩) hl;obtain⟨h0,h1,h2,h3,h4,h5,h6⟩:=hr i hi;exact⟨(hc _).trans h0,(hc _).trans h1,(hc _).trans h2,(hc _).trans h3,(hc _).trans h4,(hc _).trans h5,(hc _).trans h6⟩
def sJ(fit:Tp->Bool)(sok:Bool)(cs:List (Int×Tp))(n:Int):Option (List Tp):=if sok=true/\cs.length<=60/\0<=n/\n<=cs.length then jd fit [] (cs.take n.toNat) else none
def Vh(w:World)(r:Option (List Tp))(e:Ending)(w':World):Prop :=
 af w w'/\((r=none/\e=.returned (.tuple #[.slice none 0 0,.bool false])) \/ ∃L g c,r=some L/\e=.returned (.tuple #[.slice (some ⟨g,0,none⟩) L.length c,.bool true])/\w'.ownsRow w.heap.size 29 6 (.slice (some ⟨g,0,none⟩) L.length c) L.length (aF L))
theorem BB{ts:Q05}{k:Int}{t:Tp}(hf:∀x∈ts,x.fits)(ht:t.fits):∀x∈bn ts k t,x.fits:=by
 intro x hx;unfold bn at hx;split at hx
 ·exact hf x ((lJ ts t x).1 hx).1
 rcases (mo ts t x).1 hx with rfl|h1
 ·exact ht
 exact hf x h1
theorem xA(sv:Value)(fit:Tp->Bool)(sok:Bool)(ad:Q02)(cap:Nat)(cs:List (Int×Tp))(n:Int)(w:ae)(hlen:cs.length<=1048576)(hs:UG w ad cs)(hf:∀c∈cs,c.2.fits)
  (Z4:∀w1:World,af w w1->Calls prog 91 #[sv] w1 fun e w'=>e=.returned (.bool sok)/\af w1 w')
  (hfit:∀(t:Tp) (w1:World),t.fits->af w w1->Calls prog 110 #[sv,.agg #[.string t.a,.string t.b,.string t.r,.string t.c,.string t.d,.string t.s]] w1 fun e w'=>e=.returned (.bool (fit t))/\af w1 w') :
  Calls prog 48 #[sv,.slice ad cs.length cap,.int .i64 n] w (Vh w (sJ fit sok cs n)):=by
 have HS:=ay hs;have HF:=ay hf;have HSO:=ay Z4;have Xd:=ay hfit;clear hs hf Z4 hfit;go_enter func48,ntmps48;go_wp2_with fail;refine(HSO.out _ (VD _ _)).mono ?_;rintro e w1 ⟨rfl,hb1⟩;have HB1:=ay hb1;clear hb1;cases sok;case false=>
  have HN:Hid (sJ fit false cs n=none):=by show _=_;unfold sJ;rw[if_neg (by simp)]
  go_wp2;exact bodyPost_ret (v:=.tuple #[.slice none 0 0,.bool false]) (by simp[results,Tryz.results48,go_sem]) rfl ⟨HB1.out,.inl ⟨HN.out,rfl⟩⟩
 by_cases h60:60<cs.length
 ·have hd:decide ((60:Int)<(cs.length:Int))=true:=by simp;omega
  have HN:Hid (sJ fit true cs n=none):=by show _=_;unfold sJ;rw[if_neg (by omega)]
  go_wp2;exact bodyPost_ret (v:=.tuple #[.slice none 0 0,.bool false]) (by simp[results,Tryz.results48,go_sem]) rfl ⟨HB1.out,.inl ⟨HN.out,rfl⟩⟩
 have hd:decide ((60:Int)<(cs.length:Int))=false:=by simp;omega
 by_cases hni:¬(0<=n/\n<=cs.length)
 ·have hq:(decide (0<=n)&&decide (n<=(cs.length:Int)))=false:=by rw[Bool.and_eq_false_iff,decide_eq_false_iff_not,decide_eq_false_iff_not];omega
  have HN:Hid (sJ fit true cs n=none):=by show _=_;unfold sJ;rw[if_neg (by omega)]
  go_wp2_with fail;refine(qD n 0 cs.length _).mono ?_;rintro e w' ⟨rfl,rfl⟩;rw[hq];go_wp2;exact bodyPost_ret (v:=.tuple #[.slice none 0 0,.bool false]) (by simp[results,Tryz.results48,go_sem]) rfl ⟨HB1.out,.inl ⟨HN.out,rfl⟩⟩
 have hin:0<=n/\n<=cs.length:=Classical.not_not.1 hni;clear hni;have hq:(decide (0<=n)&&decide (n<=(cs.length:Int)))=true:=by rw[VF,VM,VM];exact hin
 obtain⟨N,rfl⟩:∃N:Nat,n=(N:Int):=⟨n.toNat,by omega⟩;have hNc:N<=cs.length:=by omega
 have HN:Hid (sJ fit true cs N=jd fit [] (cs.take N)):=by show _=_;unfold sJ;rw[if_pos (by refine⟨rfl,?_,?_,?_⟩<;>omega)];simp
 have XA:Hid ((w1.alloc (.cells #[] 29)).ownsRow w.heap.size 29 6 (.slice (some ⟨w1.heap.size,0,none⟩) 0 0) 0 (aF [])):=World.ownsRow_lit w1 #[] 0 HB1.out.size (by unfold maxLen;omega) (by simp);have HBL:Hid (af w (w1.alloc (.cells #[] 29))):=HB1.out.alloc HB1.out.size _;go_wp2_with fail;refine(qD N 0 cs.length _).mono ?_;rintro e w' ⟨rfl,rfl⟩;rw[hq];clear hin;go_wp2_with fail;go_loopw[8,9,10,11] (fun v i _ _ wr=>∃(m:Nat) (ts:Q05) (g cp:Nat),m<=N/\i=.int .i64 m/\v=.slice (some ⟨g,0,none⟩) ts.length cp/\Hid (jd fit ts ((cs.take N).drop m)=jd fit [] (cs.take N))/\Hid (wr.ownsRow w.heap.size 29 6 (.slice (some ⟨g,0,none⟩) ts.length cp) ts.length (aF ts))/\Hid (af w wr)/\Hid (Up ts/\(∀x∈ts,x.ok=true)/\ts.length<=40/\∀x∈ts,x.fits)) (fun _ i _ _ _=>N-(intOf i).toNat);case atStart=>exact⟨0,[],w'.heap.size,0,VG _,rfl,rfl,rfl,XA,HBL,List.Pairwise.nil,by simp,by simp,by simp⟩
 clear XA HBL;obtain⟨m,ts,g,cp,hm,rfl,rfl,Yx,HO,HB,HU⟩:=hrel;by_cases hlt:m<N
 ·have hd2:decide ((m:Int)<(N:Int))=true:=by simp;omega
  have hmc:m<cs.length:=by omega
  rcases HS.out.below HB.out with hnil|⟨b,off,rfl,hbl,hr⟩
  ·rw[hnil]at hmc;simp at hmc
  obtain⟨c0,c1,c2,c3,c4,c5,c6⟩:=hr m hmc;obtain⟨hrow,hgl,hcp⟩:=Br HO.out;have Xe:=ay (sU sv fit g 0 cp ts cs[m].1 cs[m].2 wr (fun w1 hb=>Xd.out _ w1 (HF.out _ (Vz hmc)) (HB.out.trans (hb.mono HB.out.size))) HU.out.2.2.1 hcp hrow hgl HU.out.2.2.2 (HF.out _ (Vz hmc)));have hm0:=bq m;have hm1:(m:Int)<(cs.length:Int):=by omega
  have HST:=ay (GG (fit:=fit) (ts:=ts) hmc hlt);clear hr hrow;go_wp2_with fail;refine Xe.out.mono ?_;rintro e w2 ⟨g2,c2',rfl,hown2,hb2⟩;have HB2:=ay (HB.out.trans (hb2.mono HB.out.size));have WV:=ay (fT hown2 HB.out.size);clear hown2 hb2 Xe c0 c1 c2 c3 c4 c5 c6;by_cases hz:aQ fit ts cs[m].1 cs[m].2=0
  ·have hzb:(aQ fit ts cs[m].1 cs[m].2 != 0)=false:=by rw[hz];rfl
   have HR2:=ay (pJ HU.out.1 HU.out.2.1 HU.out.2.2.1 hz);have XW:=ay (BB (k:=cs[m].1) HU.out.2.2.2 (HF.out _ (Vz hmc)));rw[qX hz]at WV ⊢;have HL2:Hid (jd fit (bn ts cs[m].1 cs[m].2) ((cs.take N).drop (m+1))=jd fit [] (cs.take N)):=by show _=_;rw[<-Yx.out,HST.out,if_pos hz]
   go_wp2;go_roundw;case rel=>exact⟨m+1,bn ts cs[m].1 cs[m].2,g2,c2',by omega,by go_num,rfl,HL2,WV,HB2,HR2.out.1,HR2.out.2.1,HR2.out.2.2,XW.out⟩
   simp[intOf]<;>omega
  have hzb:(aQ fit ts cs[m].1 cs[m].2 != 0)=true:=by simp[hz]
  have Yr:Hid (sJ fit true cs N=none):=by show _=_;rw[HN.out,<-Yx.out,HST.out,if_neg hz]
  go_wp2;exact bodyPost_ret (v:=.tuple #[.slice none 0 0,.bool false]) (by simp[results,Tryz.results48,go_sem]) rfl ⟨HB2.out,.inl ⟨Yr.out,rfl⟩⟩
 have hd2:decide ((m:Int)<(N:Int))=false:=by simp;omega
 obtain rfl:m=N:=by omega
 have Yr:Hid (sJ fit true cs m=some ts):=by show _=_;rw[HN.out,<-Yx.out,List.drop_eq_nil_of_le (by rw[V9];omega)];rfl
 go_wp2;exact bodyPost_ret (v:=.tuple #[.slice (some ⟨g,0,none⟩) ts.length cp,.bool true]) (by simp[results,Tryz.results48,go_sem]) rfl ⟨HB.out,.inr ⟨ts,g,cp,Yr.out,rfl,HO.out⟩⟩
def BC(w:World)(b off:Nat)(cs:List (Int×Tp)):Prop:=∀(i:Nat) (h:i<cs.length),Vg w b (off+i*7) cs[i]
theorem Vg.same{w w':ae}{b off:Nat}{t:Int×Tp}(h:Vg w b off t)(hc:∀o,w'.cell? ⟨b,o,none⟩=w.cell? ⟨b,o,none⟩):Vg w' b off t:=by
 obtain⟨h0,h1,h2,h3,h4,h5,h6⟩:=h;exact⟨(hc _).trans h0,(hc _).trans h1,(hc _).trans h2,(hc _).trans h3,(hc _).trans h4,(hc _).trans h5,(hc _).trans h6⟩
theorem BC.below{w w':ae}{b off B:Nat}{ts:List (Int×Tp)}(h:BC w b off ts)(hB:Below B w w')(hb:b<B):BC w' b off ts :=
 fun i hi=>(h i hi).same fun o=>hB.cell (p:=⟨b,o,none⟩) hb
open Go.Sort
section
variable  {w:World}{rs:Q06}{D br bp bt bK nK:Nat}{n1:Int}{nr:Nat}{Mr:KL->Option Value}{Er:List (KL×RR)}{ts:Q05}{xo xu:Q0a}{np:Nat}{Mp:K3->Option Value}{vo vu:Value}{out:Q04}{f:Fc}{WW:Q02}{capE:Nat}{rows:Q08}{n:Nat}
theorem QJ(hn:n<rows.length)(b0 b1:Bool)(hkl:rows[n].e.kids.length<=1000)(hk2l:2<=rows[n].e.kids.length)(hA:Kg D (.slice WW rows.length capE) f bK w (rows[n].e.kids.getD 0 0) b0)(hB:Kg D (.slice WW rows.length capE) f bK w (rows[n].e.kids.getD 1 0) b1)(hex:jq w WW rows)(hre:rows.length<=1000)(hk:rows[n].e.kind=6):
  Calls prog 183 #[.pointer (some ⟨D,0,none⟩),.slice WW rows.length capE,.int .i64 (n:Int),.agg #[.string f.a,.string f.b,.string f.r,.string f.c,.string f.d],.map (some bK)] w fun e w'=>e=.returned (.bool (b0 && !b1))/\af w w':=by
 obtain⟨b,off,Xb,⟨t0,t1,t2,t3,t4⟩,hbl,hok⟩:=jq.at0 hex hn;obtain⟨W0,hW0⟩:∃W0,W0=Iu w D (.slice WW rows.length capE) f bK rows[n]:=⟨_,rfl⟩;have HB0:Hid (af w W0):=by show Below _ _ _;rw[hW0];exact lT _ _ _ _ _ _
 have HN0:Hid (NdB W0 w.heap.size D (.slice WW rows.length capE) f bK rows[n]):=by show NdB _ _ _ _ _ _ _;rw[hW0];exact lV _ _ _ _ _ _
 have hk1:(rows[n].e.kind==1)=false:=by rw[hk];rfl
 have hk2:(rows[n].e.kind==2)=false:=by rw[hk];rfl
 have hk3:(rows[n].e.kind==3)=false:=by rw[hk];rfl
 have hk4:(rows[n].e.kind==4)=false:=by rw[hk];rfl
 have hk5:(rows[n].e.kind==5)=false:=by rw[hk];rfl
 have hbl1:b<w.heap.size+1:=by omega
 have Zt:b<w.heap.size+1+1:=by omega
 have Yp:b<w.heap.size+1+1+1:=by omega
 have hn1:=bq n;have hn2:(n:Int)<(rows.length:Int):=by omega
 unfold Iu yM at hW0;have h0k:0<rows[n].e.kids.length:=by omega
 have h1k:1<rows[n].e.kids.length:=by omega
 obtain⟨bJ,offJ,Xx,z0,hbK⟩:=wB.at0 hok.2 h0k;have z1:w.cell? ⟨bJ,offJ+1,none⟩=some (.int .i64 rows[n].e.kids[1]):=by
  obtain⟨b',off',ZZ,z1,-⟩:=wB.at0 hok.2 h1k;rw[Xx]at ZZ;injection ZZ with e;injection e with e1 e2;rw[e1,e2];exact z1
 obtain⟨i0,hi0⟩:∃i,i=rows[n].e.kids[0]:=⟨_,rfl⟩;obtain⟨i1,hi1⟩:∃i,i=rows[n].e.kids[1]:=⟨_,rfl⟩;have g0:rows[n].e.kids.getD 0 0=i0:=by rw[hi0,WF,VO h0k];rfl
 have g1:rows[n].e.kids.getD 1 0=i1:=by rw[hi1,WF,VO h1k];rfl
 rw[g0]at hA;rw[g1]at hB;rw[<-hi0,Nat.add_zero]at z0;rw[<-hi1]at z1;obtain⟨kl,hkl'⟩:∃kl,kl=rows[n].e.kids.length:=⟨_,rfl⟩;obtain⟨cK,hcK⟩:∃c,c=rows[n].capK:=⟨_,rfl⟩;have hl0:(0:Int)<(kl:Int):=by omega
 have hl1:(1:Int)<(kl:Int):=by omega
 have h0k':0<kl:=by omega
 have h1k':1<kl:=by omega
 have HA:Hid (∀w1,af W0 w1->_):=fun w1 hb=>pR hA (HB0.out.trans (hb.mono HB0.out.size)) (HN0.out.below hb);have YK:Hid (∀w1,af W0 w1->_):=fun w1 hb=>wm hB (HB0.out.trans (hb.mono HB0.out.size)) (HN0.out.below hb);have HZ:Hid (W0.cell? ⟨bJ,offJ,none⟩=some (.int .i64 i0)/\W0.cell? ⟨bJ,offJ+1,none⟩=some (.int .i64 i1)/\bJ<W0.heap.size):=⟨(HB0.out.cell (p:=⟨bJ,offJ,none⟩) hbK).trans z0,(HB0.out.cell (p:=⟨bJ,offJ+1,none⟩) hbK).trans z1,Vy hbK HB0.out.size⟩;have HX4:Hid (W0.cell? ⟨w.heap.size+1+1+1+1,4,none⟩=some (.slice (some ⟨bJ,offJ,none⟩) kl cK)):=by show _=_;rw[HN0.out.x4,Xx,<-hkl',<-hcK]
 have HV5:Hid (W0.cell? ⟨w.heap.size+1+1+1+1+1,0,none⟩=some (.func (Fn.func 216) #[] #[.pointer (some ⟨w.heap.size,0,none⟩),.pointer (some ⟨w.heap.size+1,0,none⟩),.pointer (some ⟨w.heap.size+1+1,0,none⟩),.pointer (some ⟨w.heap.size+1+1+1,0,none⟩)])):=HN0.out.v;clear hA hB hex hk hok z0 z1 Xx h0k h1k g0 g1 hi0 hi1;subst Xb;go_enter func183,ntmps183;go_wp2_with fail;rw[<-hW0];clear hW0 t0 t1 t2 t3 t4;clear hk1 hk2 hk3 hk4 hk5 hkl' hcK;have HAA:Hid (∀d os,Calls prog 216 #[.int .i64 i0,.pointer (some ⟨w.heap.size,0,none⟩),.pointer (some ⟨w.heap.size+1,0,none⟩),.pointer (some ⟨w.heap.size+1+1,0,none⟩),.pointer (some ⟨w.heap.size+1+1+1,0,none⟩)] (grow (redrawn W0 d) os) fun e w''=>e=.returned (.bool b0)/\∃p:Regrown,w''=grow (redrawn W0 p.d) p.os):=by
  refine cu fun W' hb=>?_;exact HA.out _ hb
 have HBQ:Hid (∀d os,Calls prog 217 #[.int .i64 i1,.pointer (some ⟨w.heap.size+1+1+1+1+1,0,none⟩)] (grow (redrawn W0 d) os) fun e w''=>e=.returned (.bool (!b1))/\∃p:Regrown,w''=grow (redrawn W0 p.d) p.os):=by
  refine cu fun W' hb=>?_;exact YK.out _ hb
 have x4:=cell_regrown HX4.out;have v5:=cell_regrown HV5.out;have z0:=cell_regrown HZ.out.1;have z1:=cell_regrown HZ.out.2.1;clear HA YK HN0;cases b0
 case' true =>
  skip
 case' false =>
  skip
 all_goals
  refine wp_region_quiet_below (by kernel_rfl) (by kernel_rfl) ?_
  repeat(go_big_quiet_step (first|exact HAA.out _ _|exact HBQ.out _ _))
  refine wpQuiet_nil ?_;rintro _ ⟨⟨dq,osq⟩,rfl⟩;go_wp2;go_ret;exact⟨rfl,HB0.out.trans ((below_regrown W0 dq osq).mono HB0.out.size)⟩
end
def Sb(u:Al)(g:Fc):Bool:=Ar g.c g.d u.t u.s
theorem Nr(p:Fc->Bool){zs:Q04}{k:Nat}(h:k<zs.length):(zs.drop k).any p=(p zs[k] || (zs.drop (k+1)).any p):=by rw[V5 h];rfl
theorem BU.at0{w:ae}{ad:Q02}{fs:Q04}(h:BU w ad fs){k:Nat}(hk:k<fs.length):∃b off,ad=some ⟨b,off,none⟩/\yG w b (off+k*5) fs[k]/\b<w.heap.size:=by
 rcases h with h|⟨b',off',e,hb,hr⟩
 ·rw[h]at hk;simp at hk
 exact⟨b',off',e,hr k hk,hb⟩
theorem Sc(g:Nat)(u:Al)(f:Fc)(w:ae)(hg:g<w.heap.size)(h0:w.cell? ⟨g,0,none⟩=some (.string u.t))(h1:w.cell? ⟨g,1,none⟩=some (.string u.s)):
  Calls prog 136 #[.agg #[.string f.a,.string f.b,.string f.r,.string f.c,.string f.d],.pointer (some ⟨g,0,none⟩)] w fun e w'=>e=.returned (.bool (Sb u f))/\af w w':=by
 have HB:Hid (af w (w.alloc (.cells #[.string f.a,.string f.b,.string f.r,.string f.c,.string f.d] 43))):=(VD _ _).alloc (VC _) _;have heq:=jH f.c f.d u.t u.s rfl;go_enter func136,ntmps136;go_wp2;go_ret;exact⟨rfl,HB.out⟩
theorem Us(xs:Array Value)(u:ae):(callFunc 136 xs).run prog u=.ok (.enter 136 xs) u:=by kernel_rfl
theorem H8(FC:Nat)(rc cp:Array Value)(p:Fc->Bool)(ad:Q02)(cap:Nat)(xs:Q04)(w:ae)(hlen:xs.length<=1048576)(hs:BU w ad xs)
  (hrun:∀(ys:Array Value) (u:World),(callFunc FC ys).run prog u=.ok (.enter FC ys) u) (hp:∀x∈xs,∀w1:World,af w w1->Calls prog FC (rc.push (.agg #[.string x.a,.string x.b,.string x.r,.string x.c,.string x.d])++cp) w1 fun e w'=>e=.returned (.bool (p x))/\af w1 w') :
  Calls prog 184 #[.slice ad xs.length cap,.func (Fn.func FC) rc cp] w fun e w'=>(∃r:Int,e=.returned (.int .i64 r)/\decide (0<=r)=xs.any p)/\af w w':=by
 have HS:=aD hs;have HRUN:=aD hrun;have HP:=aD hp;clear hs hrun hp;have HD:Hid (∀k (h:k<xs.length),(xs.drop k).any p=(p xs[k] || (xs.drop (k+1)).any p)):=fun k h=>Nr p h;go_enter func184,ntmps184;go_wp2_with fail;go_loopw[8] (fun i wr=>∃k:Nat,k<=xs.length/\i=.int .i64 k/\Hid ((xs.drop k).any p=xs.any p)/\Hid (af w wr)) (fun i _=>xs.length-(intOf i).toNat);case atStart=>exact⟨0,VG _,rfl,rfl,VD _ _⟩
 obtain⟨k,hk,rfl,HQ,HB⟩:=hrel;by_cases hlt:k<xs.length
 ·obtain⟨b,off,Xb,⟨t0,t1,t2,t3,t4⟩,hbl⟩:=BU.at0 (HS.out.below HB.out) hlt;have HM:Hid (xs[k]∈xs):=Vz hlt;have hk1:=bq k;have hk2:(k:Int)<(xs.length:Int):=by omega
  have HD2:=aD (HD.out k hlt);subst Xb;go_wp2_with fail;rw[HRUN.out,Oper.upon_enter];refine(HP.out _ HM.out _ HB.out).mono ?_;rintro e w1 ⟨rfl,hb1⟩;have HB1:=kL HB hb1;clear hb1 t0 t1 t2 t3 t4;cases he:p xs[k];case true=>
   have HN:Hid (xs.any p=true):=by show _=_;rw[<-HQ.out,HD2.out,he];rfl
   go_wp2;go_ret;exact⟨⟨k,rfl,by rw[HN.out];simp⟩,HB1.out⟩
  have HQ2:Hid ((xs.drop (k+1)).any p=xs.any p):=by show _=_;rw[<-HQ.out,HD2.out,he];rfl
  go_wp2;go_roundw;case rel=>exact⟨k+1,by omega,by go_num,HQ2,HB1⟩
  simp[intOf]<;>omega
 have HN:Hid (xs.any p=false):=by show _=_;rw[<-HQ.out,VW (by omega)];rfl
 go_wp2;go_ret;exact⟨⟨-1,rfl,by rw[HN.out];simp⟩,HB.out⟩
theorem BD(FC:Nat)(rc cp:Array Value)(p:Fc->Bool)(ad:Q02)(cap:Nat)(xs:Q04)(w:ae)(hlen:xs.length<=1048576)(hs:BU w ad xs)
  (hrun:∀(ys:Array Value) (u:World),(callFunc FC ys).run prog u=.ok (.enter FC ys) u) (hp:∀x∈xs,∀w1:World,af w w1->Calls prog FC (rc.push (.agg #[.string x.a,.string x.b,.string x.r,.string x.c,.string x.d])++cp) w1 fun e w'=>e=.returned (.bool (p x))/\af w1 w') :
  Calls prog 135 #[.slice ad xs.length cap,.func (Fn.func FC) rc cp] w fun e w'=>e=.returned (.bool (xs.any p))/\af w w':=by
 have HC:=aD (H8 FC rc cp p ad cap xs w hlen hs hrun hp);clear hs hrun hp;go_enter func135,ntmps135;go_wp2_with fail;refine HC.out.mono ?_;rintro e w' ⟨⟨r,rfl,hr⟩,hbx⟩;have HR:=aD hr;clear hr;go_wp2;go_ret;exact⟨by rw[<-HR.out];rfl,hbx⟩
theorem Kl{us:Q0a}{new:Q04}{k:Nat}(h:k<us.length):eX (us.take (k+1)) new=eX (us.take k) new++(if new.any (Sb us[k]) then [us[k]] else []):=by
 unfold eX;rw[VE h,WP];congr 1;rw[List.filter_cons];rfl
theorem DT(us:Q0a)(new:Q04):(eX us new).length<=us.length:=List.length_filter_le _ _
theorem rD(XO:Q02)(Xg:Nat)(us:Q0a)(adF:Q02)(X8:Nat)(new:Q04)(w:ae)(hul:us.length<=1000)(hnl:new.length<=1048576)(hu:ll w XO us)(hf:BU w adF new):
  Calls prog 83 #[.slice XO us.length Xg,.slice adF new.length X8] w fun e w'=>(∃v,e=.returned v/\w'.ownsRow w.heap.size 27 2 v (eX us new).length (pairs (eX us new)))/\af w w':=by
 obtain⟨iO,h0,h1,h2,h3⟩:=Ao;have HIO:=ax (And.intro h0 (And.intro h1 (And.intro h2 h3)));have HU:=ax hu;have HF:=ax hf;have Y0:Hid (w.ownsRow w.heap.size 27 2 (.slice none 0 0) (eX (us.take 0) new).length (pairs (eX (us.take 0) new))):=World.ownsRow_nil _ _ _ _;clear hu hf h0 h1 h2 h3;go_enter func83,ntmps83;go_wp2_with fail;go_loopw[5,10] (fun v i wr=>∃k:Nat,k<=us.length/\i=.int .i64 k/\Hid (wr.ownsRow w.heap.size 27 2 v (eX (us.take k) new).length (pairs (eX (us.take k) new)))/\Hid (af w wr)) (fun _ i _=>us.length-(intOf i).toNat);case atStart=>exact⟨0,VG _,rfl,Y0,VD _ _⟩
 clear Y0;obtain⟨k,hk,rfl,HO,HB⟩:=hrel;by_cases hlt:k<us.length
 ·obtain⟨b,off,Xb,⟨t0,t1⟩,hbl⟩:=ll.at0 (HU.out.below HB.out) hlt;have hi1:=bq k;have hi2:(k:Int)<(us.length:Int):=by omega
  have HKT:=ax (Kl (new:=new) hlt);have hkl:=DT (us.take k) new;rw[V9]at hkl;obtain⟨u,hu⟩:∃u,u=us[k]:=⟨_,rfl⟩;rw[<-hu]at t0 t1 HKT;clear hu;obtain⟨W1,hW1⟩:∃W1,W1=wr.alloc (.cells #[.string u.t,.string u.s] 27):=⟨_,rfl⟩;have Yf:=oQ hW1;have HB1:=ax (HB.out.trans (Yf.out.mono HB.out.size));have d0:W1.cell? ⟨wr.heap.size,0,none⟩=some (.string u.t):=by rw[hW1];simp
  have d1:W1.cell? ⟨wr.heap.size,1,none⟩=some (.string u.s):=by rw[hW1];simp
  have dl:wr.heap.size<W1.heap.size:=aM d0;have Xj:=ax (aJ HO.out Yf.out);obtain⟨ys,hys⟩:∃ys,ys=eX (us.take k) new:=⟨_,rfl⟩;rw[<-hys]at Xj HKT hkl;obtain⟨adV,capV,rfl,-⟩:=mq Xj.out;have XJ:=ax (BD 136 #[] #[.pointer (some ⟨wr.heap.size,0,none⟩)] (Sb u) adF X8 new W1 hnl (HF.out.below HB1.out) Us (fun x hx w1 hb=>Sc wr.heap.size u x w1 (Vy dl hb.size) (bP hb dl d0) (bP hb dl d1)));subst Xb;clear hys HO;go_wp2_with fail;rw[<-hW1];clear hW1 t0 t1;refine XJ.out.mono ?_;rintro e w2 ⟨rfl,hb2⟩;have HB2:=ax (HB1.out.trans (hb2.mono HB1.out.size));have WV:=ax (aJ Xj.out hb2);replace d0:=bP hb2 dl d0;replace d1:=bP hb2 dl d1;replace dl:=Vy dl hb2.size;clear hb2 XJ Xj Yf;cases hh:new.any (Sb u);case false=>
   have HR:Hid (w2.ownsRow w.heap.size 27 2 (.slice adV ys.length capV) (eX (us.take (k+1)) new).length (pairs (eX (us.take (k+1)) new))):=by
    show World.ownsRow _ _ _ _ _ _ _;rw[HKT.out,hh];simp only[Bool.false_eq_true,if_false,Ww];exact WV.out
   go_wp2;go_roundw;case rel=>exact⟨k+1,by omega,by go_num,HR,HB2⟩
   simp[intOf]<;>omega
  have HWE:Hid (eX (us.take (k+1)) new=ys++[u]):=by show _=_;rw[HKT.out,hh];rfl
  obtain⟨W4,XX⟩:∃W4,W4=w2.alloc (.cells #[.string u.t,.string u.s] 27):=⟨_,rfl⟩;have Xk:Hid (W4.ownsRow w.heap.size 27 2 (.slice adV ys.length capV) ys.length (pairs ys)):=by show World.ownsRow _ _ _ _ _ _ _;rw[XX];exact WV.out.alloc _
  have HN4:Hid (∀j x,[Value.string u.t,.string u.s][j]?=some x->W4.cell? ((⟨w2.heap.size,0,none⟩:Addr).add j)=some x):=by rw[XX];exact Tk w2 u
  have X7:Hid (af w W4):=by show Below _ _ _;rw[XX];exact HB2.out.alloc HB2.out.size _
  have hsz4:w.heap.size<=W4.heap.size:=X7.out.size;clear hh;go_wp2_with(at_builtin;rw[<-XX];clear XX;refine wpList_append_own_at _ rfl _ _ 124 rfl w.heap.size 27 iO (.agg #[.string ⟨#[]⟩,.string ⟨#[]⟩]) 2 32 underlying124 HIO.out.1 HIO.out.2.1 HIO.out.2.2.1 HIO.out.2.2.2 rfl (by decide) _ ys.length (pairs ys) rfl Xk.out ⟨w2.heap.size,0,none⟩ 1 1 [.string u.t,.string u.s] rfl rfl HN4.out (by simp[Value.oneCell']) (by unfold maxLen;omega) (by omega) hsz4 ?_);intro v' w5 hown hgr _ _;have HR:Hid (w5.ownsRow w.heap.size 27 2 v' (eX (us.take (k+1)) new).length (pairs (eX (us.take (k+1)) new))):=by
   show World.ownsRow _ _ _ _ _ _ _;rw[HWE.out,VI];have:pairs (ys++[u])=pairs ys++[.string u.t,.string u.s]:=by simp[pairs]
   rw[this];exact hown
  have HBR:Hid (af w w5):=X7.out.grown hgr X7.out.size (fun g hg=>(Xk.out.lt g hg).1);clear hown hgr d0 d1 dl;go_wp2;go_roundw;case rel=>exact⟨k+1,by omega,by go_num,HR,HBR⟩
  simp[intOf]<;>omega
 have HE:Hid (wr.ownsRow w.heap.size 27 2 u5 (eX us new).length (pairs (eX us new))):=by
  have h:=HO.out;rw[Wl (by omega)]at h;exact h
 clear HO;go_wp2;go_ret;exact⟨⟨_,rfl,HE.out⟩,HB.out⟩
end Go.Proofs.YtcgdckphpjfmhaaGreatDoor
