/- The program's rule of a node, whatever it is. -/
import Derived.Test.YtajkkeikihhejaaGreatSq
import Derived.Test.YtajkkeikihhejaaGreatRuleT
open Go.Proofs.Tryz
set_option maxHeartbeats 80000000
namespace Go.Proofs.YtajkkeikihhejaaGreat
set_option linter.unusedVariables false
set_option maxRecDepth 100000
open ChangeShapes WideShapes ChangeAt RowKit Maps
open Pl
theorem aN.is{w:af}{S:Nat->Prop}{n:Nat}{v:Value}{G:Ru}(h:aN w S n v G):∃T a,v=.iface T a:=by
 match n,h with
 | 0,h=>exact h.elim
 | n+1,h =>
  rcases h with⟨b,e,-⟩|⟨ad,cap,fs,e,-⟩|⟨ad,cap,Gs,e,-⟩|⟨ad,cap,Gs,e,-⟩<;>exact⟨_,_,e⟩
def QO(P:Nat)(vE:Value)(f:Fc)(w:World)(m:Nat)(i:Int)(G:Ru):Prop:=∀w1:World,ae w w1->Calls prog 109 #[.pointer (some ⟨P,0,none⟩),vE,.int .i64 i,.agg #[.string f.a,.string f.b,.string f.r,.string f.c,.string f.d]] w1 fun e w'=>(∃v,e=.returned v/\aN w' (jB w1.heap.size) m v G)/\ae w1 w'
def Sx(B:Nat)(v:Value)(g:Nat):Prop:=B<=g/\some g≠v.ownBlock
theorem QP:∃i,prog.info? 110=some i/\i.zero=some .nilIface/\i.size=1/\i.bytes=16 :=
 info_parts (P:=prog) (e:=110) (z:=.nilIface) (size:=1) (bytes:=16) (by kernel_rfl)
theorem tH{P:Nat}{vE:Value}{f:Fc}{w:af}(m:Nat)(ks:List Int)(Gk:Int->Ru)(adK:Q02)(capK:Nat)(hkl:ks.length<=5)(hs:sK w adK ks)(hK:∀i∈ks,QO P vE f w m i (Gk i)):
  Calls prog 166 #[.pointer (some ⟨P,0,none⟩),vE,.slice adK ks.length capK,.agg #[.string f.a,.string f.b,.string f.r,.string f.c,.string f.d]] w fun e w'=>(∃ad cap,e=.returned (.slice ad ks.length cap)/\BR w' (jB w.heap.size) (aN w' (jB w.heap.size) m) ad (ks.map Gk))/\ae w w':=by
 obtain⟨iR,h0,h1,h2,h3⟩:=QP;have Xe:=aj (And.intro h0 (And.intro h1 (And.intro h2 h3)));obtain⟨W0,hW0⟩:∃W0,W0=w.alloc (.cells #[.string f.a,.string f.b,.string f.r,.string f.c,.string f.d] 29):=⟨_,rfl⟩;have HB0:=mI hW0;have Xg:Hid (W0.cell? ⟨w.heap.size,0,none⟩=some (.string f.a)/\W0.cell? ⟨w.heap.size,1,none⟩=some (.string f.b)/\W0.cell? ⟨w.heap.size,2,none⟩=some (.string f.r)/\W0.cell? ⟨w.heap.size,3,none⟩=some (.string f.c)/\W0.cell? ⟨w.heap.size,4,none⟩=some (.string f.d)):=by
  show _/\_;rw[hW0];refine⟨?_,?_,?_,?_,?_⟩<;>simp
 have HS:=aj (hs.below HB0.out);have HKR:=aj hK;clear hs hK h0 h1 h2 h3;go_enter func166,ntmps166;go_wp2_with fail;rw[<-hW0];clear hW0;go_loopw[9,14] (fun v i wr=>∃(k:Nat) (us:Q03),k<=ks.length/\us.length=k/\i=.int .i64 k/\Hid (wr.ownsRow W0.heap.size 110 1 v k us)/\Hid (∀(j:Nat) (h1:j<us.length) (h2:j<ks.length),aN wr (Sx W0.heap.size v) m us[j] (Gk ks[j]))/\Hid (ae W0 wr)) (fun _ i _=>ks.length-(intOf i).toNat);case atStart=>exact⟨0,[],UY _,rfl,rfl,World.ownsRow_nil _ _ _ _,fun j h1 _=>absurd h1 (VL _),UV _ _⟩
 obtain⟨k,us,hk,Zt,rfl,HO,HM,HB⟩:=hrel;by_cases hlt:k<ks.length
 ·obtain⟨bJ,Xj,V6,t0,hbJ⟩:=sK.at0 (HS.out.below HB.out) hlt;obtain⟨c0,c1,c2,c3,c4⟩:=Xg.out;have cl:w.heap.size<W0.heap.size:=aF c0;replace c0:=aJ HB.out cl c0;replace c1:=aJ HB.out cl c1;replace c2:=aJ HB.out cl c2;replace c3:=aJ HB.out cl c3;replace c4:=aJ HB.out cl c4;have hi1:=bG k;have hi2:(k:Int)<(ks.length:Int):=by omega
  have HC:=aj (HKR.out ks[k] (UR hlt) wr (HB0.out.trans (HB.out.mono HB0.out.size)));obtain⟨i0,hi0⟩:∃i0,ks[k]=i0:=⟨_,rfl⟩;have HI0:=aj hi0;rw[hi0]at t0 HC;clear hi0;subst V6;go_wp2_with fail;refine HC.out.mono ?_;rintro e w2 ⟨⟨u,rfl,hru⟩,hb2⟩;obtain⟨uT,ua,hue⟩:=hru.is;subst hue;obtain⟨u,hu⟩:∃u,u=Value.iface uT ua:=⟨_,rfl⟩;rw[<-hu]at hru;have HB2:=aj (HB.out.trans (hb2.mono HB.out.size));have V7:=aj (aY HO.out hb2);have WS:Hid (∀(j:Nat) (h1:j<us.length) (h2:j<ks.length),aN w2 (Sx W0.heap.size u9) m us[j] (Gk ks[j])):=fun j h1 h2=>(HM.out j h1 h2).below hb2;have ZF:Hid (aN w2 (Sx W0.heap.size u9) m u (Gk i0)):=aN.keep (UU _) (fun g hg _=>⟨⟨U0 HB.out.size hg,fun e=>by have:=(HO.out.lt g e.symm).2;have:wr.heap.size<=g:=hg;omega⟩,rfl⟩) m u _ hru;have hsw:W0.heap.size<=w2.heap.size:=HB2.out.size;clear hru hb2 HO HM HB t0 c0 c1 c2 c3 c4 cl;obtain⟨W4,WE⟩:∃W4,W4=w2.alloc (.cells #[.iface uT ua] 110):=⟨_,rfl⟩;have WM:=mI WE;have Wo:Hid (W4.ownsRow W0.heap.size 110 1 u9 k us):=aY V7.out WM.out;have HN4:Hid (∀j x,[u][j]?=some x->W4.cell? ((⟨w2.heap.size,0,none⟩:Addr).add j)=some x):=fun j x hx=>by
   match j,hx with
   | 0,hx=>simp at hx;subst hx;rw[WE,hu];simp[Addr.add]
  have WW:=aj (HB2.out.trans (WM.out.mono HB2.out.size));have HM4:Hid (∀(j:Nat) (h1:j<us.length) (h2:j<ks.length),aN W4 (Sx W0.heap.size u9) m us[j] (Gk ks[j])):=fun j h1 h2=>(WS.out j h1 h2).below WM.out;have HU4:=aC (ZF.out.below WM.out);have YT:W0.heap.size<=W4.heap.size:=WW.out.size;clear WS ZF HB2;go_wp2_with(at_builtin;rw[<-WE];clear WE;rw[<-hu];refine wpList_append_own_at _ rfl _ _ 244 rfl W0.heap.size 110 iR .nilIface 1 16 underlying244 Xe.out.1 Xe.out.2.1 Xe.out.2.2.1 Xe.out.2.2.2 rfl (by decide) _ k us rfl Wo.out ⟨w2.heap.size,0,none⟩ 1 1 [u] rfl rfl HN4.out (by rw[hu];simp[Value.oneCell']) (by unfold maxLen;omega) (by omega) YT ?_);intro v' w5 hown hgr _ hat;have HR:Hid (w5.ownsRow W0.heap.size 110 1 v' (k+1) (us++[u])):=by show World.ownsRow _ _ _ _ _ _ _;first|exact hown|(rw[hu];exact hown)
  have HT:Hid (∀g,Sx W0.heap.size u9 g->g<W4.heap.size->Sx W0.heap.size v' g/\w5.heap[g]?=W4.heap[g]?):=fun g hg hl=>⟨⟨hg.1,by
   rcases hat with e|e
   ·rw[e];exact hg.2
   rw[e];intro e2;injection e2 with e2;omega⟩,hgr.block g hl hg.2⟩
  have HM5:Hid (∀(j:Nat) (h1:j<(us++[u]).length) (h2:j<ks.length),aN w5 (Sx W0.heap.size v') m (us++[u])[j] (Gk ks[j])):=fun j h1 h2=>by
   by_cases hj:j<us.length
   ·rw[Vg hj];exact aN.keep hgr.size HT.out m _ _ (HM4.out j hj h2)
   have e:j=us.length:=by simp at h1;omega
   subst e;have e2:ks[us.length]=i0:=by simp only[Zt];exact HI0.out
   rw[Vu (UU _),e2];simpa using aN.keep hgr.size HT.out m _ _ HU4.out
  have YC:Hid (ae W0 w5):=WW.out.grown hgr WW.out.size (fun g hg=>(Wo.out.lt g hg).1);clear hown hgr hat HM4 HU4 HT;go_wp2;go_roundw;case rel=>exact⟨k+1,us++[u],by omega,by simp;omega,by go_num,HR,HM5,YC⟩
  simp[intOf]<;>omega
 obtain rfl:k=ks.length:=by omega
 have ZW:Hid (ae w wr):=HB0.out.trans (HB.out.mono HB0.out.size);have HE:Hid (∃ad cap,u9=.slice ad ks.length cap/\BR wr (jB w.heap.size) (aN wr (jB w.heap.size) m) ad (ks.map Gk)):=by
  by_cases hz:ks=[]
  ·rcases HO.out.2 with⟨e,h⟩|⟨g,cap,cur,e,-⟩
   ·exact⟨none,0,by rw[e,h],.inl (by rw[hz];rfl)⟩
   exact⟨_,cap,e,.inl (by rw[hz];rfl)⟩
  have hO:=HO.out;rcases hO.2 with⟨e,h⟩|⟨g,cap,cur,e,hbg,-⟩
  ·exact absurd (Vb.1 h) hz
  refine⟨_,cap,e,.inr ⟨g,rfl,U0 HB0.out.size hbg,(hO.lt g (by rw[e];rfl)).2,fun i hi=>?_⟩⟩;have hi2:i<ks.length:=by simpa using hi
  have hi3:i<us.length:=by omega
  refine⟨us[i],?_,?_⟩
  ·have hO2:=hO;rw[e]at hO2;rw[hO2.cellAt i (by omega)];exact U1 hi3
  rw[List.getElem_map];exact aN.keep (UU _) (fun g2 h2 _=>⟨U0 HB0.out.size h2.1,rfl⟩) m _ _ (HM.out i hi3 hi2)
 obtain⟨Xc,Wn,rfl,hrow⟩:=HE.out;have Xa:=aj hrow;clear hrow HE HO HM;go_wp2;go_ret;exact⟨⟨_,_,rfl,Xa.out⟩,ZW.out⟩
theorem aN.old{w:af}{B B' n m:Nat}{v:Value}{G:Ru}(h:aN w (jB B') n v G)(hb:B<=B')(hm:n<=m):aN w (jB B) m v G:=aN.up (aN.keep (UU _) (fun g hg _=>⟨U0 hb hg,rfl⟩) n v G h) hm
section
variable  {w:World}{rs:Q06}{P D br bp bt bK nK n k:Nat}{n1:Int}{nr:Nat}{Mr:KL->Option Value}{Er:List (KL×RR)}{ts:Q05}{xo xu:Q0a}{np:Nat}{Mp:K3->Option Value}{vo vu:Value}{out:Q04}{f:Fc}{WX:Q02}{Wi:Nat}{V5:Q02}{capE:Nat}{rows:Q08}
theorem Sj(hn:n<rows.length)(hP:PrM w P D WX Wi out bK nK)(hD:DatA w rs D br bp bt n1 nr Mr Er (bn ts) xo xu np Mp vo vu)(hf:f.fits)(hts:∀t∈ts,t.fits)(htl:ts.length<=40)(hex:gZ w V5 rows)(hre:rows.length<=1000)(hk:rows[n].e.kind=1):
  Calls prog 109 #[.pointer (some ⟨P,0,none⟩),.slice V5 rows.length capE,.int .i64 (n:Int),.agg #[.string f.a,.string f.b,.string f.r,.string f.c,.string f.d]] w fun e w'=>(∃v,e=.returned v/\aN w' (jB w.heap.size) (k+1) v (rf ts f))/\ae w w':=by
 obtain⟨b,off,V6,⟨t0,t1,t2,t3,t4⟩,hbl,hok⟩:=gZ.at0 hex hn;obtain⟨W0,hW0⟩:∃W0,W0=vS w f rows[n]:=⟨_,rfl⟩;have HB0:Hid (ae w W0):=by show Below _ _ _;rw[hW0];exact eu _ _ _
 have XU:Hid (EnB W0 w.heap.size f rows[n]):=by show EnB _ _ _ _;rw[hW0];exact gp _ _ _
 have hk1:(rows[n].e.kind==1)=true:=by rw[hk];rfl
 have Yr:b<w.heap.size+1:=by omega
 have hn1:=bG n;have hn2:(n:Int)<(rows.length:Int):=by omega
 unfold vS at hW0;have HC:=aj (FI (hP.below HB0.out) (hD.below HB0.out) hf hts htl);clear hP hD hf hex hk hok;subst V6;go_enter func109,ntmps109;go_wp2_with fail;rw[<-hW0];clear hW0 t0 t1 t2 t3 t4;refine HC.out.mono ?_;rintro e w1 ⟨⟨v,rfl,hr⟩,hb1⟩;have HB1:=aj (HB0.out.trans (hb1.mono HB0.out.size));have HR:=aj (hr.old HB0.out.size (by omega:1<=k+1));clear hb1 hr;go_wp2;go_ret;exact⟨⟨v,rfl,HR.out⟩,HB1.out⟩
theorem T9(hn:n<rows.length)(hf:f.fits)(hnm:rows[n].e.name.size<=maxLen)(hex:gZ w V5 rows)(hre:rows.length<=1000)(hk:rows[n].e.kind=2):
  Calls prog 109 #[.pointer (some ⟨P,0,none⟩),.slice V5 rows.length capE,.int .i64 (n:Int),.agg #[.string f.a,.string f.b,.string f.r,.string f.c,.string f.d]] w fun e w'=>(∃v,e=.returned v/\aN w' (jB w.heap.size) (k+1) v (fun K=>K ⟨f.a,f.b,rows[n].e.name,f.c,f.d⟩))/\ae w w':=by
 obtain⟨b,off,V6,⟨t0,t1,t2,t3,t4⟩,hbl,hok⟩:=gZ.at0 hex hn;obtain⟨W0,hW0⟩:∃W0,W0=vS w f rows[n]:=⟨_,rfl⟩;have HB0:Hid (ae w W0):=by show Below _ _ _;rw[hW0];exact eu _ _ _
 have XU:Hid (EnB W0 w.heap.size f rows[n]):=by show EnB _ _ _ _;rw[hW0];exact gp _ _ _
 have hk1:(rows[n].e.kind==1)=false:=by rw[hk];rfl
 have hk2:(rows[n].e.kind==2)=true:=by rw[hk];rfl
 have Yr:b<w.heap.size+1:=by omega
 have hn1:=bG n;have hn2:(n:Int)<(rows.length:Int):=by omega
 unfold vS at hW0;obtain⟨W1,hW1⟩:∃W1,W1=W0.alloc (.cells #[.string f.a,.string f.b,.string rows[n].e.name,.string f.c,.string f.d] 29):=⟨_,rfl⟩;have HB1:Hid (ae w W1):=by show Below _ _ _;rw[hW1];exact HB0.out.alloc HB0.out.size _
 have hz0:W0.heap.size=w.heap.size+1+1:=by rw[hW0];simp
 have HR:Hid (aN W1 (jB w.heap.size) (k+1) (.iface 242 (.agg #[.slice (some ⟨w.heap.size+1+1,0,none⟩) 1 1])) (fun K=>K ⟨f.a,f.b,rows[n].e.name,f.c,f.d⟩)):=by
  refine .inr (.inl ⟨_,1,[⟨f.a,f.b,rows[n].e.name,f.c,f.d⟩],rfl,.inr ⟨_,rfl,by show _<=_;omega⟩,.inr ⟨_,0,rfl,by rw[hW1];simp;omega,fun i hi=>?_⟩,by simp,fun x hx=>?_,by funext K;simp⟩)
  ·have e:i=0:=by simp at hi;omega
   subst e;have hc:∀o v,(Fc.row ⟨f.a,f.b,rows[n].e.name,f.c,f.d⟩)[o]?=some v->W1.cell? ⟨w.heap.size+1+1,o,none⟩=some v:=fun o v h=>by
    have:=wC W0 ⟨f.a,f.b,rows[n].e.name,f.c,f.d⟩ o v h;rw[<-hW1,hz0]at this;by_cases ho:o=0
    ·subst ho;simpa[Addr.add] using this
    simpa[Addr.add,ho] using this
   exact⟨hc 0 _ rfl,hc 1 _ rfl,hc 2 _ rfl,hc 3 _ rfl,hc 4 _ rfl⟩
  simp at hx;subst hx;exact⟨hf.1,hf.2.1,hnm,hf.2.2.2.1,hf.2.2.2.2⟩
 clear hex hk hok hf hz0;subst V6;go_enter func109,ntmps109;go_wp2;rw[<-hW0];rw[<-hW1];go_ret;exact⟨⟨_,rfl,HR.out⟩,HB1.out⟩
theorem Sk(hn:n<rows.length)(hP:PrM w P D WX Wi out bK nK)(hD:DatA w rs D br bp bt n1 nr Mr Er (bn ts) xo xu np Mp vo vu)(hf:f.fits)(hts:∀t∈ts,t.fits)(htl:ts.length<=40)(hov:rows[n].e.over.size<=maxLen/\rows[n].e.name.size<=maxLen)(hex:gZ w V5 rows)(hre:rows.length<=1000)(hk:rows[n].e.kind=3):
  Calls prog 109 #[.pointer (some ⟨P,0,none⟩),.slice V5 rows.length capE,.int .i64 (n:Int),.agg #[.string f.a,.string f.b,.string f.r,.string f.c,.string f.d]] w fun e w'=>(∃v,e=.returned v/\aN w' (jB w.heap.size) (k+1) v (Eb ts rows[n].e.over rows[n].e.name f))/\ae w w':=by
 obtain⟨b,off,V6,⟨t0,t1,t2,t3,t4⟩,hbl,hok⟩:=gZ.at0 hex hn;obtain⟨W0,hW0⟩:∃W0,W0=vS w f rows[n]:=⟨_,rfl⟩;have HB0:Hid (ae w W0):=by show Below _ _ _;rw[hW0];exact eu _ _ _
 have XU:Hid (EnB W0 w.heap.size f rows[n]):=by show EnB _ _ _ _;rw[hW0];exact gp _ _ _
 have hk1:(rows[n].e.kind==1)=false:=by rw[hk];rfl
 have hk2:(rows[n].e.kind==2)=false:=by rw[hk];rfl
 have hk3:(rows[n].e.kind==3)=true:=by rw[hk];rfl
 have Yr:b<w.heap.size+1:=by omega
 have hn1:=bG n;have hn2:(n:Int)<(rows.length:Int):=by omega
 unfold vS at hW0;have HC:=aj (FJ rows[n] (hP.below HB0.out) (hD.below HB0.out) hf hov.1 hov.2 hts htl);clear hP hD hf hex hk hok;subst V6;go_enter func109,ntmps109;go_wp2_with fail;rw[<-hW0];clear hW0 t0 t1 t2 t3 t4;refine HC.out.mono ?_;rintro e w1 ⟨⟨v,rfl,hr⟩,hb1⟩;have HB1:=aj (HB0.out.trans (hb1.mono HB0.out.size));have HR:=aj (hr.old HB0.out.size (by omega:1<=k+1));clear hb1 hr;go_wp2;go_ret;exact⟨⟨v,rfl,HR.out⟩,HB1.out⟩
theorem QQ(hn:n<rows.length)(Gk:Int->Ru)(hkl:rows[n].e.kids.length<=5)(Zq:∀i∈rows[n].e.kids,QO P (.slice V5 rows.length capE) f w k i (Gk i))(hex:gZ w V5 rows)(hre:rows.length<=1000)(hk:rows[n].e.kind=4):
  Calls prog 109 #[.pointer (some ⟨P,0,none⟩),.slice V5 rows.length capE,.int .i64 (n:Int),.agg #[.string f.a,.string f.b,.string f.r,.string f.c,.string f.d]] w fun e w'=>(∃v,e=.returned v/\aN w' (jB w.heap.size) (k+1) v (fun K=>rows[n].e.kids.any fun i=>Gk i K))/\ae w w':=by
 obtain⟨b,off,V6,⟨t0,t1,t2,t3,t4⟩,hbl,hok⟩:=gZ.at0 hex hn;obtain⟨W0,hW0⟩:∃W0,W0=vS w f rows[n]:=⟨_,rfl⟩;have HB0:Hid (ae w W0):=by show Below _ _ _;rw[hW0];exact eu _ _ _
 have XU:Hid (EnB W0 w.heap.size f rows[n]):=by show EnB _ _ _ _;rw[hW0];exact gp _ _ _
 have hk1:(rows[n].e.kind==1)=false:=by rw[hk];rfl
 have hk2:(rows[n].e.kind==2)=false:=by rw[hk];rfl
 have hk3:(rows[n].e.kind==3)=false:=by rw[hk];rfl
 have hk4:(rows[n].e.kind==4)=true:=by rw[hk];rfl
 have Yr:b<w.heap.size+1:=by omega
 have hn1:=bG n;have hn2:(n:Int)<(rows.length:Int):=by omega
 unfold vS at hW0;have HC:=aj (tH k rows[n].e.kids Gk rows[n].adK rows[n].capK hkl (hok.2.below HB0.out) (fun i hi w1 hb=>Zq i hi w1 (HB0.out.trans (hb.mono HB0.out.size))));clear Zq hex hk hok;subst V6;go_enter func109,ntmps109;go_wp2_with fail;rw[<-hW0];clear hW0 t0 t1 t2 t3 t4;refine HC.out.mono ?_;rintro e w1 ⟨⟨WQ,WG,rfl,hr⟩,hb1⟩;have HB1:=aj (HB0.out.trans (hb1.mono HB0.out.size));have hr2:BR w1 (jB w.heap.size) (aN w1 (jB w.heap.size) k) WQ (rows[n].e.kids.map Gk):=by
  rcases hr with h|⟨g,e,h1,h2,h3⟩
  ·exact .inl h
  exact .inr ⟨g,e,U0 HB0.out.size h1,h2,fun i hi=>by obtain⟨u,hu,hp⟩:=h3 i hi;exact⟨u,hu,hp.old HB0.out.size (UU _)⟩⟩
 have HR:Hid (aN w1 (jB w.heap.size) (k+1) (.iface 247 (.agg #[.slice WQ rows[n].e.kids.length WG])) (fun K=>rows[n].e.kids.any fun i=>Gk i K)):=.inr (.inr (.inl ⟨WQ,WG,rows[n].e.kids.map Gk,by rw[Vt],by rw[Vt];exact hkl,hr2,by funext K;rw[List.any_map];rfl⟩));clear hb1 hr hr2;go_wp2;go_ret;exact⟨⟨_,rfl,HR.out⟩,HB1.out⟩
theorem Sm(hn:n<rows.length)(Gk:Int->Ru)(hkl:rows[n].e.kids.length<=5)(Zq:∀i∈rows[n].e.kids,QO P (.slice V5 rows.length capE) f w k i (Gk i))(hex:gZ w V5 rows)(hre:rows.length<=1000)(hk:rows[n].e.kind=5):
  Calls prog 109 #[.pointer (some ⟨P,0,none⟩),.slice V5 rows.length capE,.int .i64 (n:Int),.agg #[.string f.a,.string f.b,.string f.r,.string f.c,.string f.d]] w fun e w'=>(∃v,e=.returned v/\aN w' (jB w.heap.size) (k+1) v (fun K=>rows[n].e.kids.all fun i=>Gk i K))/\ae w w':=by
 obtain⟨b,off,V6,⟨t0,t1,t2,t3,t4⟩,hbl,hok⟩:=gZ.at0 hex hn;obtain⟨W0,hW0⟩:∃W0,W0=vS w f rows[n]:=⟨_,rfl⟩;have HB0:Hid (ae w W0):=by show Below _ _ _;rw[hW0];exact eu _ _ _
 have XU:Hid (EnB W0 w.heap.size f rows[n]):=by show EnB _ _ _ _;rw[hW0];exact gp _ _ _
 have hk1:(rows[n].e.kind==1)=false:=by rw[hk];rfl
 have hk2:(rows[n].e.kind==2)=false:=by rw[hk];rfl
 have hk3:(rows[n].e.kind==3)=false:=by rw[hk];rfl
 have hk4:(rows[n].e.kind==4)=false:=by rw[hk];rfl
 have hk5:(rows[n].e.kind==5)=true:=by rw[hk];rfl
 have Yr:b<w.heap.size+1:=by omega
 have hn1:=bG n;have hn2:(n:Int)<(rows.length:Int):=by omega
 unfold vS at hW0;have HC:=aj (tH k rows[n].e.kids Gk rows[n].adK rows[n].capK hkl (hok.2.below HB0.out) (fun i hi w1 hb=>Zq i hi w1 (HB0.out.trans (hb.mono HB0.out.size))));clear Zq hex hk hok;subst V6;go_enter func109,ntmps109;go_wp2_with fail;rw[<-hW0];clear hW0 t0 t1 t2 t3 t4;refine HC.out.mono ?_;rintro e w1 ⟨⟨WQ,WG,rfl,hr⟩,hb1⟩;have HB1:=aj (HB0.out.trans (hb1.mono HB0.out.size));have hr2:BR w1 (jB w.heap.size) (aN w1 (jB w.heap.size) k) WQ (rows[n].e.kids.map Gk):=by
  rcases hr with h|⟨g,e,h1,h2,h3⟩
  ·exact .inl h
  exact .inr ⟨g,e,U0 HB0.out.size h1,h2,fun i hi=>by obtain⟨u,hu,hp⟩:=h3 i hi;exact⟨u,hu,hp.old HB0.out.size (UU _)⟩⟩
 have HR:Hid (aN w1 (jB w.heap.size) (k+1) (.iface 248 (.agg #[.slice WQ rows[n].e.kids.length WG])) (fun K=>rows[n].e.kids.all fun i=>Gk i K)):=.inr (.inr (.inr ⟨WQ,WG,rows[n].e.kids.map Gk,by rw[Vt],by rw[Vt];exact hkl,hr2,by funext K;rw[List.all_map];rfl⟩));clear hb1 hr hr2;go_wp2;go_ret;exact⟨⟨_,rfl,HR.out⟩,HB1.out⟩
end
theorem UH{W0 W w':af}(h:ae W0 W)(hb:ae W w'):ae W0 w':=h.trans (hb.mono h.size)
section
variable  {w:World}{rs:Q06}{P D br bp bt bK nK n k:Nat}{n1:Int}{nr:Nat}{Mr:KL->Option Value}{Er:List (KL×RR)}{ts:Q05}{xo xu:Q0a}{np:Nat}{Mp:K3->Option Value}{vo vu:Value}{out:Q04}{f:Fc}{WX:Q02}{Wi:Nat}{V5:Q02}{capE:Nat}{rows:Q08}
theorem Ua(hn:n<rows.length)(b1:Bool)(G0:Ru)(hkl:rows[n].e.kids.length<=1000)(hk2l:2<=rows[n].e.kids.length)(hP:PrM w P D WX Wi out bK nK)(hH:Fy D (.slice V5 rows.length capE) f bK w (rows[n].e.kids.getD 1 0) b1)(hR:QO P (.slice V5 rows.length capE) f w k (rows[n].e.kids.getD 0 0) G0)(hex:gZ w V5 rows)(hre:rows.length<=1000)(hk:rows[n].e.kind=6):
  Calls prog 109 #[.pointer (some ⟨P,0,none⟩),.slice V5 rows.length capE,.int .i64 (n:Int),.agg #[.string f.a,.string f.b,.string f.r,.string f.c,.string f.d]] w fun e w'=>(∃v,e=.returned v/\aN w' (jB w.heap.size) (k+1) v (if b1 then fun _=>false else G0))/\ae w w':=by
 obtain⟨b,off,V6,⟨t0,t1,t2,t3,t4⟩,hbl,hok⟩:=gZ.at0 hex hn;obtain⟨W0,hW0⟩:∃W0,W0=vS w f rows[n]:=⟨_,rfl⟩;have HB0:Hid (ae w W0):=by show Below _ _ _;rw[hW0];exact eu _ _ _
 have XU:Hid (EnB W0 w.heap.size f rows[n]):=by show EnB _ _ _ _;rw[hW0];exact gp _ _ _
 have hk1:(rows[n].e.kind==1)=false:=by rw[hk];rfl
 have hk2:(rows[n].e.kind==2)=false:=by rw[hk];rfl
 have hk3:(rows[n].e.kind==3)=false:=by rw[hk];rfl
 have hk4:(rows[n].e.kind==4)=false:=by rw[hk];rfl
 have hk5:(rows[n].e.kind==5)=false:=by rw[hk];rfl
 have Yr:b<w.heap.size+1:=by omega
 have hn1:=bG n;have hn2:(n:Int)<(rows.length:Int):=by omega
 unfold vS at hW0;have h0k:0<rows[n].e.kids.length:=by omega
 have h1k:1<rows[n].e.kids.length:=by omega
 obtain⟨bJ,Xj,WA,z0,hbK⟩:=sK.at0 hok.2 h0k;have z1:w.cell? ⟨bJ,Xj+1,none⟩=some (.int .i64 rows[n].e.kids[1]):=by
  obtain⟨b',off',XY,z1,-⟩:=sK.at0 hok.2 h1k;rw[WA]at XY;injection XY with e;injection e with e1 e2;rw[e1,e2];exact z1
 obtain⟨i0,hi0⟩:∃i,i=rows[n].e.kids[0]:=⟨_,rfl⟩;obtain⟨i1,hi1⟩:∃i,i=rows[n].e.kids[1]:=⟨_,rfl⟩;have g0:rows[n].e.kids.getD 0 0=i0:=by rw[hi0,Vn,U1 h0k];rfl
 have g1:rows[n].e.kids.getD 1 0=i1:=by rw[hi1,Vn,U1 h1k];rfl
 rw[g0]at hR;rw[g1]at hH;rw[<-hi0,Nat.add_zero]at z0;rw[<-hi1]at z1;obtain⟨kl,hkl'⟩:∃kl,kl=rows[n].e.kids.length:=⟨_,rfl⟩;obtain⟨cK,hcK⟩:∃c,c=rows[n].capK:=⟨_,rfl⟩;have hl0:(0:Int)<(kl:Int):=by omega
 have hl1:(1:Int)<(kl:Int):=by omega
 have h0k':0<kl:=by omega
 have h1k':1<kl:=by omega
 have HH:Hid (∀w1,ae W0 w1->Calls prog 167 #[.pointer (some ⟨D,0,none⟩),.slice V5 rows.length capE,.int .i64 i1,.agg #[.string f.a,.string f.b,.string f.r,.string f.c,.string f.d],.map (some bK)] w1 fun e w'=>e=.returned (.bool b1)/\ae w1 w'):=fun w1 hb=>hH w1 (HB0.out.trans (hb.mono HB0.out.size));have HR:Hid (∀w1,ae W0 w1->Calls prog 109 #[.pointer (some ⟨P,0,none⟩),.slice V5 rows.length capE,.int .i64 i0,.agg #[.string f.a,.string f.b,.string f.r,.string f.c,.string f.d]] w1 fun e w'=>(∃v,e=.returned v/\aN w' (jB w.heap.size) (k+1) v G0)/\ae w1 w'):=fun w1 hb=>(hR w1 (HB0.out.trans (hb.mono HB0.out.size))).mono fun e w' ⟨⟨v,he,hr⟩,hb2⟩=>⟨⟨v,he,hr.old (U0 HB0.out.size hb.size) (by omega)⟩,hb2⟩;have HSA:Hid (∀w':World,ae W0 w'->ae W0 w'/\w'.cell? ⟨P,0,none⟩=some (.pointer (some ⟨D,0,none⟩))/\w'.cell? ⟨P,2,none⟩=some (.map (some bK))/\w'.cell? ⟨w.heap.size+1,4,none⟩=some (.slice (some ⟨bJ,Xj,none⟩) kl cK)/\w'.cell? ⟨bJ,Xj,none⟩=some (.int .i64 i0)/\w'.cell? ⟨bJ,Xj+1,none⟩=some (.int .i64 i1)/\w'.cell? ⟨w.heap.size,0,none⟩=some (.string f.a)/\w'.cell? ⟨w.heap.size,1,none⟩=some (.string f.b)/\w'.cell? ⟨w.heap.size,2,none⟩=some (.string f.r)/\w'.cell? ⟨w.heap.size,3,none⟩=some (.string f.c)/\w'.cell? ⟨w.heap.size,4,none⟩=some (.string f.d)):=fun w' h=>by
  have hl:=XU.out.lt;have hs:=HB0.out.size;have hx:∀o v,W0.cell? ⟨w.heap.size,o,none⟩=some v->w'.cell? ⟨w.heap.size,o,none⟩=some v:=fun o v hv=>aJ h (by omega) hv;have hw:∀g o v,g<w.heap.size->w.cell? ⟨g,o,none⟩=some v->w'.cell? ⟨g,o,none⟩=some v:=fun g o v hg hv=>aJ h (by omega) (aJ HB0.out hg hv);refine⟨h,hw _ _ _ hP.lt hP.c0,hw _ _ _ hP.lt hP.c2,?_,hw _ _ _ hbK z0,hw _ _ _ hbK z1,hx _ _ XU.out.f0,hx _ _ XU.out.f1,hx _ _ XU.out.f2,hx _ _ XU.out.f3,hx _ _ XU.out.f4⟩;refine aJ h hl ?_;rw[XU.out.x4,WA,<-hkl',<-hcK]
 clear hH hR hex hk hok z0 z1 WA h0k h1k g0 g1 hi0 hi1 hP hkl' hcK;subst V6;go_enter func109,ntmps109;go_wp2_with fail;rw[<-hW0];clear hW0 t0 t1 t2 t3 t4 hk1 hk2 hk3 hk4 hk5
 go_region_held3 (fun w'=>ae W0 w'/\w'.cell? ⟨P,0,none⟩=some (.pointer (some ⟨D,0,none⟩))/\w'.cell? ⟨P,2,none⟩=some (.map (some bK))/\w'.cell? ⟨w.heap.size+1,4,none⟩=some (.slice (some ⟨bJ,Xj,none⟩) kl cK)/\w'.cell? ⟨bJ,Xj,none⟩=some (.int .i64 i0)/\w'.cell? ⟨bJ,Xj+1,none⟩=some (.int .i64 i1)/\w'.cell? ⟨w.heap.size,0,none⟩=some (.string f.a)/\w'.cell? ⟨w.heap.size,1,none⟩=some (.string f.b)/\w'.cell? ⟨w.heap.size,2,none⟩=some (.string f.r)/\w'.cell? ⟨w.heap.size,3,none⟩=some (.string f.c)/\w'.cell? ⟨w.heap.size,4,none⟩=some (.string f.d))
  (first|assumption|exact HSA.out _ (UH (And.left (by assumption)) hbx)|exact HSA.out _ (UV _ _).drew)
  (first|(go_at_call 167;refine(HH.out _ (And.left (by assumption))).mono ?_;rintro e w2 ⟨rfl,hbx⟩))
 rename_i hJ;have HB2:=aj hJ.1;clear hJ;cases b1;case true=>
  have ZW:Hid (ae w w2):=HB0.out.trans (HB2.out.mono HB0.out.size);have HRU:Hid (aN w2 (jB w.heap.size) (k+1) (.iface 183 (.agg #[.bool false])) (if true=true then fun _=>false else G0)):=(pG (S:=jB w.heap.size) false (by rw[if_pos rfl])).up (by omega);go_wp2;go_ret;exact⟨⟨_,rfl,HRU.out⟩,ZW.out⟩
 go_wp2_with fail
 go_region_held3 (fun w'=>ae W0 w'/\w'.cell? ⟨P,0,none⟩=some (.pointer (some ⟨D,0,none⟩))/\w'.cell? ⟨P,2,none⟩=some (.map (some bK))/\w'.cell? ⟨w.heap.size+1,4,none⟩=some (.slice (some ⟨bJ,Xj,none⟩) kl cK)/\w'.cell? ⟨bJ,Xj,none⟩=some (.int .i64 i0)/\w'.cell? ⟨bJ,Xj+1,none⟩=some (.int .i64 i1)/\w'.cell? ⟨w.heap.size,0,none⟩=some (.string f.a)/\w'.cell? ⟨w.heap.size,1,none⟩=some (.string f.b)/\w'.cell? ⟨w.heap.size,2,none⟩=some (.string f.r)/\w'.cell? ⟨w.heap.size,3,none⟩=some (.string f.c)/\w'.cell? ⟨w.heap.size,4,none⟩=some (.string f.d))
  (first|assumption|exact HSA.out _ (UH (And.left (by assumption)) hbx)|exact HSA.out _ HB2.out.drew)
  (first|(go_at_call 109;refine(HR.out _ (And.left (by assumption))).mono ?_;rintro e w3 ⟨⟨v,rfl,hru⟩,hbx⟩;have HRV:=aj hru;clear hru))
 rename_i hJ;have HB3:=aj hJ.1;clear hJ;have ZW:Hid (ae w w3):=HB0.out.trans (HB3.out.mono HB0.out.size);go_wp2;go_ret;exact⟨⟨v,rfl,HRV.out⟩,ZW.out⟩
theorem El{e:Ex}(h:ax e=true)(hk:e.kind=4\/e.kind=5):2<=e.kids.length:=by
 unfold ax at h;rw[if_neg (by omega),if_neg (by omega),if_neg (by omega),if_pos hk]at h;simp only[UW,U3]at h;exact h.1.1.1.1
theorem wT(hN:XZ rows)(hnb:∀e∈ak rows,ax e=true)(hf:f.fits)(hts:∀t∈ts,t.fits)(htl:ts.length<=40)(htr:∀j,j<(ak rows).length->0<=ay (ak rows) j):
  ∀(k d n:Nat) (w:World),n<k->n<rows.length->(n:Int)-ay (ak rows) n+1<2*(d:Int)->PrM w P D WX Wi out bK nK->DatA w rs D br bp bt n1 nr Mr Er (bn ts) xo xu np Mp vo vu->gZ w V5 rows ->
  Calls prog 109 #[.pointer (some ⟨P,0,none⟩),.slice V5 rows.length capE,.int .i64 (n:Int),.agg #[.string f.a,.string f.b,.string f.r,.string f.c,.string f.d]] w fun e w'=>(∃v,e=.returned v/\aN w' (jB w.heap.size) d v (gN ts (ak rows) out f k n))/\ae w w'
 | 0,_,_,_,h,_,_,_,_,_=>absurd h (VL _)
 | k+1,d0,n,w,hk,hn,hsp,hP,hD,hex=>by
  obtain⟨d,rfl⟩:∃d,d0=d+1:=⟨d0-1,by have:=fV (ak rows) n;omega⟩;have hka:dm (ak rows) n=rows[n].e.kids:=by simp[dm,ak,hn]
  have e:(ak rows)[n]?=some rows[n].e:=by simp[ak,hn]
  have WJ:2<=rows[n].e.kids.length->∀i∈rows[n].e.kids,QO P (.slice V5 rows.length capE) f w d i (gN ts (ak rows) out f k i.toNat):=fun h2k i hi w1 hb1=>by
   have h1:=hN.kid hn hi;have h2:=wT hN hnb hf hts htl htr k d i.toNat w1 (by omega) (by omega) (Pg (htr n (by rw[aQ];exact hn)) (by rw[hka];exact h2k) hsp i (by rw[hka];exact hi)) (hP.below hb1) (hD.below hb1) (hex.below hb1);have e2:((i.toNat:Nat):Int)=i:=by omega
   rw[e2]at h2;exact h2
  have hkidH:∀i∈rows[n].e.kids,Fy D (.slice V5 rows.length capE) f bK w i (di ts (ak rows) out f k out i.toNat):=fun i hi w1 hb1=>by
   have h1:=hN.kid hn hi;have h2:=nH (capE:=capE) hN hnb hf hts (by omega) k i.toNat w1 (by omega) (by omega) (hD.below hb1) (hP.set.below hb1) (hex.below hb1);have e2:((i.toNat:Nat):Int)=i:=by omega
   rw[e2]at h2;exact h2
  have hm:rows[n]∈rows:=UR hn;have hme:rows[n].e∈ak rows:=U7.2 ⟨_,hm,rfl⟩;obtain⟨hn2,hn3,hkd⟩:=BQ (hnb _ hme);unfold gN;rw[e];dsimp only;by_cases k1:rows[n].e.kind=1
  ·rw[if_pos k1];exact Sj hn hP hD hf hts htl hex hN.len k1
  rw[if_neg k1];by_cases k2:rows[n].e.kind=2
  ·rw[if_pos k2];exact T9 hn hf (hn2 k2) hex hN.len k2
  rw[if_neg k2];by_cases k3:rows[n].e.kind=3
  ·rw[if_pos k3];exact Sk hn hP hD hf hts htl (hn3 k3) hex hN.len k3
  rw[if_neg k3];by_cases k4:rows[n].e.kind=4
  ·rw[if_pos k4];exact QQ hn (fun i=>gN ts (ak rows) out f k i.toNat) (pE (hnb _ hme)).1 (WJ (El (hnb _ hme) (.inl k4))) hex hN.len k4
  rw[if_neg k4];by_cases k5:rows[n].e.kind=5
  ·rw[if_pos k5];exact Sm hn (fun i=>gN ts (ak rows) out f k i.toNat) (pE (hnb _ hme)).1 (WJ (El (hnb _ hme) (.inr k5))) hex hN.len k5
  rw[if_neg k5];have k6:rows[n].e.kind=6:=by omega
  rw[if_pos k6];have h2:=hN.two _ hme k6;have hg:∀q,q<2->rows[n].e.kids.getD q 0∈rows[n].e.kids:=fun q hq=>by
   rw[Vn,U1 (by omega)];exact UR _
  exact Ua hn _ _ (hN.kids _ hm) h2 hP (hkidH _ (hg 1 (by omega))) (WJ h2 _ (hg 0 (by omega))) hex hN.len k6
end
end Go.Proofs.YtajkkeikihhejaaGreat
