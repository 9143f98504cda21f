/- The program's rules of what tuples tell, and of what is gone over. -/
import Derived.Test.YtajkkeikihhejaaGreatSq
import Derived.Test.YtajkkeikihhejaaGreatJ31
open Go.Proofs.Tryz
set_option maxHeartbeats 80000000
namespace Go.Proofs.YtajkkeikihhejaaGreat
set_option linter.unusedVariables false
set_option maxRecDepth 100000
open ChangeShapes WideShapes ChangeAt RowKit Maps
open Pl
structure PrM(w:World)(P D:Nat)(WX:Q02)(Wi:Nat)(out:Q04)(bK nK:Nat):Prop where
 lt:P<w.heap.size
 c0:w.cell? ⟨P,0,none⟩=some (.pointer (some ⟨D,0,none⟩))
 c1:w.cell? ⟨P,1,none⟩=some (.slice WX out.length Wi)
 c2:w.cell? ⟨P,2,none⟩=some (.map (some bK))
 found:o8 w WX out
 set:aK jO prog 29 w bK nK (wL out)
theorem PrM.below{w w':af}{P D:Nat}{WX:Q02}{Wi:Nat}{out:Q04}{bK nK:Nat}(h:PrM w P D WX Wi out bK nK)(hb:ae w w'):PrM w' P D WX Wi out bK nK :=
 ⟨UT h.lt hb.size,aJ hb h.lt h.c0,aJ hb h.lt h.c1,aJ hb h.lt h.c2,h.found.below hb,h.set.below hb⟩
section
variable  {w:World}{rs:Q06}{P D br bp bt bK nK:Nat}{n1:Int}{nr:Nat}{Mr:KL->Option Value}{Er:List (KL×RR)}{ts:Q05}{xo xu:Q0a}{np:Nat}{Mp:K3->Option Value}{vo vu:Value}{out:Q04}{f:Fc}{WX:Q02}{Wi:Nat}
theorem FI(hP:PrM w P D WX Wi out bK nK)(hD:DatA w rs D br bp bt n1 nr Mr Er (bn ts) xo xu np Mp vo vu)(hf:f.fits)(hts:∀t∈ts,t.fits)(htl:ts.length<=40):
  Calls prog 164 #[.pointer (some ⟨P,0,none⟩),.agg #[.string f.a,.string f.b,.string f.r,.string f.c,.string f.d]] w fun e w'=>(∃v,e=.returned v/\aN w' (jB w.heap.size) 1 v (rf ts f))/\ae w w':=by
 obtain⟨iF,i0,i1,i2,i3⟩:=pq;have XN:=aj (And.intro i0 (And.intro i1 (And.intro i2 i3)));obtain⟨kl,hkl⟩:=uU (f.a,f.b,f.r) hf.1 hf.2.1 hf.2.2.1;obtain⟨adL,Yb,hgd,hsl⟩:=wM hD.dat.told (f.a,f.b,f.r);have hll:=wO ts (f.a,f.b,f.r);have HFL:Hid (∀t∈G.lookL (bn ts) (f.a,f.b,f.r),t.fits):=fun t ht=>hts t (wN ht);have HHIT:Hid ((G.lookL (bn ts) (f.a,f.b,f.r)).any (qc f)=true->rf ts f=fun _=>true):=Qz;have Xu:Hid ((G.lookL (bn ts) (f.a,f.b,f.r)).any (qc f)=false->rf ts f=fun K=>(uF f (G.lookL (bn ts) (f.a,f.b,f.r))).any K):=R3;obtain⟨L,XH⟩:∃L,L=G.lookL (bn ts) (f.a,f.b,f.r):=⟨_,rfl⟩;rw[<-XH]at hgd hsl hll HFL Xu HHIT;obtain⟨W0,hW0⟩:∃W0,W0=w.alloc (.cells #[.string f.a,.string f.b,.string f.r,.string f.c,.string f.d] 29):=⟨_,rfl⟩;have HB0:=mI hW0;have c0:W0.cell? ⟨w.heap.size,0,none⟩=some (.string f.a):=by rw[hW0];simp
 have c1:W0.cell? ⟨w.heap.size,1,none⟩=some (.string f.b):=by rw[hW0];simp
 have c2:W0.cell? ⟨w.heap.size,2,none⟩=some (.string f.r):=by rw[hW0];simp
 have c3:W0.cell? ⟨w.heap.size,3,none⟩=some (.string f.c):=by rw[hW0];simp
 have c4:W0.cell? ⟨w.heap.size,4,none⟩=some (.string f.d):=by rw[hW0];simp
 have d3:=HB0.out.cell (p:=⟨D,3,none⟩) hD.dat.lt |>.trans hD.dat.c3;have p0:=aJ HB0.out hP.lt hP.c0;have hlk:∀m,(Instr.lookup 166 (.map (some bp)) (.agg #[.string f.a,.string f.b,.string f.r]) false).run prog (W0.drewN m)=.ok (.slice adL L.length Yb) (W0.drewN m):=fun m=>by
  have h:=((hD.dat.told.map.below HB0.out).below (below_drewN (UV _ _) m)).look (t:=166) (e:=25) KQ underlying166 (Bn _) (x:=(f.a,f.b,f.r)) hkl;rw[hgd]at h;exact h
 have Yu:=aj (hsl.below HB0.out);have HF:=aj hf;have Xg:Hid (W0.cell? ⟨w.heap.size,3,none⟩=some (.string f.c)/\W0.cell? ⟨w.heap.size,4,none⟩=some (.string f.d)/\w.heap.size<W0.heap.size):=⟨c3,c4,aF c3⟩;have Xv:∀m,Hid ((W0.drewN m).ownsRow W0.heap.size 29 5 (.slice none 0 0) (uF f (L.take 0)).length (aA (uF f (L.take 0)))):=fun m=>World.ownsRow_nil _ _ _ _;have HH0:Hid ((L.take 0).any (qc f)=false):=rfl;clear hsl hf XH hgd hkl i0 i1 i2 i3 hP hts;go_enter func164,ntmps164;go_wp2_with fail;rw[<-hW0];clear hW0;go_quiet (fail);clear c0 c1 c2 c3 c4 d3 p0 hlk;go_wp2;go_loopw[5,22] (fun v i wr=>∃k:Nat,k<=L.length/\i=.int .i64 k/\Hid (wr.ownsRow W0.heap.size 29 5 v (uF f (L.take k)).length (aA (uF f (L.take k))))/\Hid (ae W0 wr)/\Hid ((L.take k).any (qc f)=false)) (fun _ i _=>L.length-(intOf i).toNat);case atStart=>exact⟨0,UY _,rfl,Xv _,below_drewN (UV _ _) _,HH0⟩
 clear Xv HH0;obtain⟨k,hk,rfl,HO,HB,HH⟩:=hrel;by_cases hlt:k<L.length
 ·obtain⟨bT,offT,XR,⟨a0,a1,a2,a3,a4,a5⟩,hbT⟩:=Sl.at0 (Yu.out.below HB.out) hlt;obtain⟨c3,c4,cl⟩:=Xg.out;replace c3:=aJ HB.out cl c3;replace c4:=aJ HB.out cl c4;replace cl:=UT cl HB.out.size;have hi1:=bG k;have hi2:(k:Int)<(L.length:Int):=by omega
  have Y4:=aj (Qv f hlt);have hkl:(uF f (L.take k)).length<=k:=by
   have h:=Lf f (L.take k);rw[Vy]at h;omega
  have HHT:Hid ((L.take (k+1)).any (qc f)=((L.take k).any (qc f) || qc f L[k])):=by show _=_;rw[UX hlt,List.any_append];simp
  have HHA:Hid (qc f L[k]=true->L.any (qc f)=true):=fun h=>Vk.2 ⟨_,UR hlt,h⟩;obtain⟨t,ht⟩:∃t,t=L[k]:=⟨_,rfl⟩;rw[<-ht]at a0 a1 a2 a3 a4 a5 Y4 HHT HHA;clear ht;obtain⟨W1,hW1⟩:∃W1,W1=wr.alloc (.cells #[.string t.a,.string t.b,.string t.r,.string t.c,.string t.d,.string t.s] 46):=⟨_,rfl⟩;have WM:=mI hW1;have V9:=aj (HB.out.trans (WM.out.mono HB.out.size));have hz1:W1.heap.size=wr.heap.size+1:=by rw[hW1];simp
  have Wp:=aj (aY HO.out WM.out);obtain⟨ys,hys⟩:∃ys,ys=uF f (L.take k):=⟨_,rfl⟩;rw[<-hys]at Wp Y4 hkl;obtain⟨adV,Yc,rfl,-⟩:=iP Wp.out;subst XR;clear hys HO WM;cases hs:t.s.toList.isEmpty;case true=>
   have hs2:(t.s.toList==[])=true:=by rw[mZ];exact hs
   have Z4:Hid (uF f (L.take (k+1))=ys):=by show _=_;rw[Y4.out,hs];simp
   cases hu:yw t.c t.d f.c f.d;case true=>
    have heq:=iD _ _ _ _ hu;have HN:Hid (rf ts f=fun _=>true):=HHIT.out (HHA.out (by unfold qc;rw[hs,hu];rfl));have ZW:Hid (ae w W1):=HB0.out.trans (V9.out.mono HB0.out.size);clear hu hs;go_wp2;rw[<-hW1];go_ret;exact⟨⟨_,rfl,pG true HN.out⟩,ZW.out⟩
   have heq:=iD _ _ _ _ hu;have HH2:Hid ((L.take (k+1)).any (qc f)=false):=by show _=_;rw[HHT.out,HH.out];unfold qc;rw[hu];simp
   have HR:Hid (W1.ownsRow W0.heap.size 29 5 (.slice adV ys.length Yc) (uF f (L.take (k+1))).length (aA (uF f (L.take (k+1))))):=by show World.ownsRow _ _ _ _ _ _ _;rw[Z4.out];exact Wp.out
   clear hu hs;go_wp2;rw[<-hW1];clear hW1;go_roundw;case rel=>exact⟨k+1,by omega,by go_num,HR,V9,HH2⟩
   simp[intOf]<;>omega
  have hs2:(t.s.toList==[])=false:=by rw[mZ];exact hs
  have HWE:Hid (uF f (L.take (k+1))=ys++[⟨t.c,t.d,t.s,f.c,f.d⟩]):=by show _=_;rw[Y4.out,hs];rfl
  have HH2:Hid ((L.take (k+1)).any (qc f)=false):=by show _=_;rw[HHT.out,HH.out];unfold qc;rw[hs];rfl
  clear hs;obtain⟨W4,WE⟩:∃W4,W4=W1.alloc (.cells #[.string t.c,.string t.d,.string t.s,.string f.c,.string f.d] 29):=⟨_,rfl⟩;have Wo:Hid (W4.ownsRow W0.heap.size 29 5 (.slice adV ys.length Yc) ys.length (aA ys)):=by show World.ownsRow _ _ _ _ _ _ _;rw[WE];exact Wp.out.alloc _
  have HN4:Hid (∀j u,(Fc.row ⟨t.c,t.d,t.s,f.c,f.d⟩)[j]?=some u->W4.cell? ((⟨wr.heap.size+1,0,none⟩:Addr).add j)=some u):=by rw[<-hz1,WE];exact wC W1 ⟨t.c,t.d,t.s,f.c,f.d⟩
  have WW:Hid (ae W0 W4):=by show Below _ _ _;rw[WE];exact V9.out.alloc V9.out.size _
  have YT:W0.heap.size<=W4.heap.size:=WW.out.size;go_wp2_with(at_builtin;rw[<-hW1];rw[<-WE];clear WE;refine wpList_append_own_at _ rfl _ _ 40 rfl W0.heap.size 29 iF (.agg #[.string ⟨#[]⟩,.string ⟨#[]⟩,.string ⟨#[]⟩,.string ⟨#[]⟩,.string ⟨#[]⟩]) 5 80 underlying40 XN.out.1 XN.out.2.1 XN.out.2.2.1 XN.out.2.2.2 rfl (by decide) _ ys.length (aA ys) rfl Wo.out ⟨wr.heap.size+1,0,none⟩ 1 1 (Fc.row ⟨t.c,t.d,t.s,f.c,f.d⟩) rfl rfl HN4.out (by simp[Fc.row,Value.oneCell']) (by unfold maxLen;omega) (by omega) YT ?_);intro v' w5 hown hgr _ _;have HR:Hid (w5.ownsRow W0.heap.size 29 5 v' (uF f (L.take (k+1))).length (aA (uF f (L.take (k+1))))):=by
   show World.ownsRow _ _ _ _ _ _ _;rw[HWE.out,U2,ko];exact hown
  have YC:Hid (ae W0 w5):=WW.out.grown hgr WW.out.size (fun g hg=>(Wo.out.lt g hg).1);clear hown hgr c3 c4 cl;go_wp2;go_roundw;case rel=>exact⟨k+1,by omega,by go_num,HR,YC,HH2⟩
  simp[intOf]<;>omega
 have HE:Hid (wr.ownsRow w.heap.size 29 5 u5 (uF f L).length (aA (uF f L))):=by
  have h:=HO.out;rw[Vs (by omega)]at h;exact dI h HB0.out.size
 have XV:Hid (rf ts f=fun K=>(uF f L).any K):=Xu.out (by have h:=HH.out;rw[Vs (by omega)]at h;exact h);have Yy:Hid (∀y∈uF f L,y.fits):=Qx HF.out HFL.out;have WR:Hid ((uF f L).length<=40):=by show _<=_;have:=Lf f L;omega
 have ZW:Hid (ae w wr):=HB0.out.trans (HB.out.mono HB0.out.size);clear HO;obtain⟨Xc,Wn,rfl,-⟩:=iP HE.out;go_wp2;go_ret;exact⟨⟨_,rfl,wQ HE.out WR.out Yy.out XV.out⟩,ZW.out⟩
theorem FJ(x:ER)(hP:PrM w P D WX Wi out bK nK)(hD:DatA w rs D br bp bt n1 nr Mr Er (bn ts) xo xu np Mp vo vu)(hf:f.fits)(hov:x.e.over.size<=maxLen)(hnm:x.e.name.size<=maxLen)(hts:∀t∈ts,t.fits)(htl:ts.length<=40):
  Calls prog 165 #[.pointer (some ⟨P,0,none⟩),.agg #[.int .i64 x.e.kind,.slice x.adA x.e.allow.length x.capA,.string x.e.over,.string x.e.name,.slice x.adK x.e.kids.length x.capK],.agg #[.string f.a,.string f.b,.string f.r,.string f.c,.string f.d]] w fun e w'=>(∃v,e=.returned v/\aN w' (jB w.heap.size) 1 v (Eb ts x.e.over x.e.name f))/\ae w w':=by
 obtain⟨iF,i0,i1,i2,i3⟩:=pq;have XN:=aj (And.intro i0 (And.intro i1 (And.intro i2 i3)));obtain⟨kl,hkl⟩:=uU (f.a,f.b,x.e.over) hf.1 hf.2.1 hov;obtain⟨adL,Yb,hgd,hsl⟩:=wM hD.dat.told (f.a,f.b,x.e.over);have hll:=wO ts (f.a,f.b,x.e.over);have HFL:Hid (∀t∈G.lookL (bn ts) (f.a,f.b,x.e.over),t.fits):=fun t ht=>hts t (wN ht);have Xu:Hid (Eb ts x.e.over x.e.name f=fun K=>(zo f x.e.name (G.lookL (bn ts) (f.a,f.b,x.e.over))).any K):=R4;obtain⟨L,XH⟩:∃L,L=G.lookL (bn ts) (f.a,f.b,x.e.over):=⟨_,rfl⟩;rw[<-XH]at hgd hsl hll HFL Xu;obtain⟨W0,hW0⟩:∃W0,W0=(w.alloc (.cells #[.int .i64 x.e.kind,.slice x.adA x.e.allow.length x.capA,.string x.e.over,.string x.e.name,.slice x.adK x.e.kids.length x.capK] 39)).alloc (.cells #[.string f.a,.string f.b,.string f.r,.string f.c,.string f.d] 29):=⟨_,rfl⟩;have HB0:Hid (ae w W0):=by show Below _ _ _;rw[hW0];exact((UV _ _).alloc (UU _) _).alloc (by simp) _
 have x2:W0.cell? ⟨w.heap.size,2,none⟩=some (.string x.e.over):=by rw[hW0];simp
 have x3:W0.cell? ⟨w.heap.size,3,none⟩=some (.string x.e.name):=by rw[hW0];simp
 have hbx:w.heap.size+1<W0.heap.size:=by rw[hW0];simp
 have c0:W0.cell? ⟨w.heap.size+1,0,none⟩=some (.string f.a):=by rw[hW0];simp
 have c1:W0.cell? ⟨w.heap.size+1,1,none⟩=some (.string f.b):=by rw[hW0];simp
 have c2:W0.cell? ⟨w.heap.size+1,2,none⟩=some (.string f.r):=by rw[hW0];simp
 have c3:W0.cell? ⟨w.heap.size+1,3,none⟩=some (.string f.c):=by rw[hW0];simp
 have c4:W0.cell? ⟨w.heap.size+1,4,none⟩=some (.string f.d):=by rw[hW0];simp
 have d3:=HB0.out.cell (p:=⟨D,3,none⟩) hD.dat.lt |>.trans hD.dat.c3;have p0:=aJ HB0.out hP.lt hP.c0;have hlk:∀m,(Instr.lookup 166 (.map (some bp)) (.agg #[.string f.a,.string f.b,.string x.e.over]) false).run prog (W0.drewN m)=.ok (.slice adL L.length Yb) (W0.drewN m):=fun m=>by
  have h:=((hD.dat.told.map.below HB0.out).below (below_drewN (UV _ _) m)).look (t:=166) (e:=25) KQ underlying166 (Bn _) (x:=(f.a,f.b,x.e.over)) hkl;rw[hgd]at h;exact h
 have Yu:=aj (hsl.below HB0.out);have HF:=aj hf;have Xg:Hid (W0.cell? ⟨w.heap.size+1,3,none⟩=some (.string f.c)/\W0.cell? ⟨w.heap.size+1,4,none⟩=some (.string f.d)/\w.heap.size+1<W0.heap.size):=⟨c3,c4,aF c3⟩;have HX0:Hid (W0.cell? ⟨w.heap.size,3,none⟩=some (.string x.e.name)/\w.heap.size<W0.heap.size):=⟨x3,aF x3⟩;have Xv:∀m,Hid ((W0.drewN m).ownsRow W0.heap.size 29 5 (.slice none 0 0) (zo f x.e.name (L.take 0)).length (aA (zo f x.e.name (L.take 0)))):=fun m=>World.ownsRow_nil _ _ _ _;clear hsl hf XH hgd hkl i0 i1 i2 i3 hP hts;go_enter func165,ntmps165;go_wp2_with fail;rw[<-hW0];clear hW0;go_quiet (fail);clear c0 c1 c2 c3 c4 d3 p0 hlk x2 x3;go_wp2;go_loopw[7,24] (fun v i wr=>∃k:Nat,k<=L.length/\i=.int .i64 k/\Hid (wr.ownsRow W0.heap.size 29 5 v (zo f x.e.name (L.take k)).length (aA (zo f x.e.name (L.take k))))/\Hid (ae W0 wr)) (fun _ i _=>L.length-(intOf i).toNat);case atStart=>exact⟨0,UY _,rfl,Xv _,below_drewN (UV _ _) _⟩
 clear Xv;obtain⟨k,hk,rfl,HO,HB⟩:=hrel;by_cases hlt:k<L.length
 ·obtain⟨bT,offT,XR,⟨a0,a1,a2,a3,a4,a5⟩,hbT⟩:=Sl.at0 (Yu.out.below HB.out) hlt;obtain⟨c3,c4,cl⟩:=Xg.out;replace c3:=aJ HB.out cl c3;replace c4:=aJ HB.out cl c4;replace cl:=UT cl HB.out.size;obtain⟨x3,xl⟩:=HX0.out;replace x3:=aJ HB.out xl x3;replace xl:=UT xl HB.out.size;have hi1:=bG k;have hi2:(k:Int)<(L.length:Int):=by omega
  have Y4:=aj (Qw f x.e.name hlt);have hkl:(zo f x.e.name (L.take k)).length<=k:=by
   have h:=(show(zo f x.e.name (L.take k)).length=(L.take k).length from by unfold zo;rw[Vt]);rw[Vy]at h;omega
  obtain⟨t,ht⟩:∃t,t=L[k]:=⟨_,rfl⟩;rw[<-ht]at a0 a1 a2 a3 a4 a5 Y4;clear ht;obtain⟨W1,hW1⟩:∃W1,W1=wr.alloc (.cells #[.string t.a,.string t.b,.string t.r,.string t.c,.string t.d,.string t.s] 46):=⟨_,rfl⟩;have WM:=mI hW1;have V9:=aj (HB.out.trans (WM.out.mono HB.out.size));have hz1:W1.heap.size=wr.heap.size+1:=by rw[hW1];simp
  have Wp:=aj (aY HO.out WM.out);obtain⟨ys,hys⟩:∃ys,ys=zo f x.e.name (L.take k):=⟨_,rfl⟩;rw[<-hys]at Wp Y4 hkl;obtain⟨adV,Yc,rfl,-⟩:=iP Wp.out;subst XR;clear hys HO WM;have HWE:Hid (zo f x.e.name (L.take (k+1))=ys++[⟨t.c,t.d,x.e.name,f.c,f.d⟩]):=Y4.out;obtain⟨W4,WE⟩:∃W4,W4=W1.alloc (.cells #[.string t.c,.string t.d,.string x.e.name,.string f.c,.string f.d] 29):=⟨_,rfl⟩;have Wo:Hid (W4.ownsRow W0.heap.size 29 5 (.slice adV ys.length Yc) ys.length (aA ys)):=by show World.ownsRow _ _ _ _ _ _ _;rw[WE];exact Wp.out.alloc _
  have HN4:Hid (∀j u,(Fc.row ⟨t.c,t.d,x.e.name,f.c,f.d⟩)[j]?=some u->W4.cell? ((⟨wr.heap.size+1,0,none⟩:Addr).add j)=some u):=by rw[<-hz1,WE];exact wC W1 ⟨t.c,t.d,x.e.name,f.c,f.d⟩
  have WW:Hid (ae W0 W4):=by show Below _ _ _;rw[WE];exact V9.out.alloc V9.out.size _
  have YT:W0.heap.size<=W4.heap.size:=WW.out.size;go_wp2_with(at_builtin;rw[<-hW1];rw[<-WE];clear WE;refine wpList_append_own_at _ rfl _ _ 40 rfl W0.heap.size 29 iF (.agg #[.string ⟨#[]⟩,.string ⟨#[]⟩,.string ⟨#[]⟩,.string ⟨#[]⟩,.string ⟨#[]⟩]) 5 80 underlying40 XN.out.1 XN.out.2.1 XN.out.2.2.1 XN.out.2.2.2 rfl (by decide) _ ys.length (aA ys) rfl Wo.out ⟨wr.heap.size+1,0,none⟩ 1 1 (Fc.row ⟨t.c,t.d,x.e.name,f.c,f.d⟩) rfl rfl HN4.out (by simp[Fc.row,Value.oneCell']) (by unfold maxLen;omega) (by omega) YT ?_);intro v' w5 hown hgr _ _;have HR:Hid (w5.ownsRow W0.heap.size 29 5 v' (zo f x.e.name (L.take (k+1))).length (aA (zo f x.e.name (L.take (k+1))))):=by
   show World.ownsRow _ _ _ _ _ _ _;rw[HWE.out,U2,ko];exact hown
  have YC:Hid (ae W0 w5):=WW.out.grown hgr WW.out.size (fun g hg=>(Wo.out.lt g hg).1);clear hown hgr c3 c4 cl x3 xl;go_wp2;go_roundw;case rel=>exact⟨k+1,by omega,by go_num,HR,YC⟩
  simp[intOf]<;>omega
 have HE:Hid (wr.ownsRow w.heap.size 29 5 u7 (zo f x.e.name L).length (aA (zo f x.e.name L))):=by
  have h:=HO.out;rw[Vs (by omega)]at h;exact dI h HB0.out.size
 have XV:=Xu;have Yy:Hid (∀y∈zo f x.e.name L,y.fits):=Qy HF.out hnm HFL.out;have WR:Hid ((zo f x.e.name L).length<=40):=by show _<=_;unfold zo;rw[Vt];omega
 have ZW:Hid (ae w wr):=HB0.out.trans (HB.out.mono HB0.out.size);clear HO;obtain⟨Xc,Wn,rfl,-⟩:=iP HE.out;go_wp2;go_ret;exact⟨⟨_,rfl,wQ HE.out WR.out Yy.out XV.out⟩,ZW.out⟩
end
end Go.Proofs.YtajkkeikihhejaaGreat
