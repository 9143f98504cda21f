/- The iterator over what a round finds: what holds by the facts that are known, and is not known itself. -/
import Derived.Test.YtajkkeikihhejaaGreatSq
import Derived.Test.YtajkkeikihhejaaGreatJ20
import Derived.Maps.OwnIn
import Derived.Test.YtajkkeikihhejaaGreatL4All
open Go.Proofs.Tryz
set_option maxHeartbeats 80000000
namespace Go.Proofs.YtajkkeikihhejaaGreat
set_option linter.unusedVariables false
set_option maxRecDepth 100000
open ChangeShapes WideShapes ChangeAt RowKit Maps Go.Shelf
open Pl
attribute [local go_sem] Oper.semAt_some
theorem KD{n m:Nat}{P:Program}{l:Nat}{f:FuncId}{tmps:Array Value}{assign body:Code}{w:af}{R:Ending->World->Prop}(h:RoundIn Fence.wide n P l f tmps assign body w R):RoundIn Fence.wide m P l f tmps assign body w R :=
 ⟨h.1,fun c cs _=>h.2 c cs (room_wide _)⟩
theorem Ci(D:Nat)(sn:Int)(Xw:Q02)(nU WH:Nat)(w:af):
  Calls prog 145 #[.pointer (some ⟨D,0,none⟩),.int .i64 sn,.slice Xw nU WH] w fun e w'=>e=.returned (.func (.func 199) #[] #[.pointer (some ⟨w.heap.size,0,none⟩),.pointer (some ⟨w.heap.size+1,0,none⟩),.pointer (some ⟨w.heap.size+1+1,0,none⟩)])/\w'=((w.alloc (.cells #[.pointer (some ⟨D,0,none⟩)] 97)).alloc (.cells #[.int .i64 sn] 2)).alloc (.cells #[.slice Xw nU WH] 49):=by
 go_enter func145,ntmps145;go_wp2;go_ret;exact⟨rfl,rfl⟩
theorem FT(D:Nat)(sn:Int)(Xw:Q02)(nU WH:Nat)(bK:Nat)(w:af):
  Calls prog 102 #[.pointer (some ⟨D,0,none⟩),.int .i64 sn,.slice Xw nU WH,.map (some bK)] w fun e w'=>e=.returned (.func (.func 144) #[] #[.pointer (some ⟨w.heap.size,0,none⟩),.pointer (some ⟨w.heap.size+1,0,none⟩),.pointer (some ⟨w.heap.size+1+1,0,none⟩),.pointer (some ⟨w.heap.size+1+1+1,0,none⟩)])/\w'=(((w.alloc (.cells #[.pointer (some ⟨D,0,none⟩)] 97)).alloc (.cells #[.int .i64 sn] 2)).alloc (.cells #[.slice Xw nU WH] 49)).alloc (.cells #[.map (some bK)] 107):=by
 go_enter func102,ntmps102;go_wp2;go_ret;exact⟨rfl,rfl⟩
structure NewM(W:World)(rs:Q06)(Xk:Q02)(D br bp bt:Nat)(n1:Int)(nr:Nat)(Mr:KL->Option Value)(Er:List (KL×RR))(ts:Q05)(xo xu:Q0a)(np:Nat)(Mp:K3->Option Value)(vo vu:Value)(bK:Nat)(out:Q04)(hD hS hU hK:Nat)(sn:Int)(Xw:Q02)(WH:Nat)(us:Q0a):Prop where
 dat:DatA W rs D br bp bt n1 nr Mr Er (bn ts) xo xu np Mp vo vu
 sch:j5 W Xk rs
 map:∃nK,aM jf prog 29 W bK nK (uK out)
 bD:W.cell? ⟨hD,0,none⟩=some (.pointer (some ⟨D,0,none⟩))
 bS:W.cell? ⟨hS,0,none⟩=some (.int .i64 sn)
 bU:W.cell? ⟨hU,0,none⟩=some (.slice Xw us.length WH)
 bM:W.cell? ⟨hK,0,none⟩=some (.map (some bK))
 users:lK W Xw us
def Uf(l:Nat):Value:=.func (.yield l) #[] #[]
def iy(W:World)(g:Nat)(v:Value)(T:TypeId):Prop:=W.heap[g]?=some (.cells #[v] T (0,0))
theorem iy.c{W:af}{g:Nat}{v:Value}{T:TypeId}(h:iy W g v T):W.cell? ⟨g,0,none⟩=some v:=by
 unfold iy at h;simp[World.cell?,h]
theorem iy.kp{b l:Nat}{W W':af}{g:Nat}{v:Value}{T:TypeId}(h:iy W g v T)(hk:KpO b l W W')(h1:T≠29)(h2:T≠40):iy W' g v T:=hk.cells g _ _ _ h h1 h2
theorem iy.bel{W W':af}{g:Nat}{v:Value}{T:TypeId}(h:iy W g v T)(hb:ae W W'):iy W' g v T:=(hb.block g (Vi.1 h).1).trans h
structure NBx(W:World)(B l D:Nat)(sn:Int)(vU:Value):Prop where
 y:iy W B (Uf l) 108
 d:iy W (B+1) (.pointer (some ⟨D,0,none⟩)) 97
 s:iy W (B+1+1) (.int .i64 sn) 2
 u:iy W (B+1+1+1) vU 49
theorem NBx.kp{b l0:Nat}{W W':af}{B l D:Nat}{sn:Int}{vU:Value}(h:NBx W B l D sn vU)(hk:KpO b l0 W W'):NBx W' B l D sn vU :=
 ⟨h.y.kp hk (by decide) (by decide),h.d.kp hk (by decide) (by decide),h.s.kp hk (by decide) (by decide),h.u.kp hk (by decide) (by decide)⟩
theorem NBx.bel{W W':af}{B l D:Nat}{sn:Int}{vU:Value}(h:NBx W B l D sn vU)(hb:ae W W'):NBx W' B l D sn vU:=⟨h.y.bel hb,h.d.bel hb,h.s.bel hb,h.u.bel hb⟩
theorem Sv{β:Type}{B0 B l D:Nat}{sn:Int}{vU:Value}(hB:B+1+1+1<B0):OwnFrom B0 (fun(_:β) W=>NBx W B l D sn vU):=fun s X Y row hs hg hr=>by
 have key:∀g v T,g<B0->iy X g v T->iy Y g v T:=fun g v T hl h=>(hg.block g (Vi.1 h).1 fun e=>by have:=(hr g e.symm).1;omega).trans h;exact⟨key _ _ _ (by omega) hs.y,key _ _ _ (by omega) hs.d,key _ _ _ (by omega) hs.s,key _ _ _ (by omega) hs.u⟩
def sV(W:World)(g:Nat)(x:Fc):Prop:=W.heap[g]?=some (.cells #[.string x.a,.string x.b,.string x.r,.string x.c,.string x.d] 29 (0,0))
theorem sV.c{W:af}{g:Nat}{x:Fc}(h:sV W g x):W.cell? ⟨g,0,none⟩=some (.string x.a)/\W.cell? ⟨g,1,none⟩=some (.string x.b)/\W.cell? ⟨g,2,none⟩=some (.string x.r)/\W.cell? ⟨g,3,none⟩=some (.string x.c)/\W.cell? ⟨g,4,none⟩=some (.string x.d)/\g<W.heap.size:=by
 have hl:=(Vi.1 h).1;unfold sV at h;exact⟨by simp[World.cell?,h],by simp[World.cell?,h],by simp[World.cell?,h],by simp[World.cell?,h],by simp[World.cell?,h],hl⟩
theorem sV.bel{W W':af}{g:Nat}{x:Fc}(h:sV W g x)(hb:ae W W'):sV W' g x:=(hb.block g (Vi.1 h).1).trans h
theorem Iz{B0 g:Nat}{x:Fc}:OwnFrom B0 (fun(_:Unit) W=>sV W g x):=fun s X Y row hs hg hr=>by
 refine(hg.block g (Vi.1 hs).1 fun e=>?_).trans hs;obtain⟨-,o,ho,hc⟩:=hr g e.symm;rw[show X.heap[g]?=_ from hs]at ho;cases ho;cases hc
theorem QK{l' m:Nat}{P:Program}{f:FuncId}{args:Array Value}{w:af}{R:Ending->World->Prop}(h:Calls P f args w R):CallsIn (Fence.wide.inRound l') m P f args w R:=(callsIn_wide (n:=m)).2 h
theorem Ug{l' n m:Nat}{P:Program}{l:Nat}{f:FuncId}{tmps:Array Value}{assign body:Code}{w:af}{R:Ending->World->Prop}(h:RoundIn Fence.wide n P l f tmps assign body w R):RoundIn (Fence.wide.inRound l') m P l f tmps assign body w R:=KD (m:=m) h
theorem yQ{B:Nat}{W W':af}(h:ae W W'):KeepsFrom B W W':=⟨h.size,fun k o _ hk _=>(h.block k (Vi.1 hk).1).trans hk⟩
theorem QL{B b l:Nat}{W W':af}(h:KpO b l W W')(hl:l<B)(hb:b<B):KeepsFrom B W W':=⟨h.size,fun k o hB hk hc=>h.other k o hk hc (by omega) (by omega)⟩
theorem IA{rs:Q06}{st:Q00}{xo us:Q0a}{sn:Int}{x:Fc}(hof:∀o∈xo,o.t.size<=maxLen/\o.s.size<=maxLen)(huf:∀o∈us,o.t.size<=maxLen/\o.s.size<=maxLen)(hrf:∀k∈au (ag rs),k.2.size<=maxLen)(h:x∈cZ (ag rs) st xo us sn):(x.a,x.r)∈au (ag rs)/\x.fits:=by
 unfold cZ vQ at h;obtain⟨o,ho,h⟩:=Vp.1 h;obtain⟨k,hk,h⟩:=Vp.1 h;obtain⟨u,hu,rfl⟩:=Vo.1 h;obtain⟨h1,h2⟩:=V6.1 hk;rw[Vd,fD]at h2;have e:(o.t,k.2)=k:=Prod.ext h2.1.symm rfl;refine⟨?_,(hof o ho).1,(hof o ho).2,hrf k h1,(huf u hu).1,(huf u hu).2⟩;show(o.t,k.2)∈_;rw[e];exact h1
theorem NL[DecidableEq Fc](n:Nat)(hn:4<=n)(rs:Q06)(Xk:Q02)(D br bp bt:Nat)(n1:Int)(nr:Nat)(Mr:KL->Option Value)(st:Q00)(ts:Q05)(Yp:Q02)(Yc:Nat)(xo xu:Q0a)(np:Nat)(Mp:K3->Option Value)(vu:Value)(bK:Nat)(XZ:Q04)(hD hS hU hK:Nat)(sn:Int)(Xw:Q02)(WH:Nat)(us:Q0a)(w0:af)(hs0:0<=sn)(hs1:sn<=1000)(hol:xo.length<=1000)(ZV:us.length<=1000)(hrl:∀k,(G.lookL (dH st rs) k).length<=1000)(hsh:bq (ag rs)=true)(hts:∀t∈ts,t.fits)(htl:ts.length<=1000)(hof:∀o∈xo,o.t.size<=maxLen/\o.s.size<=maxLen)(huf:∀o∈us,o.t.size<=maxLen/\o.s.size<=maxLen)(hrf:∀k∈au (ag rs),k.2.size<=maxLen):
  EZ Fence.wide n prog 144 #[.pointer (some ⟨hD,0,none⟩),.pointer (some ⟨hS,0,none⟩),.pointer (some ⟨hU,0,none⟩),.pointer (some ⟨hK,0,none⟩)] Ew (KpO bK) (fun pre W=>NewM W rs Xk D br bp bt n1 nr Mr (dH st rs) ts xo xu np Mp (.slice Yp xo.length Yc) vu bK (XZ++pre) hD hS hU hK sn Xw WH us) (fun pre x=>x∈cZ (ag rs) st xo us sn/\x ∉ XZ++pre) (fun xs=>bZ (fU (ag rs) ts) (cZ (ag rs) st xo us sn) XZ=XZ++xs) w0:=by
 intro l J W _ hlW _ hJ hT hY h0;have hM:=hT _ _ h0;obtain⟨nK0,hmap0⟩:=hM.map;have hbK:=hmap0.lt;have bD:=hM.bD;have bS:=hM.bS;have bU:=hM.bU;have lD:=aC bD;have lS:=aC bS;have lU:=aC bU;obtain⟨W1,hW1⟩:∃W1,W1=W.alloc (.cells #[.func (.yield l) #[] #[]] 108):=⟨_,rfl⟩;have hB1:ae W W1:=by rw[hW1];exact(Vb _ _).alloc (Va _) _
 have s1:W1.heap.size=W.heap.size+1:=by rw[hW1,World.size_alloc]
 have y1:iy W1 W.heap.size (Uf l) 108:=by rw[hW1];exact World.alloc_heap_new W _
 have bD1:=aI hB1 lD bD;have bS1:=aI hB1 lS bS;have bU1:=aI hB1 lU bU;clear hM hmap0;refine callsIn_of_wp_marks func144 rfl trivial ?_ rfl;simp only[ntmps144,List.size_toArray,VI,Wj,Nat.reduceAdd,Nat.reduceSub,Array.replicate_succ,Array.replicate_zero,List.push_toArray,List.append_toArray,Wh,VS]
 gi_wp2_with fail
 rw[<-hW1];clear hW1;refine⟨trivial,fun _=>by omega,(callsIn_wide.2 (Ci D sn Xw us.length WH W1)).mono ?_⟩;rintro e W2 ⟨rfl,hW2⟩;have hB2:ae W1 W2:=by rw[hW2];exact(((Vb _ _).alloc (Va _) _).alloc (by simp) _).alloc (by simp;omega) _
 have s2:W2.heap.size=W.heap.size+1+1+1+1:=by rw[hW2,World.size_alloc,World.size_alloc,World.size_alloc,s1]
 have NB:NBx W2 W.heap.size l D sn (.slice Xw us.length WH):=by
  obtain⟨V1,e1⟩:∃V,V=W1.alloc (.cells #[.pointer (some ⟨D,0,none⟩)] 97):=⟨_,rfl⟩;obtain⟨V2,e2⟩:∃V,V=V1.alloc (.cells #[.int .i64 sn] 2):=⟨_,rfl⟩;rw[<-e1,<-e2]at hW2;have t1:V1.heap.size=W.heap.size+1+1:=by rw[e1,World.size_alloc,s1]
  have t2:V2.heap.size=W.heap.size+1+1+1:=by rw[e2,World.size_alloc,t1]
  have f1:ae W1 V1:=by rw[e1];exact(Vb _ _).alloc (Va _) _
  have f2:ae V1 V2:=by rw[e2];exact(Vb _ _).alloc (Va _) _
  have f3:ae V2 W2:=by rw[hW2];exact(Vb _ _).alloc (Va _) _
  have g1:iy V1 (W.heap.size+1) (.pointer (some ⟨D,0,none⟩)) 97:=by rw[e1,<-s1];exact World.alloc_heap_new W1 _
  have g2:iy V2 (W.heap.size+1+1) (.int .i64 sn) 2:=by rw[e2,<-t1];exact World.alloc_heap_new V1 _
  have g3:iy W2 (W.heap.size+1+1+1) (.slice Xw us.length WH) 49:=by rw[hW2,<-t2];exact World.alloc_heap_new V2 _
  exact⟨((y1.bel f1).bel f2).bel f3,(g1.bel f2).bel f3,g2.bel f3,g3⟩
 have hB02:ae W W2:=hB1.trans (hB2.mono hB1.size);have J2:=nM hJ h0 hB02;rw[s1];clear hW2 y1 bD bS bU bD1 bS1 bU1 hB1 hB2 lD lS lU;gi_wp2
 refine qV (α:=Fc) rfl (by omega) (gf:=199) (lb:=#[.pointer (some ⟨W.heap.size+1,0,none⟩),.pointer (some ⟨W.heap.size+1+1,0,none⟩),.pointer (some ⟨W.heap.size+1+1+1,0,none⟩)]) rfl trivial (enters_of func199 (by kernel_rfl) rfl)
  (QD (n-1) (by omega) D br nr Mr st rs Yp Yc xo (W.heap.size+1) (W.heap.size+1+1) (W.heap.size+1+1+1) sn Xw WH us W2 hs0 hs1 hol ZV hrl (fun o ho=>(hof o ho).1)) (Vb _ _) (fun _=>rfl) (fun h k=>h.trans k) (fun X lx o o' h1 h2=>KpI.put h1 h2)
  (fun pre X=>(∃xs,bZ (fU (ag rs) ts) pre XZ=XZ++xs/\J xs X)/\NBx X W.heap.size l D sn (.slice Xw us.length WH))
  ?own ?tell ⟨⟨[],by rw[V4];rfl,J2⟩,NB⟩
  (fun x a' X=>∃Bx,sV X Bx x/\a'={ tmps:=#[.func (.yield l) #[] #[],.pointer (some ⟨hD,0,none⟩),.pointer (some ⟨hS,0,none⟩),.pointer (some ⟨hU,0,none⟩),.pointer (some ⟨hK,0,none⟩),.pointer (some ⟨W.heap.size,0,none⟩),.pointer (some ⟨Bx,0,none⟩),.pointer (some ⟨D,0,none⟩),.int .i64 sn,.slice Xw us.length WH,.func (.func 199) #[] #[.pointer (some ⟨W.heap.size+1,0,none⟩),.pointer (some ⟨W.heap.size+1+1,0,none⟩),.pointer (some ⟨W.heap.size+1+1+1,0,none⟩)],.agg #[.string x.a,.string x.b,.string x.r,.string x.c,.string x.d],undef,undef,undef,undef,undef,undef,undef,undef,undef,undef,undef,undef,undef,undef,undef,undef],defers:=[] })
  (fun x a' s X Y row hs hg hr=>by obtain⟨Bx,h,e⟩:=hs;exact⟨Bx,Iz (B0:=W2.heap.size) (g:=Bx) (x:=x) () X Y row h hg hr,e⟩) ?assign ?body ?done
 case own =>
  refine OwnFrom.and (fun pre X Y row hs hg hr=>?_) (Sv (by omega));obtain⟨xs,h1,h2⟩:=hs;exact⟨xs,h1,hJ xs X Y row h2 hg fun r e=>⟨by have:=(hr r e).1;have:=hB02.size;omega,(hr r e).2⟩⟩
 case tell =>
  rintro pre X ⟨⟨xs,h1,h2⟩,hb⟩;have hm:=hT _ _ h2;obtain⟨Wv,cap',e,hso⟩:=kV hm.dat.dat.objs;injection e with ea eb ec;exact⟨hm.dat.dat.c2,hm.dat.dat.c4,by rw[ea];exact hso,hm.dat.rel,hb.d.c,hb.s.c,hb.u.c,hm.users⟩
 case assign =>
  rintro l' pre x X K ⟨⟨xs,h1,h2⟩,hb⟩ hKK;unfold Ew;gi_wp2;have hbl:ae X (X.alloc (.cells #[.string x.a,.string x.b,.string x.r,.string x.c,.string x.d] 29)):=(Vb _ _).alloc (Va _) _;exact hKK _ _ ((KeepsOthers.alloc _ _).from _) (KpI.below hbl) ⟨⟨xs,h1,nM hJ h2 hbl⟩,hb.bel hbl⟩ ⟨X.heap.size,World.alloc_heap_new X _,rfl⟩
 case body =>
  rintro l' pre x a' X hl hEx ⟨⟨xs,hrun,hJx⟩,NBX⟩ ⟨Bx,bX,rfl⟩;have hm:=hT _ _ hJx;obtain⟨nK,hmap⟩:=hm.map;obtain⟨c0,c1,c2,c3,c4,cl⟩:=bX.c;have bM:=hm.bM;have lM:=aC bM;obtain⟨hkey,hxf⟩:=IA hof huf hrf hEx
  gi_wp2_with fail
  refine⟨trivial,fun _=>by omega,(QK (rD bK nK (XZ++xs) x X hxf hmap)).mono ?_⟩;rintro e X2 ⟨rfl,hb2⟩;have J2':=nM hJ hJx hb2;have NB2:=NBX.bel hb2;cases hh:bB (XZ++xs) x;case true=>
   have hr2:bZ (fU (ag rs) ts) (pre++[x]) XZ=XZ++xs:=by rw[sJ,hrun,wY (.inl hh)]
   clear c0 c1 c2 c3 c4 cl bM lM hm;gi_wp2;refine⟨trivial,?_⟩;gi_wp2;refine⟨fun f h=>(by cases h),?_⟩;gi_wp2;exact⟨yQ hb2,KpI.below hb2,⟨xs,hr2,J2'⟩,NB2⟩
  have bX2:=bX.bel hb2;have hm2:=hT _ _ J2';obtain⟨nK2,hmap2⟩:=hm2.map;have bM2:=hm2.bM;have bD2:=hm2.bD;obtain⟨d0,d1,d2,d3,d4,dl⟩:=bX2.c;clear c0 c1 c2 c3 c4 cl bM lM hm
  gi_wp2_with fail
  refine⟨trivial,fun _=>by omega,(QK (NK hm2.dat hmap2 hxf hts htl hsh hkey hm2.sch)).mono ?_⟩;rintro e X3 ⟨rfl,hb3⟩;have Z4:ae X X3:=hb2.trans (hb3.mono hb2.size);have J3':=nM hJ J2' hb3;have NB3:=NB2.bel hb3;clear hm2;cases hv:fU (ag rs) ts (XZ++xs) x;case false=>
   have hr2:bZ (fU (ag rs) ts) (pre++[x]) XZ=XZ++xs:=by rw[sJ,hrun,wY (.inr hv)]
   clear d0 d1 d2 d3 d4 dl bM2 bD2;gi_wp2;refine⟨fun f h=>(by cases h),?_⟩;gi_wp2;exact⟨yQ Z4,KpI.below Z4,⟨xs,hr2,J3'⟩,NB3⟩
  have hr2:bZ (fU (ag rs) ts) (pre++[x]) XZ=XZ++(xs++[x]):=by rw[sJ,hrun,Es hh hv,VD]
  obtain⟨fn,tmps,assign,body,hy,hR⟩:=hY xs x X3 J3' ⟨hEx,fun hm=>by rw[bP.2 hm]at hh;cases hh⟩;unfold Ew at hy;obtain⟨f0,f1,f2,f3,f4,fl⟩:=(bX2.bel hb3).c;have yc:=NB3.y.c;have yl:=aC yc;unfold Uf at yc;clear d0 d1 d2 d3 d4 dl bM2 bD2;gi_wp2;refine⟨fun _=>by omega,(Ug hR).mono ?_⟩;rintro e X4 ⟨rfl,hJ4,hK4⟩;have hk24:KpO bK l X X4:=(KpO.below Z4).trans hK4;have NB4:=NB3.kp hK4;clear f0 f1 f2 f3 f4 fl yc yl hy;gi_wp2;exact⟨QL hk24 (by omega) (by omega),hk24.toI,⟨xs++[x],hr2,hJ4⟩,NB4⟩
 case done =>
  rintro Dd ys X hDd hS ⟨⟨xs,h1,h2⟩,-⟩ hKd;rw[hS]at h1;gi_wp2;refine⟨by simp,.inl ⟨_,_,rfl,run_takeDeferred hKd,?_⟩⟩;exact⟨_,results_none rfl _ _ _,⟨_,rfl⟩,xs,h1,hJ.putObj _ h2 (by have:=hB02.size;omega) hKd rfl⟩
end Go.Proofs.YtajkkeikihhejaaGreat
namespace Go.Proofs.YtajkkeikihhejaaGreat
set_option linter.unusedVariables false
set_option maxRecDepth 100000
open ChangeShapes WideShapes ChangeAt RowKit Maps Go.Shelf
open Pl
theorem zi{K:Type}{enc:K->Value}{P:Program}{F:Fence}{nF:Nat}(w:af){ops:Array Oper}{rest:List Oper}{o:Oper}{a:Act}{Q:Exit->Act->World->Prop}[DecidableEq K](hg:o.guard=none)(m x v:Operand)(t:TypeId)(hop:o.op=Op.mapUpdate t m x v)(k e:TypeId)(L:Keyed P k)(hinj:∀x y,enc x=enc y->x=y)(ht:P.underlying t=some (.map k e))(b n:Nat)(M:K->Option Value)
  (hm:a.eval m=.map (some b)) (hV:aM enc P k w b n M) (hn:n<maxLen) (y:K) (kl:Lit) (hx:a.eval x=enc y) (hkey:keyOf P k (enc y)=some kl) (u:Value) (hv:a.eval v=u)
  (hK:∀w',aM enc P k w' b (n+1) (lX M y (some u))->w.grownBy w' (some b)->wpListIn F nF P ops Q rest (a.put o.dst undef) w'):wpListIn F nF P ops Q (o::rest) a w:=by
 refine wpListIn_plain hg fun K' hK'=>?_;obtain⟨w',hrun,r1,r2⟩:=hV.store L hinj ht hn hkey u;unfold Oper.wpIn;refine⟨by simp[Oper.about,hop],?_⟩;rw[Oper.semAt_plain F _ _ (by rw[hop];intro c hc';cases hc')];simp[execOp,hop,hm,hx,hv,hrun,Result.andThen];exact hK' _ _ (hK w' r1 r2)
theorem FU[DecidableEq Fc](out:Q04)(f:Fc):lX (uK out) f (some (.agg #[]))=uK (out++[f]):=by
 funext y
 by_cases e:y=f
 ·subst e;rw[ed];unfold uK;rw[if_pos (bP.2 (by simp))]
 rw[dm e];unfold uK;have:bB (out++[f]) y=bB out y:=by
  rw[Vu,bP,bP];simp[e]
 rw[this]
def marks(rl:List Nat):List Deferred:=rl.map fun r=>{ target:=.collected r,args:=#[] }
def ji(W:World)(rl:List Nat):Prop:=rl.Nodup/\∀r∈rl,W.heap[r]?=some (.deferred (some []))
theorem ji.kp{b l:Nat}{W W':af}{rl:List Nat}(h:ji W rl)(hk:KpO b l W W')(hl:l ∉ rl)(hb:b ∉ rl):ji W' rl :=
 ⟨h.1,fun r hr=>hk.other r _ (h.2 r hr) rfl (fun e=>hl (e ▸ hr)) (fun e=>hb (e ▸ hr))⟩
theorem ji.bel{W W':af}{rl:List Nat}(h:ji W rl)(hb:ae W W'):ji W' rl :=
 ⟨h.1,fun r hr=>(hb.block r (Vi.1 (h.2 r hr)).1).trans (h.2 r hr)⟩
theorem ji.lt{W:af}{rl:List Nat}(h:ji W rl){r:Nat}(hr:r∈rl):r<W.heap.size:=(Vi.1 (h.2 r hr)).1
theorem xg{n:Nat}{P:Program}{fn:Func}{tmps:Array Value}{R:Ending->World->Prop}(B:Nat)(Inv:World->Prop)(hinv:∀W r,B<r->Inv W->W.heap[r]?=some (.deferred (some []))->Inv (W.putObj r (.deferred none)))(hend:∀W,Inv W->LeavesIn Fence.wide n P fn tmps R [] .returning W):∀(rl:List Nat) (W:af),ji W rl->(∀r∈rl,B<r)->Inv W->LeavesInM Fence.wide n P fn tmps R (marks rl) .returning W
 | [],W,_,_,hI=>hend W hI
 | r::rl,W,hm,hB,hI=>by
  have hr:=hm.2 r (by simp);obtain⟨h1,h2⟩:=List.nodup_cons.1 hm.1;refine⟨by simp,.inl ⟨r,_,rfl,run_takeDeferred hr,xg B Inv hinv hend rl _ ⟨h2,fun q hq=>?_⟩ (fun q hq=>hB q (by simp[hq])) (hinv W r (hB r (by simp)) hI hr)⟩⟩;have hne:q≠r:=fun e=>h1 (e ▸ hq);rw[oI hne];exact hm.2 q (by simp[hq])
theorem Lv{b l:Nat}{W W':af}{base size n:Nat}{T:TypeId}{v:Value}{xs:Q03}(h:W.ownsRow base T size v n xs)(hk:KpO b l W W')(h1:T≠29)(h2:T≠40):W'.ownsRow base T size v n xs :=
 eB h fun g hg=>by
  obtain⟨cur,e⟩:=jS h hg;rw[hk.cells g _ _ _ e h1 h2,e]
structure FBx(W:World)(B D:Nat)(sn:Int)(vU:Value)(bK:Nat):Prop where
 d:iy W B (.pointer (some ⟨D,0,none⟩)) 97
 s:iy W (B+1) (.int .i64 sn) 2
 u:iy W (B+1+1) vU 49
 k:iy W (B+1+1+1) (.map (some bK)) 107
theorem FBx.kp{b l0:Nat}{W W':af}{B D:Nat}{sn:Int}{vU:Value}{bK:Nat}(h:FBx W B D sn vU bK)(hk:KpO b l0 W W'):FBx W' B D sn vU bK :=
 ⟨h.d.kp hk (by decide) (by decide),h.s.kp hk (by decide) (by decide),h.u.kp hk (by decide) (by decide),h.k.kp hk (by decide) (by decide)⟩
theorem Sw(w:af)(D:Nat)(sn:Int)(vU:Value)(bK:Nat){W:af}(hW:W=(((w.alloc (.cells #[.pointer (some ⟨D,0,none⟩)] 97)).alloc (.cells #[.int .i64 sn] 2)).alloc (.cells #[vU] 49)).alloc (.cells #[.map (some bK)] 107)):FBx W w.heap.size D sn vU bK/\ae w W/\W.heap.size=w.heap.size+1+1+1+1:=by
 obtain⟨V1,e1⟩:∃V,V=w.alloc (.cells #[.pointer (some ⟨D,0,none⟩)] 97):=⟨_,rfl⟩;obtain⟨V2,e2⟩:∃V,V=V1.alloc (.cells #[.int .i64 sn] 2):=⟨_,rfl⟩;obtain⟨V3,e3⟩:∃V,V=V2.alloc (.cells #[vU] 49):=⟨_,rfl⟩;rw[<-e1,<-e2,<-e3]at hW;have t1:V1.heap.size=w.heap.size+1:=by rw[e1,World.size_alloc]
 have t2:V2.heap.size=w.heap.size+1+1:=by rw[e2,World.size_alloc,t1]
 have t3:V3.heap.size=w.heap.size+1+1+1:=by rw[e3,World.size_alloc,t2]
 have f1:ae w V1:=by rw[e1];exact(Vb _ _).alloc (Va _) _
 have f2:ae V1 V2:=by rw[e2];exact(Vb _ _).alloc (Va _) _
 have f3:ae V2 V3:=by rw[e3];exact(Vb _ _).alloc (Va _) _
 have f4:ae V3 W:=by rw[hW];exact(Vb _ _).alloc (Va _) _
 have g1:iy V1 w.heap.size (.pointer (some ⟨D,0,none⟩)) 97:=by rw[e1];exact World.alloc_heap_new w _
 have g2:iy V2 (w.heap.size+1) (.int .i64 sn) 2:=by rw[e2,<-t1];exact World.alloc_heap_new V1 _
 have g3:iy V3 (w.heap.size+1+1) vU 49:=by rw[e3,<-t2];exact World.alloc_heap_new V2 _
 have g4:iy W (w.heap.size+1+1+1) (.map (some bK)) 107:=by rw[hW,<-t3];exact World.alloc_heap_new V3 _
 have f12:=f1.trans (f2.mono f1.size);have f13:=f12.trans (f3.mono f12.size);exact⟨⟨((g1.bel f2).bel f3).bel f4,(g2.bel f3).bel f4,g3.bel f4,g4⟩,f13.trans (f4.mono f13.size),by rw[hW,World.size_alloc,t3]⟩
theorem Sy{β:Type}{b l:Nat}{X:af}:OwnFrom X.heap.size (fun(_:β) Y=>KpO b l X Y):=fun s Y Z row hs hg hr=>by
 have key:∀ (g:Nat) (o:Obj),X.heap[g]?=some o->Y.heap[g]?=some o->Z.heap[g]?=some o:=fun g o h1 h2=>(hg.block g (Vi.1 h2).1 fun e=>by
  have h3:=(hr g e.symm).1;have h4:=(Vi.1 h1).1;omega).trans h2
 exact⟨Vj hs.size hg.size,fun g cs T m h h1 h2=>key g _ h (hs.cells g cs T m h h1 h2),fun g o h hc n1 n2=>key g _ h (hs.other g o h hc n1 n2)⟩
structure FoW(w X:World)(v:Value)(out:Q04):Prop where
 bel:ae w X
 box:iy X w.heap.size v 40
 row:X.ownsRow (w.heap.size+1) 29 5 v out.length (av out)
 map:aM jf prog 29 X (w.heap.size+1) out.length (uK out)
theorem FoW.below{w X X':af}{v:Value}{out:Q04}(h:FoW w X v out)(hb:ae X X'):FoW w X' v out :=
 ⟨h.bel.trans (hb.mono h.bel.size),h.box.bel hb,bu h.row hb,h.map.below hb⟩
theorem FoW.kept{w X X':af}{v:Value}{out:Q04}(h:FoW w X v out){row:Option Nat}(hg:X.grownBy X' row)(hr:∀r,row=some r->w.heap.size+1<r/\(∃o,X.heap[r]?=some o/\o.isCells=false)):FoW w X' v out where
 bel:=h.bel.grown hg h.bel.size (fun g e=>by have:=(hr g e).1;omega)
 box:=(hg.block _ (Vi.1 h.box).1 fun e=>by have:=(hr _ e.symm).1;omega).trans h.box
 row:=eB h.row fun g hg2=>hg.block g (h.row.lt g hg2).2 fun e=>by
  obtain⟨-,o,ho,hc⟩:=hr g e.symm;obtain⟨cur,e2⟩:=jS h.row hg2;rw[e2]at ho;cases ho;cases hc
 map:=h.map.kept hg (fun e=>by have:=(hr _ e.symm).1;omega)
theorem FoW.step{w X Y V:af}{v v':Value}{out:Q04}{f:Fc}[DecidableEq Fc](h:FoW w X v out)(hM:aM jf prog 29 Y (w.heap.size+1) (out.length+1) (lX (uK out) f (some (.agg #[]))))(hg1:X.grownBy Y (some (w.heap.size+1)))
  {Y':World} (hY':ae Y Y') (hown:V.ownsRow (w.heap.size+1) 29 5 v' (out.length+1) (av out++f.row)) (hg2:Y'.grownBy V v.ownBlock) (hat:v'.ownBlock=v.ownBlock\/v'.ownBlock=some Y'.heap.size) (l:Nat) :
  FoW w (V.setCell ⟨w.heap.size,0,none⟩ v') v' (out++[f])/\KpO (w.heap.size+1) l X (V.setCell ⟨w.heap.size,0,none⟩ v')/\KeepsFrom (w.heap.size+1+1) X (V.setCell ⟨w.heap.size,0,none⟩ v'):=by
 obtain⟨es,c,hmb⟩:=pR h.map;have hlB:w.heap.size<X.heap.size:=(Vi.1 h.box).1;have hvB:v.ownBlock≠some w.heap.size:=fun e=>by have:=(h.row.lt _ e).1;omega
 have hvM:v.ownBlock≠some (w.heap.size+1):=fun e=>Fw h.row e hmb;have key:∀(g:Nat) (o:Obj),X.heap[g]?=some o->g≠w.heap.size+1->g≠w.heap.size->v.ownBlock≠some g->(V.setCell ⟨w.heap.size,0,none⟩ v').heap[g]?=some o:=fun g o hg n1 n2 n3=>by
  have hl:=(Vi.1 hg).1;have y1:Y.heap[g]?=some o:=(hg1.block g hl (fun e=>n1 (by injection e))).trans hg;have hl1:=(Vi.1 y1).1;have y2:Y'.heap[g]?=some o:=(hY'.block g hl1).trans y1;have hl2:=(Vi.1 y2).1;have y3:V.heap[g]?=some o:=(hg2.block g hl2 (fun e=>n3 e.symm)).trans y2;exact(heap_setCell_other V ⟨w.heap.size,0,none⟩ g v' n2).trans y3
 have hVB:V.heap[w.heap.size]?=some (.cells #[v] 40 (0,0)):=by
  have y1:Y.heap[w.heap.size]?=_:=(hg1.block _ hlB (fun e=>by injection e with e;omega)).trans h.box;have y2:Y'.heap[w.heap.size]?=_:=(hY'.block _ (Vi.1 y1).1).trans y1;exact(hg2.block _ (Vi.1 y2).1 (fun e=>hvB e.symm)).trans y2
 have b1:ae w Y:=h.bel.grown hg1 h.bel.size (fun g e=>by injection e with e;omega);have b2:ae w Y':=b1.trans (hY'.mono b1.size);have b3:ae w V:=b2.grown hg2 b2.size (fun g e=>by have:=(h.row.lt g e).1;omega);have sz:X.heap.size<=(V.setCell ⟨w.heap.size,0,none⟩ v').heap.size:=by
  have e1:=hg1.size;have e2:=hY'.size;have e3:=hg2.size;simp;omega
 refine⟨⟨b3.setCell (Va _) _,?_,?_,?_⟩,⟨sz,fun g cs T m hg h1 h2=>?_,fun g o hg hc n1 n2=>?_⟩,⟨sz,fun g o hB hg hc=>?_⟩⟩
 ·have:=heap_setCell_same V w.heap.size 0 #[v] _ v' hVB;unfold iy;simpa using this
 ·rw[kC,Vh];exact eB hown fun g hg=>heap_setCell_other V ⟨w.heap.size,0,none⟩ g v' (fun(e:g=w.heap.size)=>by have:=(hown.lt g hg).1;omega)
 ·rw[Vh,<-FU];exact((hM.below hY').kept hg2 (fun e=>hvM e.symm)).setCell (by show w.heap.size+1≠w.heap.size;omega) _
 ·refine key g _ hg (fun e=>?_) (fun e=>?_) (fun e=>?_)
  ·rw[e,hmb]at hg;cases hg
  ·rw[e,h.box]at hg;injection hg with hg;injection hg with _ hT;exact h2 hT.symm
  obtain⟨cur,e2⟩:=jS h.row e;rw[e2]at hg;injection hg with hg;injection hg with _ hT;exact h1 hT.symm
 ·refine key g _ hg n2 (fun e=>?_) (fun e=>?_)
  ·rw[e,h.box]at hg;injection hg with hg;subst hg;cases hc
  obtain⟨cur,e2⟩:=jS h.row e;rw[e2]at hg;injection hg with hg;subst hg;cases hc
 refine key g _ hg (by omega) (by omega) (fun e=>?_);obtain⟨cur,e2⟩:=jS h.row e;rw[e2]at hg;injection hg with hg;subst hg;cases hc
theorem kw.dropF{w:af}{ad:Q02}{fs:Q04}(h:kw w ad fs)(k:Nat):kw w (Option.map (fun x=>Addr.add x (k*5)) ad) (fs.drop k):=by
 rcases h with h|⟨b,off,e,hb,hr⟩
 ·exact .inl (by rw[h];simp)
 have ea:Option.map (fun x=>Addr.add x (k*5)) ad=some ⟨b,off+k*5,none⟩:=by
  rw[e];simp[Addr.add]
 refine .inr ⟨b,off+k*5,ea,hb,fun i hi=>?_⟩;have hi2:k+i<fs.length:=by rw[Wd]at hi;omega
 have h1:=hr (k+i) hi2;have e2:(fs.drop k)[i]=fs[k+i]:=by simp
 rw[e2];have e3:off+k*5+i*5=off+(k+i)*5:=by omega
 rw[e3];exact h1
theorem Lx{w:af}{base size n cap:Nat}{T:TypeId}{ad:Q02}{xs:Q03}(h:w.ownsRow base T size (.slice ad n cap) n xs):n<=cap:=by
 rcases h.2 with⟨e,h0⟩|⟨g,cap',cur,e,h1,h2,h3,h4,h5,-⟩
 ·omega
 injection e with _ _ e3;omega
theorem QM{Y Y1 Y2 V:af}{B:Nat}{v:Value}{T:TypeId}(h:iy Y B v T)(hg1:Y.grownBy Y1 (some (B+1)))(hY2:ae Y1 Y2)(hg2:Y2.grownBy V v.ownBlock)(hv:v.ownBlock≠some B):iy V B v T:=by
 have y1:Y1.heap[B]?=_:=(hg1.block _ (Vi.1 h).1 (fun e=>by injection e with e;omega)).trans h;have y2:Y2.heap[B]?=_:=(hY2.block _ (Vi.1 y1).1).trans y1;exact(hg2.block _ (Vi.1 y2).1 (fun e=>hv e.symm)).trans y2
theorem QN{B B':Nat}{W W':af}(h:KeepsFrom B W W')(hB:B<=B'):KeepsFrom B' W W':=⟨h.size,fun k o hk h1 h2=>h.same k o (Vj hB hk) h1 h2⟩
theorem KpO.after{b l l':Nat}{X Y Z:af}(h:KpO b l X Y)(k:KpO b l' Y Z)(hl:X.heap.size<=l'):KpO b l X Z :=
 ⟨Vj h.size k.size,fun g cs T m hg h1 h2=>k.cells g cs T m (h.cells g cs T m hg h1 h2) h1 h2,fun g o hg hc h1 h2=>k.other g o (h.other g o hg hc h1 h2) hc (fun e=>by have:=(Vi.1 hg).1;omega) h2⟩
end Go.Proofs.YtajkkeikihhejaaGreat
namespace Go.Proofs.YtajkkeikihhejaaGreat
set_option linter.unusedVariables false
set_option maxRecDepth 100000
open ChangeShapes WideShapes ChangeAt RowKit Maps Go.Shelf
open Pl
attribute [local go_sem] Oper.semAt_some
def FV(X:World)(B:Nat):Nat:=match X.cell? ⟨B,0,none⟩ with
 | some x=>TS x
 | none=>0
theorem FW{X:af}{B n c:Nat}{ad:Q02}{T:TypeId}(h:iy X B (.slice ad n c) T):FV X B=n:=by
 unfold FV;rw[h.c];rfl
section
variable  [DecidableEq Fc]
theorem Ey(w:af)(rs:Q06)(Xk:Q02)(D br bp bt:Nat)(N:Nat)(nr:Nat)(Mr:KL->Option Value)(st:Q00)(ts:Q05)(xo xu:Q0a)(np:Nat)(Mp:K3->Option Value)(vo vu:Value)(hD:DatA w rs D br bp bt (N:Int) nr Mr (dH st rs) (bn ts) xo xu np Mp vo vu)(hs:j5 w Xk rs)(hN:N<=1000)(hol:xo.length<=80)(ZV:xu.length<=40)(hE:(au (ag rs)).length<=36)(hrl:∀k,(G.lookL (dH st rs) k).length<=1000)(hsh:bq (ag rs)=true)(hts:∀t∈ts,t.fits)(htl:ts.length<=1000)(hof:∀o∈xo,o.t.size<=maxLen/\o.s.size<=maxLen)(huf:∀o∈xu,o.t.size<=maxLen/\o.s.size<=maxLen)(hrf:∀k∈au (ag rs),k.2.size<=maxLen):
  Calls prog 59 #[.pointer (some ⟨D,0,none⟩)] w fun e w'=>(∃v,e=.returned v/\w'.ownsRow w.heap.size 29 5 v (lY (ag rs) ts st xo xu N).length (av (lY (ag rs) ts st xo xu N)))/\ae w w':=by
 obtain⟨iF,z0,z1,z2,z3⟩:=pQ;obtain⟨W0,hW0⟩:∃W0,W0=((w.alloc (.cells #[.slice none 0 0] 40)).alloc (.map #[] 0)).alloc (.cells #[.map (some (w.heap.size+1))] 107):=⟨_,rfl⟩;obtain⟨Yp,Yc,rfl,-⟩:=kV hD.dat.objs;have hlD:=hD.dat.lt;have d1:=hD.dat.c1;have h00:FoW w W0 (.slice none 0 0) []/\iy W0 (w.heap.size+1+1) (.map (some (w.heap.size+1))) 107:=by
  obtain⟨V1,e1⟩:∃V,V=w.alloc (.cells #[.slice none 0 0] 40):=⟨_,rfl⟩;obtain⟨V2,e2⟩:∃V,V=V1.alloc (.map #[] 0):=⟨_,rfl⟩;rw[<-e1,<-e2]at hW0;have t1:V1.heap.size=w.heap.size+1:=by rw[e1,World.size_alloc]
  have t2:V2.heap.size=w.heap.size+1+1:=by rw[e2,World.size_alloc,t1]
  have f1:ae w V1:=by rw[e1];exact(Vb _ _).alloc (Va _) _
  have f2:ae V1 V2:=by rw[e2];exact(Vb _ _).alloc (Va _) _
  have f3:ae V2 W0:=by rw[hW0];exact(Vb _ _).alloc (Va _) _
  have f12:ae w V2:=f1.trans (f2.mono f1.size);have g1:iy V1 w.heap.size (.slice none 0 0) 40:=by rw[e1];exact World.alloc_heap_new w _
  have g2:aM jf prog 29 V2 (w.heap.size+1) 0 (fun _=>none):=by
   have:=kr jf prog 29 V1;rw[<-e2,t1]at this;exact this
  have g3:iy W0 (w.heap.size+1+1) (.map (some (w.heap.size+1))) 107:=by rw[hW0,<-t2];exact World.alloc_heap_new V2 _
  have ek:uK []=fun _=>none:=rfl;exact⟨⟨f12.trans (f3.mono f12.size),(g1.bel f2).bel f3,World.ownsRow_nil _ _ _ _,by rw[ek];exact g2.below f3⟩,g3⟩
 have hmm:=@run_makeMap prog;have hl1:D<w.heap.size+1:=by omega
 have hl2:D<w.heap.size+1+1:=by omega
 refine(callsIn_wide (n:=12)).1 ?_;refine callsIn_of_wp_marks func59 rfl trivial ?_ rfl;simp only[ntmps59,List.size_toArray,VI,Wj,Nat.reduceAdd,Nat.reduceSub,Array.replicate_succ,Array.replicate_zero,List.push_toArray,List.append_toArray,Wh,VS];gi_wp2;rw[<-hW0];clear hW0 hmm;obtain⟨H,hH⟩:∃H,H=fU (ag rs) ts:=⟨_,rfl⟩;obtain⟨A,hA⟩:∃A:Nat->List Fc,A=lY (ag rs) ts st xo xu:=⟨_,rfl⟩;obtain⟨Q,hQ⟩:∃Q:Nat->List Fc,Q=fun(n:Nat)=>cZ (ag rs) st xo xu (n:Int):=⟨_,rfl⟩;have hA1:∀n,A (n+1)=kU H (Q n) (A n):=fun n=>by rw[hA,hH,hQ];exact jy _ _ _ _ _ _
 have hAG:∀n,GoodO (ag rs) xo xu (A n):=fun n=>by rw[hA];exact kZ _ _ _ _ _ n
 have hA0:A 0=[]:=by rw[hA];rfl
 have hAN:lY (ag rs) ts st xo xu N=A N:=by rw[hA]
 refine wpIn_loop (fun a' X=>∃(q:Nat) (rl:List Nat) (v:Value) (u5 u6 u7 u8 u15 u16 u17 u18 u19 u20 u21 u22 u23 u24 u25 u26 u27 u28 u29 u30 u31 u32 u33 u34 u35 u36 u37 u38 u39 u40 u41 u42 u43 u44:Value),a'={ tmps:=List.toArray (.pointer (some ⟨D,0,none⟩)::undef::.slice none 0 0::.pointer (some ⟨w.heap.size,0,none⟩)::.pointer (some ⟨w.heap.size+1+1,0,none⟩)::u5::u6::u7::u8::.map (some (w.heap.size+1))::.pointer (some ⟨D,0,none⟩)::.pointer (some ⟨D,0,none⟩)::.pointer (some ⟨D,1,none⟩)::.int .i64 (N:Int)::.int .i64 (q:Int)::u15::u16::u17::u18::u19::u20::u21::u22::u23::u24::u25::u26::u27::u28::u29::u30::u31::u32::u33::u34::u35::u36::u37::u38::u39::u40::u41::u42::u43::u44::undef::[]),defers:=marks rl }/\q<=N/\FoW w X v (A q)/\iy X (w.heap.size+1+1) (.map (some (w.heap.size+1))) 107/\ji X rl/\(∀r∈rl,w.heap.size+1+1<r)) (fun a' _=>N-(intOf (a'.tmps.getD 14 undef)).toNat) ⟨0,[],.slice none 0 0,_,_,_,_,_,_,_,_,_,_,_,_,_,_,_,_,_,_,_,_,_,_,_,_,_,_,_,_,_,_,_,_,_,_,rfl,Vf _,by rw[hA0];exact h00.1,h00.2,⟨List.nodup_nil,fun r hr=>by cases hr⟩,fun r hr=>by cases hr⟩ ?_;rintro a1 X ⟨q,rl,v,u5,u6,u7,u8,u15,u16,u17,u18,u19,u20,u21,u22,u23,u24,u25,u26,u27,u28,u29,u30,u31,u32,u33,u34,u35,u36,u37,u38,u39,u40,u41,u42,u43,u44,rfl,hq,hF,hB,hMk,hMn⟩;clear h00;by_cases hlq:q<N
 ·have hDX:=hD.below hF.bel;have d5:=hDX.dat.c5;have d5l:=hDX.dat.lt;obtain⟨adV,Yu,rfl,-⟩:=kV hDX.dat.users;gi_wp2;refine wpIn_loop (fun a' X=>∃(us:Q0a) (Xw:Q02) (WH:Nat) (out:Q04) (rl:List Nat) (v:Value) (base:Nat) (u7 u8 u21 u22 u23 u24 u25 u26 u27 u28 u29 u30 u31 u32 u33 u34 u35 u36 u37 u38 u39 u40 u41 u42 u43 u44:Value),a'={ tmps:=List.toArray (.pointer (some ⟨D,0,none⟩)::undef::.slice none 0 0::.pointer (some ⟨w.heap.size,0,none⟩)::.pointer (some ⟨w.heap.size+1+1,0,none⟩)::.int .i64 (q:Int)::.slice Xw us.length WH::u7::u8::.map (some (w.heap.size+1))::.pointer (some ⟨D,0,none⟩)::.pointer (some ⟨D,0,none⟩)::.pointer (some ⟨D,1,none⟩)::.int .i64 (N:Int)::.int .i64 (q:Int)::.bool true::.int .i64 (q:Int)::.pointer (some ⟨D,0,none⟩)::.pointer (some ⟨D,0,none⟩)::.pointer (some ⟨D,5,none⟩)::.slice adV xu.length Yu::u21::u22::u23::u24::u25::u26::u27::u28::u29::u30::u31::u32::u33::u34::u35::u36::u37::u38::u39::u40::u41::u42::u43::u44::undef::[]),defers:=marks rl }/\FewA (ag rs) ts st xo xu (q:Int) us out/\kU H (Q q) out=A (q+1)/\GoodO (ag rs) xo xu out/\FoW w X v out/\iy X (w.heap.size+1+1) (.map (some (w.heap.size+1))) 107/\ji X rl/\(∀r∈rl,w.heap.size+1+1<r)/\X.ownsRow base 27 2 (.slice Xw us.length WH) us.length (pairs us)/\us.length<=40/\∀o∈us,o.t.size<=maxLen/\o.s.size<=maxLen) (fun a' Y=>2*(200000-FV Y w.heap.size)+min 1 (TS (a'.tmps.getD 6 undef))) ⟨xu,adV,Yu,A q,rl,v,bp+1,_,_,_,_,_,_,_,_,_,_,_,_,_,_,_,_,_,_,_,_,_,_,_,_,_,_,rfl,FewA.start _,(hA1 q).symm,hAG q,hF,hB,hMk,hMn,hDX.dat.users,ZV,huf⟩ ?_;clear hDX d5 d5l hF hB hMk hMn;rintro a2 X2 ⟨us,Xw,WH,out,rl2,v2,base,u7,u8,u21,u22,u23,u24,u25,u26,u27,u28,u29,u30,u31,u32,u33,u34,u35,u36,u37,u38,u39,u40,u41,u42,u43,u44,rfl,hFew,hLim,hG,hF2,hB2,hMk2,hMn2,hU,hul2,huf2⟩;obtain⟨Xq,WC,rfl,-⟩:=gI hF2.row;have hmu:=FW hF2.box;have hout:=hG.len hol hE ZV;by_cases hne:us=[]
  ·subst hne;have hAq:A (q+1)=out:=by rw[<-hLim,hH,hQ];exact hFew.done
   have hF3:FoW w X2 (.slice Xq out.length WC) (A (q+1)):=by rw[hAq];exact hF2
   gi_wp2;exact⟨⟨q+1,rl2,_,_,_,_,_,_,_,_,_,_,_,_,_,_,_,_,_,_,_,_,_,_,_,_,_,_,_,_,_,_,_,_,_,_,_,rfl,by omega,hF3,hB2,hMk2,hMn2⟩,by simp[intOf];omega⟩
  have hpos:0<us.length:=by cases us with|nil=>exact absurd rfl hne|cons a l=>simp
  have hposI:(0:Int)<(us.length:Int):=by omega
  have bc:=hF2.box.c;have kc:=hB2.c
  gi_wp2_with fail
  refine⟨trivial,(callsIn_wide.2 (FT D (q:Int) Xw us.length WH (w.heap.size+1) X2)).mono ?_⟩;rintro e X3 ⟨rfl,hX3⟩;obtain⟨hBX,Z4,hs3⟩:=Sw X2 D (q:Int) (.slice Xw us.length WH) (w.heap.size+1) hX3;have hF3:=hF2.below Z4;have hU3:=bu hU Z4;have hB3:=hB2.bel Z4;have hMk3:=hMk2.bel Z4;have hsB:w.heap.size+1+1<X2.heap.size:=(Vi.1 hB2).1;clear hX3 bc kc;gi_wp2
  refine qV (α:=Fc) rfl (by omega) (gf:=144) (lb:=#[.pointer (some ⟨X2.heap.size,0,none⟩),.pointer (some ⟨X2.heap.size+1,0,none⟩),.pointer (some ⟨X2.heap.size+1+1,0,none⟩),.pointer (some ⟨X2.heap.size+1+1+1,0,none⟩)]) rfl trivial (enters_of func144 (by kernel_rfl) rfl)
   (NL 11 (by omega) rs Xk D br bp bt (N:Int) nr Mr st ts Yp Yc xo xu np Mp (.slice adV xu.length Yu) (w.heap.size+1) out X2.heap.size (X2.heap.size+1) (X2.heap.size+1+1) (X2.heap.size+1+1+1) (q:Int) Xw WH us X3 (by omega) (by omega) (by omega) (by omega) hrl hsh hts htl hof huf2 hrf) (Vb _ _) (fun _=>rfl) (fun h k=>h.trans k) (fun Y lx o o' h1 h2=>KpO.put h1 h2)
   (fun pre Y=>∃v',FoW w Y v' (out++pre)/\KpO (w.heap.size+1) X3.heap.size X3 Y/\GoodO (ag rs) xo xu (out++pre))
   ?own ?tell ⟨_,by rw[V4];exact hF3,KpO.below (Vb _ _),by rw[V4];exact hG⟩
   (fun x a' Y=>∃Bx,sV Y Bx x/\a'={ tmps:=List.toArray (.pointer (some ⟨D,0,none⟩)::undef::.slice none 0 0::.pointer (some ⟨w.heap.size,0,none⟩)::.pointer (some ⟨w.heap.size+1+1,0,none⟩)::.int .i64 (q:Int)::.slice Xw us.length WH::.int .i64 (out.length:Int)::.pointer (some ⟨Bx,0,none⟩)::.map (some (w.heap.size+1))::.pointer (some ⟨D,0,none⟩)::.pointer (some ⟨D,0,none⟩)::.pointer (some ⟨D,1,none⟩)::.int .i64 (N:Int)::.int .i64 (q:Int)::.bool true::.int .i64 (q:Int)::.pointer (some ⟨D,0,none⟩)::.pointer (some ⟨D,0,none⟩)::.pointer (some ⟨D,5,none⟩)::.slice adV xu.length Yu::.slice Xw us.length WH::.int .i64 (us.length:Int)::.bool true::.slice Xq out.length WC::.int .i64 (out.length:Int)::.pointer (some ⟨D,0,none⟩)::.int .i64 (q:Int)::.slice Xw us.length WH::.map (some (w.heap.size+1))::.func (.func 144) #[] #[.pointer (some ⟨X2.heap.size,0,none⟩),.pointer (some ⟨X2.heap.size+1,0,none⟩),.pointer (some ⟨X2.heap.size+1+1,0,none⟩),.pointer (some ⟨X2.heap.size+1+1+1,0,none⟩)]::.agg #[.string x.a,.string x.b,.string x.r,.string x.c,.string x.d]::u32::u33::u34::u35::u36::u37::u38::u39::u40::u41::u42::u43::u44::undef::[]),defers:=[] })
   (fun x a' s Y Z row hs hg hr=>by obtain⟨Bx,h,e⟩:=hs;exact⟨Bx,Iz (B0:=X3.heap.size) (g:=Bx) (x:=x) () Y Z row h hg hr,e⟩) ?assign ?body ?done
  case own =>
   intro pre Y Z row hs hg hr;obtain⟨v',h1,h2,h3⟩:=hs;exact⟨v',h1.kept hg fun r e=>⟨by have:=(hr r e).1;omega,(hr r e).2⟩,Sy (β:=Unit) () Y Z row h2 hg hr,h3⟩
  case tell =>
   rintro pre Y ⟨v',h1,h2,h3⟩;have hb:=hBX.kp h2;obtain⟨ad2,cap2,e,hsa⟩:=kV (Lv hU3 h2 (by decide) (by decide));injection e with ea eb ec;exact⟨hD.below h1.bel,hs.below h1.bel,⟨_,h1.map⟩,hb.d.c,hb.s.c,hb.u.c,hb.k.c,by rw[ea];exact hsa⟩
  case assign =>
   rintro l' pre x Y K ⟨v',h1,h2,h3⟩ hKK;unfold Ew;gi_wp2;have hbl:ae Y (Y.alloc (.cells #[.string x.a,.string x.b,.string x.r,.string x.c,.string x.d] 29)):=(Vb _ _).alloc (Va _) _;exact hKK _ _ ((KeepsOthers.alloc _ _).from _) (KpO.below hbl) ⟨v',h1.below hbl,h2.trans (KpO.below hbl),h3⟩ ⟨Y.heap.size,World.alloc_heap_new Y _,rfl⟩
  case body =>
   rintro l' pre x a' Y hl ⟨hEx,hnew⟩ ⟨v',hFY,hKY,hGY⟩ ⟨Bx,bX,rfl⟩;obtain⟨hkey,hxf⟩:=IA hof huf2 hrf hEx;obtain⟨kl,hkl⟩:=vW x hxf;obtain⟨c0,c1,c2,c3,c4,cl⟩:=bX.c;have hGX:GoodO (ag rs) xo xu (out++(pre++[x])):=by
    refine⟨?_,fun g hg=>?_⟩
    ·rw[<-VD];exact List.nodup_append.2 ⟨hGY.once,by simp,fun a ha b hb e=>by
      rw[Vl]at hb;rw[<-hb,<-e]at hnew;exact hnew ha⟩
    rw[<-VD]at hg;rcases Vn.1 hg with hg|hg
    ·exact hGY.sub g hg
    rw[Vl]at hg;subst hg;unfold cZ vQ at hEx;obtain⟨o,ho,h1⟩:=Vp.1 hEx;obtain⟨k,hk,h1⟩:=Vp.1 h1;obtain⟨u,hu,e⟩:=Vo.1 h1;have hux:u∈xu:=by rw[hFew.sub]at hu;exact(V6.1 hu).1
    exact Vp.2 ⟨o,ho,Vp.2 ⟨k,(V6.1 hk).1,Vo.2 ⟨u,hux,e⟩⟩⟩
   have hlen:=hGX.len hol hE ZV;rw[<-VD,Vh,VL]at hlen;obtain⟨os,hos⟩:∃os,os=out++pre:=⟨_,rfl⟩;rw[<-hos]at hFY hlen;have HOS:=ai hos;clear hos;have kc:=(hB3.kp hKY (by decide) (by decide)).c;have kl2:=aC kc;obtain⟨adY,capY,rfl,-⟩:=gI hFY.row;have hmap:=hFY.map;have bcY:=hFY.box.c;have hbxl:=aC bcY;have hblk:=hFY.box;obtain⟨es,cc,hmb⟩:=pR hFY.map;have hne1:Bx≠w.heap.size+1:=fun e=>by
    have h:=bX;unfold sV at h;rw[e,hmb]at h;cases h
   have hrow:=hFY.row;have hvB:(Value.slice adY os.length capY).ownBlock≠some w.heap.size:=fun e=>by have:=(hrow.lt _ e).1;omega
   have hvM:(Value.slice adY os.length capY).ownBlock≠some (w.heap.size+1):=fun e=>Fw hrow e hmb;have hbYs:=hFY.bel.size
   gi_wp2_with (first
    | (gi_at_mapUpdate;refine zi _ rfl _ _ _ 107 rfl 29 113 E5 AO underlying107 (w.heap.size+1) _ _ rfl hmap (by unfold maxLen;omega) x kl rfl hkl (.agg #[]) rfl ?_;intro Y1 hM1 hg1;have q0:=(kX hg1 ⟨cl,hne1⟩ 0).trans c0;have q1:=(kX hg1 ⟨cl,hne1⟩ 1).trans c1;have q2:=(kX hg1 ⟨cl,hne1⟩ 2).trans c2;have q3:=(kX hg1 ⟨cl,hne1⟩ 3).trans c3;have q4:=(kX hg1 ⟨cl,hne1⟩ 4).trans c4;have qb:=(kX hg1 ⟨hbxl,Nat.ne_of_lt (Nat.lt_succ_self _)⟩ 0).trans bcY;have ql:=aC q0;have qbl:=aC qb;have hrow1:=hrow.kept hg1 (.inr hvM);have hYs1:=hg1.size)
    | (gi_at_builtin;refine wpListIn_append_own_at _ rfl _ _ 40 rfl (w.heap.size+1) 29 iF (.agg #[.string ⟨#[]⟩,.string ⟨#[]⟩,.string ⟨#[]⟩,.string ⟨#[]⟩,.string ⟨#[]⟩]) 5 80 underlying40 z0 z1 z2 z3 rfl (by decide) _ os.length (av os) rfl (hrow1.alloc _) ⟨Y1.heap.size,0,none⟩ 1 1 x.row rfl rfl (wM Y1 x) (by simp[Fc.row,Value.oneCell']) (by unfold maxLen;omega) (by omega) (by simp;omega) ?_;intro v2 V hown hgr _ hat;obtain⟨g2,cap2,rfl⟩:=ownsRow_succ hown;have HAT:=ai hat;clear hat;have hY2:ae Y1 (Y1.alloc (.cells #[.string x.a,.string x.b,.string x.r,.string x.c,.string x.d] 29)):=(Vb _ _).alloc (Va _) _;have hVb:=QM hblk hg1 hY2 hgr hvB;have vc:=hVb.c;have vf:=ic hVb 0;have vl:=aC vc)
    | gi_in)
   obtain⟨r1,r2,r3⟩:=FoW.step hFY hM1 hg1 hY2 hown hgr HAT.out l';have eos:out++(pre++[x])=os++[x]:=by rw[HOS.out,VD]
   exact⟨QN r3 (by omega),r2,_,by rw[eos];exact r1,hKY.after r2 hl,hGX⟩
  case done =>
   rintro Dd xs X5 hDd hS ⟨v5,hF5,hK5,hG5⟩ hKd;have hl5:=hG5.len hol hE ZV;have hlx:(out++xs).length=out.length+xs.length:=Vh;have hxs:(out++xs).drop out.length=xs:=List.drop_left;obtain⟨o5,ho5⟩:∃o5,o5=out++xs:=⟨_,rfl⟩;rw[<-ho5]at hF5 hG5 hl5 hlx hxs;have WF:=ai ho5;have Zz:=ai hxs;have hFew5:=hFew.next (by rw[<-hH]at hS ⊢;exact hS);have hLim5:kU H (Q q) o5=A (q+1):=by
    rw[<-hLim,<-Dv (H:=H) (Q q) out];congr 1;rw[ho5,<-hS,<-hH,hQ,hH];exact hFew.round
   rw[<-ho5]at hFew5;obtain⟨adP,capP,rfl,hsF5⟩:=gI hF5.row;have bc5:=hF5.box.c;have bl5:=aC bc5;have i1:(0:Int)<=(out.length:Int):=by omega
   have i2:(out.length:Int)<=(o5.length:Int):=by omega
   have hcap5:o5.length<=capP:=Lx hF5.row;have hU5:=Lv hU3 hK5 (by decide) (by decide);obtain⟨ad2,cap2,eU,hsU5⟩:=kV hU5;injection eU with ea eb ec;rw[<-ea]at hsU5;have hMk5:ji X5 (Dd::rl2):=by
    have h1:=hMk3.kp hK5 (fun hm=>by have:=hMk3.lt hm;omega) (fun hm=>by have:=hMn2 _ hm;omega);refine⟨List.nodup_cons.2 ⟨fun hm=>by have:=hMk3.lt hm;omega,h1.1⟩,fun r hr=>?_⟩;rcases Vq.1 hr with rfl|hr
    ·exact hKd
    exact h1.2 r hr
   have hMn5:∀r∈Dd::rl2,w.heap.size+1+1<r:=fun r hr=>by
    rcases Vq.1 hr with rfl|hr
    ·omega
    exact hMn2 r hr
   have hkl:(fB us xs).length<=us.length:=Et us xs;have hkz:xs.length=0->(fB us xs).length=0:=fun h=>by rw[Vr.1 h,Kk];rfl
   have hsx:∀ad3,ad3=Option.map (fun x=>Addr.add x (out.length*5)) adP->kw X5 ad3 xs:=fun ad3 e=>by
    rw[e,<-Zz.out];exact kw.dropF hsF5 out.length
   clear ho5 hxs ea eb ec hS
   gi_wp2_with fail
   ·refine⟨trivial,(callsIn_wide.2 (rG Xw WH us adP 0 xs X5 (by omega) (by omega) hsU5 (.inl (Vr.1 (by omega))))).mono ?_⟩;rintro e X6 ⟨⟨v6,rfl,Z7⟩,hb6⟩;have Xd:FV X6 w.heap.size=o5.length:=FW (hF5.below hb6).box;have hF6:=hF5.below hb6;have hB6:=(hB3.kp hK5 (by decide) (by decide)).bel hb6;obtain⟨ad6,cap6,rfl,-⟩:=kV Z7;gi_wp2;exact⟨⟨fB us xs,ad6,cap6,o5,Dd::rl2,_,X5.heap.size,_,_,_,_,_,_,_,_,_,_,_,_,_,_,_,_,_,_,_,_,_,_,_,_,_,_,rfl,hFew5,hLim5,hG5,hF6,hB6,hMk5.bel hb6,hMn5,Z7,by omega,fun o ho=>huf2 o (V6.1 ho).1⟩,by
     show 2*(200000-FV X6 w.heap.size)+min 1 (fB us xs).length<2*(200000-FV X2 w.heap.size)+min 1 us.length;rw[Xd,hmu];omega⟩
   refine⟨trivial,(callsIn_wide.2 (rG Xw WH us _ _ xs X5 (by omega) (by omega) hsU5 (hsx _ rfl))).mono ?_⟩;rintro e X6 ⟨⟨v6,rfl,Z7⟩,hb6⟩;have Xd:FV X6 w.heap.size=o5.length:=FW (hF5.below hb6).box;have hF6:=hF5.below hb6;have hB6:=(hB3.kp hK5 (by decide) (by decide)).bel hb6;obtain⟨ad6,cap6,rfl,-⟩:=kV Z7;gi_wp2;exact⟨⟨fB us xs,ad6,cap6,o5,Dd::rl2,_,X5.heap.size,_,_,_,_,_,_,_,_,_,_,_,_,_,_,_,_,_,_,_,_,_,_,_,_,_,_,rfl,hFew5,hLim5,hG5,hF6,hB6,hMk5.bel hb6,hMn5,Z7,by omega,fun o ho=>huf2 o (V6.1 ho).1⟩,by
    show 2*(200000-FV X6 w.heap.size)+min 1 (fB us xs).length<2*(200000-FV X2 w.heap.size)+min 1 us.length;rw[Xd,hmu];omega⟩
 have hqN:q=N:=by omega
 subst hqN;obtain⟨Xq,WC,rfl,-⟩:=gI hF.row;have bc:=hF.box.c;have hR:X.ownsRow (w.heap.size+1) 29 5 (.slice Xq (A q).length WC) (lY (ag rs) ts st xo xu q).length (av (lY (ag rs) ts st xo xu q)):=by rw[hAN];exact hF.row
 have hBl:=hF.bel;have hsz:w.heap.size<X.heap.size:=aC bc;clear hF hB hD;gi_wp2;refine xg (w.heap.size+1+1) (fun Y=>Y.ownsRow w.heap.size 29 5 (.slice Xq (A q).length WC) (lY (ag rs) ts st xo xu q).length (av (lY (ag rs) ts st xo xu q))/\ae w Y) (fun Y r hr hY hd=>⟨eB hY.1 fun g hg=>oI fun e=>?_,?_⟩) (fun Y hY=>⟨_,results_tmp rfl _ _ _,⟨_,rfl,hY.1⟩,hY.2⟩) rl X hMk hMn ⟨dJ hR (Nat.le_succ _),hBl⟩
 ·obtain⟨cur,e2⟩:=jS hY.1 hg;rw[e,hd]at e2;cases e2
 exact hY.2.grown (grownBy_putObj' Y r _) hY.2.size (fun g e=>by injection e with e;omega)
end
end Go.Proofs.YtajkkeikihhejaaGreat
namespace Go.Proofs.YtajkkeikihhejaaGreat
set_option linter.unusedVariables false
set_option maxRecDepth 100000
open ChangeShapes WideShapes ChangeAt RowKit Maps
open Pl
theorem aP.is{w:af}{S:Nat->Prop}{n:Nat}{v:Value}{G:Ru}(h:aP w S n v G):∃T a,v=.iface T a:=by
 match n,h with
 | 0,h=>exact h.elim
 | n+1,h =>
  rcases h with⟨b,e,-⟩|⟨ad,cap,fs,e,-⟩|⟨ad,cap,Gs,e,-⟩|⟨ad,cap,Gs,e,-⟩<;>exact⟨_,_,e⟩
def QO(P:Nat)(vE:Value)(f:Fc)(w:World)(m:Nat)(i:Int)(G:Ru):Prop:=∀w1:World,ae w w1->Calls prog 109 #[.pointer (some ⟨P,0,none⟩),vE,.int .i64 i,.agg #[.string f.a,.string f.b,.string f.r,.string f.c,.string f.d]] w1 fun e w'=>(∃v,e=.returned v/\aP w' (jT w1.heap.size) m v G)/\ae w1 w'
def Sx(B:Nat)(v:Value)(g:Nat):Prop:=B<=g/\some g≠v.ownBlock
theorem QP:∃i,prog.info? 110=some i/\i.zero=some .nilIface/\i.size=1/\i.bytes=16 :=
 info_parts (P:=prog) (e:=110) (z:=.nilIface) (size:=1) (bytes:=16) (by kernel_rfl)
theorem tT{P:Nat}{vE:Value}{f:Fc}{w:af}(m:Nat)(ks:List Int)(Gk:Int->Ru)(adK:Q02)(capK:Nat)(hkl:ks.length<=5)(hs:sZ w adK ks)(hK:∀i∈ks,QO P vE f w m i (Gk i)):
  Calls prog 166 #[.pointer (some ⟨P,0,none⟩),vE,.slice adK ks.length capK,.agg #[.string f.a,.string f.b,.string f.r,.string f.c,.string f.d]] w fun e w'=>(∃ad cap,e=.returned (.slice ad ks.length cap)/\Cg w' (jT w.heap.size) (aP w' (jT w.heap.size) m) ad (ks.map Gk))/\ae w w':=by
 obtain⟨iR,h0,h1,h2,h3⟩:=QP;have Xb:=ai (And.intro h0 (And.intro h1 (And.intro h2 h3)));obtain⟨W0,hW0⟩:∃W0,W0=w.alloc (.cells #[.string f.a,.string f.b,.string f.r,.string f.c,.string f.d] 29):=⟨_,rfl⟩;have HB0:=mi hW0;have XC:Hid (W0.cell? ⟨w.heap.size,0,none⟩=some (.string f.a)/\W0.cell? ⟨w.heap.size,1,none⟩=some (.string f.b)/\W0.cell? ⟨w.heap.size,2,none⟩=some (.string f.r)/\W0.cell? ⟨w.heap.size,3,none⟩=some (.string f.c)/\W0.cell? ⟨w.heap.size,4,none⟩=some (.string f.d)):=by
  show _/\_;rw[hW0];refine⟨?_,?_,?_,?_,?_⟩<;>simp
 have HS:=ai (hs.below HB0.out);have HKR:=ai hK;clear hs hK h0 h1 h2 h3;go_enter func166,ntmps166;go_wp2_with fail;rw[<-hW0];clear hW0;go_loopw[9,14] (fun v i wr=>∃(k:Nat) (us:Q03),k<=ks.length/\us.length=k/\i=.int .i64 k/\Hid (wr.ownsRow W0.heap.size 110 1 v k us)/\Hid (∀(j:Nat) (h1:j<us.length) (h2:j<ks.length),aP wr (Sx W0.heap.size v) m us[j] (Gk ks[j]))/\Hid (ae W0 wr)) (fun _ i _=>ks.length-(intOf i).toNat);case atStart=>exact⟨0,[],Vf _,rfl,rfl,World.ownsRow_nil _ _ _ _,fun j h1 _=>absurd h1 (V5 _),Vb _ _⟩
 obtain⟨k,us,hk,ZV,rfl,HO,HM,HB⟩:=hrel;by_cases hlt:k<ks.length
 ·obtain⟨bJ,XG,Wt,t0,hbJ⟩:=sZ.at0 (HS.out.below HB.out) hlt;obtain⟨c0,c1,c2,c3,c4⟩:=XC.out;have cl:w.heap.size<W0.heap.size:=aC c0;replace c0:=aI HB.out cl c0;replace c1:=aI HB.out cl c1;replace c2:=aI HB.out cl c2;replace c3:=aI HB.out cl c3;replace c4:=aI HB.out cl c4;have hi1:=bC k;have hi2:(k:Int)<(ks.length:Int):=by omega
  have HC:=ai (HKR.out ks[k] (U8 hlt) wr (HB0.out.trans (HB.out.mono HB0.out.size)));obtain⟨i0,hi0⟩:∃i0,ks[k]=i0:=⟨_,rfl⟩;have HI0:=ai hi0;rw[hi0]at t0 HC;clear hi0;subst Wt;go_wp2_with fail;refine HC.out.mono ?_;rintro e w2 ⟨⟨u,rfl,hru⟩,hb2⟩;obtain⟨uT,ua,hue⟩:=hru.is;subst hue;obtain⟨u,hu⟩:∃u,u=Value.iface uT ua:=⟨_,rfl⟩;rw[<-hu]at hru;have HB2:=ai (HB.out.trans (hb2.mono HB.out.size));have Wu:=ai (bu HO.out hb2);have Xm:Hid (∀(j:Nat) (h1:j<us.length) (h2:j<ks.length),aP w2 (Sx W0.heap.size u9) m us[j] (Gk ks[j])):=fun j h1 h2=>(HM.out j h1 h2).below hb2;have Z6:Hid (aP w2 (Sx W0.heap.size u9) m u (Gk i0)):=aP.keep (Va _) (fun g hg _=>⟨⟨Vj HB.out.size hg,fun e=>by have:=(HO.out.lt g e.symm).2;have:wr.heap.size<=g:=hg;omega⟩,rfl⟩) m u _ hru;have hsw:W0.heap.size<=w2.heap.size:=HB2.out.size;clear hru hb2 HO HM HB t0 c0 c1 c2 c3 c4 cl;obtain⟨W4,WP⟩:∃W4,W4=w2.alloc (.cells #[.iface uT ua] 110):=⟨_,rfl⟩;have WZ:=mi WP;have WG:Hid (W4.ownsRow W0.heap.size 110 1 u9 k us):=bu Wu.out WZ.out;have HN4:Hid (∀j x,[u][j]?=some x->W4.cell? ((⟨w2.heap.size,0,none⟩:Addr).add j)=some x):=fun j x hx=>by
   match j,hx with
   | 0,hx=>simp at hx;subst hx;rw[WP,hu];simp[Addr.add]
  have Xp:=ai (HB2.out.trans (WZ.out.mono HB2.out.size));have HM4:Hid (∀(j:Nat) (h1:j<us.length) (h2:j<ks.length),aP W4 (Sx W0.heap.size u9) m us[j] (Gk ks[j])):=fun j h1 h2=>(Xm.out j h1 h2).below WZ.out;have HU4:=aD (Z6.out.below WZ.out);have Zm:W0.heap.size<=W4.heap.size:=Xp.out.size;clear Xm Z6 HB2;go_wp2_with(at_builtin;rw[<-WP];clear WP;rw[<-hu];refine wpList_append_own_at _ rfl _ _ 244 rfl W0.heap.size 110 iR .nilIface 1 16 underlying244 Xb.out.1 Xb.out.2.1 Xb.out.2.2.1 Xb.out.2.2.2 rfl (by decide) _ k us rfl WG.out ⟨w2.heap.size,0,none⟩ 1 1 [u] rfl rfl HN4.out (by rw[hu];simp[Value.oneCell']) (by unfold maxLen;omega) (by omega) Zm ?_);intro v' w5 hown hgr _ hat;have HR:Hid (w5.ownsRow W0.heap.size 110 1 v' (k+1) (us++[u])):=by show World.ownsRow _ _ _ _ _ _ _;first|exact hown|(rw[hu];exact hown)
  have HT:Hid (∀g,Sx W0.heap.size u9 g->g<W4.heap.size->Sx W0.heap.size v' g/\w5.heap[g]?=W4.heap[g]?):=fun g hg hl=>⟨⟨hg.1,by
   rcases hat with e|e
   ·rw[e];exact hg.2
   rw[e];intro e2;injection e2 with e2;omega⟩,hgr.block g hl hg.2⟩
  have HM5:Hid (∀(j:Nat) (h1:j<(us++[u]).length) (h2:j<ks.length),aP w5 (Sx W0.heap.size v') m (us++[u])[j] (Gk ks[j])):=fun j h1 h2=>by
   by_cases hj:j<us.length
   ·rw[Vw hj];exact aP.keep hgr.size HT.out m _ _ (HM4.out j hj h2)
   have e:j=us.length:=by simp at h1;omega
   subst e;have e2:ks[us.length]=i0:=by simp only[ZV];exact HI0.out
   rw[VM (Va _),e2];simpa using aP.keep hgr.size HT.out m _ _ HU4.out
  have YZ:Hid (ae W0 w5):=Xp.out.grown hgr Xp.out.size (fun g hg=>(WG.out.lt g hg).1);clear hown hgr hat HM4 HU4 HT;go_wp2;go_roundw;case rel=>exact⟨k+1,us++[u],by omega,by simp;omega,by go_num,HR,HM5,YZ⟩
  simp[intOf]<;>omega
 obtain rfl:k=ks.length:=by omega
 have YM:Hid (ae w wr):=HB0.out.trans (HB.out.mono HB0.out.size);have HE:Hid (∃ad cap,u9=.slice ad ks.length cap/\Cg wr (jT w.heap.size) (aP wr (jT w.heap.size) m) ad (ks.map Gk)):=by
  by_cases hz:ks=[]
  ·rcases HO.out.2 with⟨e,h⟩|⟨g,cap,cur,e,-⟩
   ·exact⟨none,0,by rw[e,h],.inl (by rw[hz];rfl)⟩
   exact⟨_,cap,e,.inl (by rw[hz];rfl)⟩
  have hO:=HO.out;rcases hO.2 with⟨e,h⟩|⟨g,cap,cur,e,hbg,-⟩
  ·exact absurd (Vr.1 h) hz
  refine⟨_,cap,e,.inr ⟨g,rfl,Vj HB0.out.size hbg,(hO.lt g (by rw[e];rfl)).2,fun i hi=>?_⟩⟩;have hi2:i<ks.length:=by simpa using hi
  have hi3:i<us.length:=by omega
  refine⟨us[i],?_,?_⟩
  ·have hO2:=hO;rw[e]at hO2;rw[hO2.cellAt i (by omega)];exact Vg hi3
  rw[List.getElem_map];exact aP.keep (Va _) (fun g2 h2 _=>⟨Vj HB0.out.size h2.1,rfl⟩) m _ _ (HM.out i hi3 hi2)
 obtain⟨Xw,WH,rfl,hrow⟩:=HE.out;have Xt:=ai hrow;clear hrow HE HO HM;go_wp2;go_ret;exact⟨⟨_,_,rfl,Xt.out⟩,YM.out⟩
theorem aP.old{w:af}{B B' n m:Nat}{v:Value}{G:Ru}(h:aP w (jT B') n v G)(hb:B<=B')(hm:n<=m):aP w (jT B) m v G:=aP.up (aP.keep (Va _) (fun g hg _=>⟨Vj hb hg,rfl⟩) n v G h) hm
section
variable  {w:World}{rs:Q06}{P D br bp bt bK nK n k:Nat}{n1:Int}{nr:Nat}{Mr:KL->Option Value}{Er:List (KL×RR)}{ts:Q05}{xo xu:Q0a}{np:Nat}{Mp:K3->Option Value}{vo vu:Value}{out:Q04}{f:Fc}{Xq:Q02}{WC:Nat}{Ws:Q02}{capE:Nat}{rows:Q08}
theorem Sz(hn:n<rows.length)(hP:PrM w P D Xq WC out bK nK)(hD:DatA w rs D br bp bt n1 nr Mr Er (bn ts) xo xu np Mp vo vu)(hf:f.fits)(hts:∀t∈ts,t.fits)(htl:ts.length<=40)(hex:ik w Ws rows)(hre:rows.length<=1000)(hk:rows[n].e.kind=1):
  Calls prog 109 #[.pointer (some ⟨P,0,none⟩),.slice Ws rows.length capE,.int .i64 (n:Int),.agg #[.string f.a,.string f.b,.string f.r,.string f.c,.string f.d]] w fun e w'=>(∃v,e=.returned v/\aP w' (jT w.heap.size) (k+1) v (rH ts f))/\ae w w':=by
 obtain⟨b,off,Wt,⟨t0,t1,t2,t3,t4⟩,hbl,hok⟩:=ik.at0 hex hn;obtain⟨W0,hW0⟩:∃W0,W0=vX w f rows[n]:=⟨_,rfl⟩;have HB0:Hid (ae w W0):=by show Below _ _ _;rw[hW0];exact eu _ _ _
 have Yj:Hid (EnB W0 w.heap.size f rows[n]):=by show EnB _ _ _ _;rw[hW0];exact gy _ _ _
 have hk1:(rows[n].e.kind==1)=true:=by rw[hk];rfl
 have YN:b<w.heap.size+1:=by omega
 have hn1:=bC n;have hn2:(n:Int)<(rows.length:Int):=by omega
 unfold vX at hW0;have HC:=ai (FQ (hP.below HB0.out) (hD.below HB0.out) hf hts htl);clear hP hD hf hex hk hok;subst Wt;go_enter func109,ntmps109;go_wp2_with fail;rw[<-hW0];clear hW0 t0 t1 t2 t3 t4;refine HC.out.mono ?_;rintro e w1 ⟨⟨v,rfl,hr⟩,hb1⟩;have HB1:=ai (HB0.out.trans (hb1.mono HB0.out.size));have HR:=ai (hr.old HB0.out.size (by omega:1<=k+1));clear hb1 hr;go_wp2;go_ret;exact⟨⟨v,rfl,HR.out⟩,HB1.out⟩
theorem Uh(hn:n<rows.length)(hf:f.fits)(hnm:rows[n].e.name.size<=maxLen)(hex:ik w Ws rows)(hre:rows.length<=1000)(hk:rows[n].e.kind=2):
  Calls prog 109 #[.pointer (some ⟨P,0,none⟩),.slice Ws rows.length capE,.int .i64 (n:Int),.agg #[.string f.a,.string f.b,.string f.r,.string f.c,.string f.d]] w fun e w'=>(∃v,e=.returned v/\aP w' (jT w.heap.size) (k+1) v (fun K=>K ⟨f.a,f.b,rows[n].e.name,f.c,f.d⟩))/\ae w w':=by
 obtain⟨b,off,Wt,⟨t0,t1,t2,t3,t4⟩,hbl,hok⟩:=ik.at0 hex hn;obtain⟨W0,hW0⟩:∃W0,W0=vX w f rows[n]:=⟨_,rfl⟩;have HB0:Hid (ae w W0):=by show Below _ _ _;rw[hW0];exact eu _ _ _
 have Yj:Hid (EnB W0 w.heap.size f rows[n]):=by show EnB _ _ _ _;rw[hW0];exact gy _ _ _
 have hk1:(rows[n].e.kind==1)=false:=by rw[hk];rfl
 have hk2:(rows[n].e.kind==2)=true:=by rw[hk];rfl
 have YN:b<w.heap.size+1:=by omega
 have hn1:=bC n;have hn2:(n:Int)<(rows.length:Int):=by omega
 unfold vX at hW0;obtain⟨W1,hW1⟩:∃W1,W1=W0.alloc (.cells #[.string f.a,.string f.b,.string rows[n].e.name,.string f.c,.string f.d] 29):=⟨_,rfl⟩;have HB1:Hid (ae w W1):=by show Below _ _ _;rw[hW1];exact HB0.out.alloc HB0.out.size _
 have hz0:W0.heap.size=w.heap.size+1+1:=by rw[hW0];simp
 have HR:Hid (aP W1 (jT w.heap.size) (k+1) (.iface 242 (.agg #[.slice (some ⟨w.heap.size+1+1,0,none⟩) 1 1])) (fun K=>K ⟨f.a,f.b,rows[n].e.name,f.c,f.d⟩)):=by
  refine .inr (.inl ⟨_,1,[⟨f.a,f.b,rows[n].e.name,f.c,f.d⟩],rfl,.inr ⟨_,rfl,by show _<=_;omega⟩,.inr ⟨_,0,rfl,by rw[hW1];simp;omega,fun i hi=>?_⟩,by simp,fun x hx=>?_,by funext K;simp⟩)
  ·have e:i=0:=by simp at hi;omega
   subst e;have hc:∀o v,(Fc.row ⟨f.a,f.b,rows[n].e.name,f.c,f.d⟩)[o]?=some v->W1.cell? ⟨w.heap.size+1+1,o,none⟩=some v:=fun o v h=>by
    have:=wM W0 ⟨f.a,f.b,rows[n].e.name,f.c,f.d⟩ o v h;rw[<-hW1,hz0]at this;by_cases ho:o=0
    ·subst ho;simpa[Addr.add] using this
    simpa[Addr.add,ho] using this
   exact⟨hc 0 _ rfl,hc 1 _ rfl,hc 2 _ rfl,hc 3 _ rfl,hc 4 _ rfl⟩
  simp at hx;subst hx;exact⟨hf.1,hf.2.1,hnm,hf.2.2.2.1,hf.2.2.2.2⟩
 clear hex hk hok hf hz0;subst Wt;go_enter func109,ntmps109;go_wp2;rw[<-hW0];rw[<-hW1];go_ret;exact⟨⟨_,rfl,HR.out⟩,HB1.out⟩
theorem SA(hn:n<rows.length)(hP:PrM w P D Xq WC out bK nK)(hD:DatA w rs D br bp bt n1 nr Mr Er (bn ts) xo xu np Mp vo vu)(hf:f.fits)(hts:∀t∈ts,t.fits)(htl:ts.length<=40)(hov:rows[n].e.over.size<=maxLen/\rows[n].e.name.size<=maxLen)(hex:ik w Ws rows)(hre:rows.length<=1000)(hk:rows[n].e.kind=3):
  Calls prog 109 #[.pointer (some ⟨P,0,none⟩),.slice Ws rows.length capE,.int .i64 (n:Int),.agg #[.string f.a,.string f.b,.string f.r,.string f.c,.string f.d]] w fun e w'=>(∃v,e=.returned v/\aP w' (jT w.heap.size) (k+1) v (Eu ts rows[n].e.over rows[n].e.name f))/\ae w w':=by
 obtain⟨b,off,Wt,⟨t0,t1,t2,t3,t4⟩,hbl,hok⟩:=ik.at0 hex hn;obtain⟨W0,hW0⟩:∃W0,W0=vX w f rows[n]:=⟨_,rfl⟩;have HB0:Hid (ae w W0):=by show Below _ _ _;rw[hW0];exact eu _ _ _
 have Yj:Hid (EnB W0 w.heap.size f rows[n]):=by show EnB _ _ _ _;rw[hW0];exact gy _ _ _
 have hk1:(rows[n].e.kind==1)=false:=by rw[hk];rfl
 have hk2:(rows[n].e.kind==2)=false:=by rw[hk];rfl
 have hk3:(rows[n].e.kind==3)=true:=by rw[hk];rfl
 have YN:b<w.heap.size+1:=by omega
 have hn1:=bC n;have hn2:(n:Int)<(rows.length:Int):=by omega
 unfold vX at hW0;have HC:=ai (FR rows[n] (hP.below HB0.out) (hD.below HB0.out) hf hov.1 hov.2 hts htl);clear hP hD hf hex hk hok;subst Wt;go_enter func109,ntmps109;go_wp2_with fail;rw[<-hW0];clear hW0 t0 t1 t2 t3 t4;refine HC.out.mono ?_;rintro e w1 ⟨⟨v,rfl,hr⟩,hb1⟩;have HB1:=ai (HB0.out.trans (hb1.mono HB0.out.size));have HR:=ai (hr.old HB0.out.size (by omega:1<=k+1));clear hb1 hr;go_wp2;go_ret;exact⟨⟨v,rfl,HR.out⟩,HB1.out⟩
theorem QQ(hn:n<rows.length)(Gk:Int->Ru)(hkl:rows[n].e.kids.length<=5)(ZJ:∀i∈rows[n].e.kids,QO P (.slice Ws rows.length capE) f w k i (Gk i))(hex:ik w Ws rows)(hre:rows.length<=1000)(hk:rows[n].e.kind=4):
  Calls prog 109 #[.pointer (some ⟨P,0,none⟩),.slice Ws rows.length capE,.int .i64 (n:Int),.agg #[.string f.a,.string f.b,.string f.r,.string f.c,.string f.d]] w fun e w'=>(∃v,e=.returned v/\aP w' (jT w.heap.size) (k+1) v (fun K=>rows[n].e.kids.any fun i=>Gk i K))/\ae w w':=by
 obtain⟨b,off,Wt,⟨t0,t1,t2,t3,t4⟩,hbl,hok⟩:=ik.at0 hex hn;obtain⟨W0,hW0⟩:∃W0,W0=vX w f rows[n]:=⟨_,rfl⟩;have HB0:Hid (ae w W0):=by show Below _ _ _;rw[hW0];exact eu _ _ _
 have Yj:Hid (EnB W0 w.heap.size f rows[n]):=by show EnB _ _ _ _;rw[hW0];exact gy _ _ _
 have hk1:(rows[n].e.kind==1)=false:=by rw[hk];rfl
 have hk2:(rows[n].e.kind==2)=false:=by rw[hk];rfl
 have hk3:(rows[n].e.kind==3)=false:=by rw[hk];rfl
 have hk4:(rows[n].e.kind==4)=true:=by rw[hk];rfl
 have YN:b<w.heap.size+1:=by omega
 have hn1:=bC n;have hn2:(n:Int)<(rows.length:Int):=by omega
 unfold vX at hW0;have HC:=ai (tT k rows[n].e.kids Gk rows[n].adK rows[n].capK hkl (hok.2.below HB0.out) (fun i hi w1 hb=>ZJ i hi w1 (HB0.out.trans (hb.mono HB0.out.size))));clear ZJ hex hk hok;subst Wt;go_enter func109,ntmps109;go_wp2_with fail;rw[<-hW0];clear hW0 t0 t1 t2 t3 t4;refine HC.out.mono ?_;rintro e w1 ⟨⟨Xk,WV,rfl,hr⟩,hb1⟩;have HB1:=ai (HB0.out.trans (hb1.mono HB0.out.size));have hr2:Cg w1 (jT w.heap.size) (aP w1 (jT w.heap.size) k) Xk (rows[n].e.kids.map Gk):=by
  rcases hr with h|⟨g,e,h1,h2,h3⟩
  ·exact .inl h
  exact .inr ⟨g,e,Vj HB0.out.size h1,h2,fun i hi=>by obtain⟨u,hu,hp⟩:=h3 i hi;exact⟨u,hu,hp.old HB0.out.size (Va _)⟩⟩
 have HR:Hid (aP w1 (jT w.heap.size) (k+1) (.iface 247 (.agg #[.slice Xk rows[n].e.kids.length WV])) (fun K=>rows[n].e.kids.any fun i=>Gk i K)):=.inr (.inr (.inl ⟨Xk,WV,rows[n].e.kids.map Gk,by rw[VN],by rw[VN];exact hkl,hr2,by funext K;rw[List.any_map];rfl⟩));clear hb1 hr hr2;go_wp2;go_ret;exact⟨⟨_,rfl,HR.out⟩,HB1.out⟩
theorem SB(hn:n<rows.length)(Gk:Int->Ru)(hkl:rows[n].e.kids.length<=5)(ZJ:∀i∈rows[n].e.kids,QO P (.slice Ws rows.length capE) f w k i (Gk i))(hex:ik w Ws rows)(hre:rows.length<=1000)(hk:rows[n].e.kind=5):
  Calls prog 109 #[.pointer (some ⟨P,0,none⟩),.slice Ws rows.length capE,.int .i64 (n:Int),.agg #[.string f.a,.string f.b,.string f.r,.string f.c,.string f.d]] w fun e w'=>(∃v,e=.returned v/\aP w' (jT w.heap.size) (k+1) v (fun K=>rows[n].e.kids.all fun i=>Gk i K))/\ae w w':=by
 obtain⟨b,off,Wt,⟨t0,t1,t2,t3,t4⟩,hbl,hok⟩:=ik.at0 hex hn;obtain⟨W0,hW0⟩:∃W0,W0=vX w f rows[n]:=⟨_,rfl⟩;have HB0:Hid (ae w W0):=by show Below _ _ _;rw[hW0];exact eu _ _ _
 have Yj:Hid (EnB W0 w.heap.size f rows[n]):=by show EnB _ _ _ _;rw[hW0];exact gy _ _ _
 have hk1:(rows[n].e.kind==1)=false:=by rw[hk];rfl
 have hk2:(rows[n].e.kind==2)=false:=by rw[hk];rfl
 have hk3:(rows[n].e.kind==3)=false:=by rw[hk];rfl
 have hk4:(rows[n].e.kind==4)=false:=by rw[hk];rfl
 have hk5:(rows[n].e.kind==5)=true:=by rw[hk];rfl
 have YN:b<w.heap.size+1:=by omega
 have hn1:=bC n;have hn2:(n:Int)<(rows.length:Int):=by omega
 unfold vX at hW0;have HC:=ai (tT k rows[n].e.kids Gk rows[n].adK rows[n].capK hkl (hok.2.below HB0.out) (fun i hi w1 hb=>ZJ i hi w1 (HB0.out.trans (hb.mono HB0.out.size))));clear ZJ hex hk hok;subst Wt;go_enter func109,ntmps109;go_wp2_with fail;rw[<-hW0];clear hW0 t0 t1 t2 t3 t4;refine HC.out.mono ?_;rintro e w1 ⟨⟨Xk,WV,rfl,hr⟩,hb1⟩;have HB1:=ai (HB0.out.trans (hb1.mono HB0.out.size));have hr2:Cg w1 (jT w.heap.size) (aP w1 (jT w.heap.size) k) Xk (rows[n].e.kids.map Gk):=by
  rcases hr with h|⟨g,e,h1,h2,h3⟩
  ·exact .inl h
  exact .inr ⟨g,e,Vj HB0.out.size h1,h2,fun i hi=>by obtain⟨u,hu,hp⟩:=h3 i hi;exact⟨u,hu,hp.old HB0.out.size (Va _)⟩⟩
 have HR:Hid (aP w1 (jT w.heap.size) (k+1) (.iface 248 (.agg #[.slice Xk rows[n].e.kids.length WV])) (fun K=>rows[n].e.kids.all fun i=>Gk i K)):=.inr (.inr (.inr ⟨Xk,WV,rows[n].e.kids.map Gk,by rw[VN],by rw[VN];exact hkl,hr2,by funext K;rw[List.all_map];rfl⟩));clear hb1 hr hr2;go_wp2;go_ret;exact⟨⟨_,rfl,HR.out⟩,HB1.out⟩
end
theorem UW{W0 W w':af}(h:ae W0 W)(hb:ae W w'):ae W0 w':=h.trans (hb.mono h.size)
section
variable  {w:World}{rs:Q06}{P D br bp bt bK nK n k:Nat}{n1:Int}{nr:Nat}{Mr:KL->Option Value}{Er:List (KL×RR)}{ts:Q05}{xo xu:Q0a}{np:Nat}{Mp:K3->Option Value}{vo vu:Value}{out:Q04}{f:Fc}{Xq:Q02}{WC:Nat}{Ws:Q02}{capE:Nat}{rows:Q08}
theorem Ui(hn:n<rows.length)(b1:Bool)(G0:Ru)(hkl:rows[n].e.kids.length<=1000)(hk2l:2<=rows[n].e.kids.length)(hP:PrM w P D Xq WC out bK nK)(hH:FO D (.slice Ws rows.length capE) f bK w (rows[n].e.kids.getD 1 0) b1)(hR:QO P (.slice Ws rows.length capE) f w k (rows[n].e.kids.getD 0 0) G0)(hex:ik w Ws rows)(hre:rows.length<=1000)(hk:rows[n].e.kind=6):
  Calls prog 109 #[.pointer (some ⟨P,0,none⟩),.slice Ws rows.length capE,.int .i64 (n:Int),.agg #[.string f.a,.string f.b,.string f.r,.string f.c,.string f.d]] w fun e w'=>(∃v,e=.returned v/\aP w' (jT w.heap.size) (k+1) v (if b1 then fun _=>false else G0))/\ae w w':=by
 obtain⟨b,off,Wt,⟨t0,t1,t2,t3,t4⟩,hbl,hok⟩:=ik.at0 hex hn;obtain⟨W0,hW0⟩:∃W0,W0=vX w f rows[n]:=⟨_,rfl⟩;have HB0:Hid (ae w W0):=by show Below _ _ _;rw[hW0];exact eu _ _ _
 have Yj:Hid (EnB W0 w.heap.size f rows[n]):=by show EnB _ _ _ _;rw[hW0];exact gy _ _ _
 have hk1:(rows[n].e.kind==1)=false:=by rw[hk];rfl
 have hk2:(rows[n].e.kind==2)=false:=by rw[hk];rfl
 have hk3:(rows[n].e.kind==3)=false:=by rw[hk];rfl
 have hk4:(rows[n].e.kind==4)=false:=by rw[hk];rfl
 have hk5:(rows[n].e.kind==5)=false:=by rw[hk];rfl
 have YN:b<w.heap.size+1:=by omega
 have hn1:=bC n;have hn2:(n:Int)<(rows.length:Int):=by omega
 unfold vX at hW0;have h0k:0<rows[n].e.kids.length:=by omega
 have h1k:1<rows[n].e.kids.length:=by omega
 obtain⟨bJ,XG,WX,z0,hbK⟩:=sZ.at0 hok.2 h0k;have z1:w.cell? ⟨bJ,XG+1,none⟩=some (.int .i64 rows[n].e.kids[1]):=by
  obtain⟨b',off',Yl,z1,-⟩:=sZ.at0 hok.2 h1k;rw[WX]at Yl;injection Yl with e;injection e with e1 e2;rw[e1,e2];exact z1
 obtain⟨i0,hi0⟩:∃i,i=rows[n].e.kids[0]:=⟨_,rfl⟩;obtain⟨i1,hi1⟩:∃i,i=rows[n].e.kids[1]:=⟨_,rfl⟩;have g0:rows[n].e.kids.getD 0 0=i0:=by rw[hi0,VH,Vg h0k];rfl
 have g1:rows[n].e.kids.getD 1 0=i1:=by rw[hi1,VH,Vg h1k];rfl
 rw[g0]at hR;rw[g1]at hH;rw[<-hi0,Nat.add_zero]at z0;rw[<-hi1]at z1;obtain⟨kl,hkl'⟩:∃kl,kl=rows[n].e.kids.length:=⟨_,rfl⟩;obtain⟨cK,hcK⟩:∃c,c=rows[n].capK:=⟨_,rfl⟩;have hl0:(0:Int)<(kl:Int):=by omega
 have hl1:(1:Int)<(kl:Int):=by omega
 have h0k':0<kl:=by omega
 have h1k':1<kl:=by omega
 have HH:Hid (∀w1,ae W0 w1->Calls prog 167 #[.pointer (some ⟨D,0,none⟩),.slice Ws rows.length capE,.int .i64 i1,.agg #[.string f.a,.string f.b,.string f.r,.string f.c,.string f.d],.map (some bK)] w1 fun e w'=>e=.returned (.bool b1)/\ae w1 w'):=fun w1 hb=>hH w1 (HB0.out.trans (hb.mono HB0.out.size));have HR:Hid (∀w1,ae W0 w1->Calls prog 109 #[.pointer (some ⟨P,0,none⟩),.slice Ws rows.length capE,.int .i64 i0,.agg #[.string f.a,.string f.b,.string f.r,.string f.c,.string f.d]] w1 fun e w'=>(∃v,e=.returned v/\aP w' (jT w.heap.size) (k+1) v G0)/\ae w1 w'):=fun w1 hb=>(hR w1 (HB0.out.trans (hb.mono HB0.out.size))).mono fun e w' ⟨⟨v,he,hr⟩,hb2⟩=>⟨⟨v,he,hr.old (Vj HB0.out.size hb.size) (by omega)⟩,hb2⟩;have HSA:Hid (∀w':World,ae W0 w'->ae W0 w'/\w'.cell? ⟨P,0,none⟩=some (.pointer (some ⟨D,0,none⟩))/\w'.cell? ⟨P,2,none⟩=some (.map (some bK))/\w'.cell? ⟨w.heap.size+1,4,none⟩=some (.slice (some ⟨bJ,XG,none⟩) kl cK)/\w'.cell? ⟨bJ,XG,none⟩=some (.int .i64 i0)/\w'.cell? ⟨bJ,XG+1,none⟩=some (.int .i64 i1)/\w'.cell? ⟨w.heap.size,0,none⟩=some (.string f.a)/\w'.cell? ⟨w.heap.size,1,none⟩=some (.string f.b)/\w'.cell? ⟨w.heap.size,2,none⟩=some (.string f.r)/\w'.cell? ⟨w.heap.size,3,none⟩=some (.string f.c)/\w'.cell? ⟨w.heap.size,4,none⟩=some (.string f.d)):=fun w' h=>by
  have hl:=Yj.out.lt;have hs:=HB0.out.size;have hx:∀o v,W0.cell? ⟨w.heap.size,o,none⟩=some v->w'.cell? ⟨w.heap.size,o,none⟩=some v:=fun o v hv=>aI h (by omega) hv;have hw:∀g o v,g<w.heap.size->w.cell? ⟨g,o,none⟩=some v->w'.cell? ⟨g,o,none⟩=some v:=fun g o v hg hv=>aI h (by omega) (aI HB0.out hg hv);refine⟨h,hw _ _ _ hP.lt hP.c0,hw _ _ _ hP.lt hP.c2,?_,hw _ _ _ hbK z0,hw _ _ _ hbK z1,hx _ _ Yj.out.f0,hx _ _ Yj.out.f1,hx _ _ Yj.out.f2,hx _ _ Yj.out.f3,hx _ _ Yj.out.f4⟩;refine aI h hl ?_;rw[Yj.out.x4,WX,<-hkl',<-hcK]
 clear hH hR hex hk hok z0 z1 WX h0k h1k g0 g1 hi0 hi1 hP hkl' hcK;subst Wt;go_enter func109,ntmps109;go_wp2_with fail;rw[<-hW0];clear hW0 t0 t1 t2 t3 t4 hk1 hk2 hk3 hk4 hk5
 go_region_held3 (fun w'=>ae W0 w'/\w'.cell? ⟨P,0,none⟩=some (.pointer (some ⟨D,0,none⟩))/\w'.cell? ⟨P,2,none⟩=some (.map (some bK))/\w'.cell? ⟨w.heap.size+1,4,none⟩=some (.slice (some ⟨bJ,XG,none⟩) kl cK)/\w'.cell? ⟨bJ,XG,none⟩=some (.int .i64 i0)/\w'.cell? ⟨bJ,XG+1,none⟩=some (.int .i64 i1)/\w'.cell? ⟨w.heap.size,0,none⟩=some (.string f.a)/\w'.cell? ⟨w.heap.size,1,none⟩=some (.string f.b)/\w'.cell? ⟨w.heap.size,2,none⟩=some (.string f.r)/\w'.cell? ⟨w.heap.size,3,none⟩=some (.string f.c)/\w'.cell? ⟨w.heap.size,4,none⟩=some (.string f.d))
  (first|assumption|exact HSA.out _ (UW (And.left (by assumption)) hbx)|exact HSA.out _ (Vb _ _).drew)
  (first|(go_at_call 167;refine(HH.out _ (And.left (by assumption))).mono ?_;rintro e w2 ⟨rfl,hbx⟩))
 rename_i hJ;have HB2:=ai hJ.1;clear hJ;cases b1;case true=>
  have YM:Hid (ae w w2):=HB0.out.trans (HB2.out.mono HB0.out.size);have HRU:Hid (aP w2 (jT w.heap.size) (k+1) (.iface 183 (.agg #[.bool false])) (if true=true then fun _=>false else G0)):=(pX (S:=jT w.heap.size) false (by rw[if_pos rfl])).up (by omega);go_wp2;go_ret;exact⟨⟨_,rfl,HRU.out⟩,YM.out⟩
 go_wp2_with fail
 go_region_held3 (fun w'=>ae W0 w'/\w'.cell? ⟨P,0,none⟩=some (.pointer (some ⟨D,0,none⟩))/\w'.cell? ⟨P,2,none⟩=some (.map (some bK))/\w'.cell? ⟨w.heap.size+1,4,none⟩=some (.slice (some ⟨bJ,XG,none⟩) kl cK)/\w'.cell? ⟨bJ,XG,none⟩=some (.int .i64 i0)/\w'.cell? ⟨bJ,XG+1,none⟩=some (.int .i64 i1)/\w'.cell? ⟨w.heap.size,0,none⟩=some (.string f.a)/\w'.cell? ⟨w.heap.size,1,none⟩=some (.string f.b)/\w'.cell? ⟨w.heap.size,2,none⟩=some (.string f.r)/\w'.cell? ⟨w.heap.size,3,none⟩=some (.string f.c)/\w'.cell? ⟨w.heap.size,4,none⟩=some (.string f.d))
  (first|assumption|exact HSA.out _ (UW (And.left (by assumption)) hbx)|exact HSA.out _ HB2.out.drew)
  (first|(go_at_call 109;refine(HR.out _ (And.left (by assumption))).mono ?_;rintro e w3 ⟨⟨v,rfl,hru⟩,hbx⟩;have HRV:=ai hru;clear hru))
 rename_i hJ;have HB3:=ai hJ.1;clear hJ;have YM:Hid (ae w w3):=HB0.out.trans (HB3.out.mono HB0.out.size);go_wp2;go_ret;exact⟨⟨v,rfl,HRV.out⟩,YM.out⟩
theorem Ez{e:Ex}(h:ay e=true)(hk:e.kind=4\/e.kind=5):2<=e.kids.length:=by
 unfold ay at h;rw[if_neg (by omega),if_neg (by omega),if_neg (by omega),if_pos hk]at h;simp only[Vd,Vk]at h;exact h.1.1.1.1
theorem xh(hN:Ym rows)(hnb:∀e∈ak rows,ay e=true)(hf:f.fits)(hts:∀t∈ts,t.fits)(htl:ts.length<=40)(htr:∀j,j<(ak rows).length->0<=az (ak rows) j):
  ∀(k d n:Nat) (w:World),n<k->n<rows.length->(n:Int)-az (ak rows) n+1<2*(d:Int)->PrM w P D Xq WC out bK nK->DatA w rs D br bp bt n1 nr Mr Er (bn ts) xo xu np Mp vo vu->ik w Ws rows ->
  Calls prog 109 #[.pointer (some ⟨P,0,none⟩),.slice Ws rows.length capE,.int .i64 (n:Int),.agg #[.string f.a,.string f.b,.string f.r,.string f.c,.string f.d]] w fun e w'=>(∃v,e=.returned v/\aP w' (jT w.heap.size) d v (gN ts (ak rows) out f k n))/\ae w w'
 | 0,_,_,_,h,_,_,_,_,_=>absurd h (V5 _)
 | k+1,d0,n,w,hk,hn,hsp,hP,hD,hex=>by
  obtain⟨d,rfl⟩:∃d,d0=d+1:=⟨d0-1,by have:=fZ (ak rows) n;omega⟩;have hka:di (ak rows) n=rows[n].e.kids:=by simp[di,ak,hn]
  have e:(ak rows)[n]?=some rows[n].e:=by simp[ak,hn]
  have Xg:2<=rows[n].e.kids.length->∀i∈rows[n].e.kids,QO P (.slice Ws rows.length capE) f w d i (gN ts (ak rows) out f k i.toNat):=fun h2k i hi w1 hb1=>by
   have h1:=hN.kid hn hi;have h2:=xh hN hnb hf hts htl htr k d i.toNat w1 (by omega) (by omega) (Ph (htr n (by rw[aR];exact hn)) (by rw[hka];exact h2k) hsp i (by rw[hka];exact hi)) (hP.below hb1) (hD.below hb1) (hex.below hb1);have e2:((i.toNat:Nat):Int)=i:=by omega
   rw[e2]at h2;exact h2
  have hkidH:∀i∈rows[n].e.kids,FO D (.slice Ws rows.length capE) f bK w i (dh ts (ak rows) out f k out i.toNat):=fun i hi w1 hb1=>by
   have h1:=hN.kid hn hi;have h2:=nV (capE:=capE) hN hnb hf hts (by omega) k i.toNat w1 (by omega) (by omega) (hD.below hb1) (hP.set.below hb1) (hex.below hb1);have e2:((i.toNat:Nat):Int)=i:=by omega
   rw[e2]at h2;exact h2
  have hm:rows[n]∈rows:=U8 hn;have hme:rows[n].e∈ak rows:=Vo.2 ⟨_,hm,rfl⟩;obtain⟨hn2,hn3,hkd⟩:=Cf (hnb _ hme);unfold gN;rw[e];dsimp only;by_cases k1:rows[n].e.kind=1
  ·rw[if_pos k1];exact Sz hn hP hD hf hts htl hex hN.len k1
  rw[if_neg k1];by_cases k2:rows[n].e.kind=2
  ·rw[if_pos k2];exact Uh hn hf (hn2 k2) hex hN.len k2
  rw[if_neg k2];by_cases k3:rows[n].e.kind=3
  ·rw[if_pos k3];exact SA hn hP hD hf hts htl (hn3 k3) hex hN.len k3
  rw[if_neg k3];by_cases k4:rows[n].e.kind=4
  ·rw[if_pos k4];exact QQ hn (fun i=>gN ts (ak rows) out f k i.toNat) (pW (hnb _ hme)).1 (Xg (Ez (hnb _ hme) (.inl k4))) hex hN.len k4
  rw[if_neg k4];by_cases k5:rows[n].e.kind=5
  ·rw[if_pos k5];exact SB hn (fun i=>gN ts (ak rows) out f k i.toNat) (pW (hnb _ hme)).1 (Xg (Ez (hnb _ hme) (.inr k5))) hex hN.len k5
  rw[if_neg k5];have k6:rows[n].e.kind=6:=by omega
  rw[if_pos k6];have h2:=hN.two _ hme k6;have hg:∀q,q<2->rows[n].e.kids.getD q 0∈rows[n].e.kids:=fun q hq=>by
   rw[VH,Vg (by omega)];exact U8 _
  exact Ui hn _ _ (hN.kids _ hm) h2 hP (hkidH _ (hg 1 (by omega))) (Xg h2 _ (hg 0 (by omega))) hex hN.len k6
end
structure KnF(w:World)(FC:Nat)(rc cp:Array Value)(K:Fc->Bool):Prop where
 run:∀(ys:Array Value) (u:World),(callFunc FC ys).run prog u=.ok (.enter FC ys) u
 says:∀x:Fc,x.fits->∀w1:World,ae w w1->Calls prog FC (rc.push (.agg #[.string x.a,.string x.b,.string x.r,.string x.c,.string x.d])++cp) w1 fun e w'=>e=.returned (.bool (K x))/\ae w1 w'
theorem KnF.below{w w':af}{FC:Nat}{rc cp:Array Value}{K:Fc->Bool}(h:KnF w FC rc cp K)(hb:ae w w'):KnF w' FC rc cp K :=
 ⟨h.run,fun x hx w1 h1=>h.says x hx w1 (hb.trans (h1.mono hb.size))⟩
theorem NM{ps:List Bool}{k:Nat}(h:k<ps.length):(ps.drop k).any id=(ps[k] || (ps.drop (k+1)).any id):=by rw[VG h];rfl
theorem KE(FC:Nat)(rc cp:Array Value)(ps:List Bool)(ad:Q02)(cap:Nat)(w:af)(hlen:ps.length<=1000)
  (hrun:∀(ys:Array Value) (u:World),(callFunc FC ys).run prog u=.ok (.enter FC ys) u)
  (hs:ps=[] \/ ∃g,ad=some ⟨g,0,none⟩/\g<w.heap.size/\∀(i:Nat) (h:i<ps.length),∃u,w.cell? ⟨g,i,none⟩=some u/\∀w1:World,ae w w1->Calls prog FC (rc.push u++cp) w1 fun e w'=>e=.returned (.bool ps[i])/\ae w1 w') :
  Calls prog 277 #[.slice ad ps.length cap,.func (Fn.func FC) rc cp] w fun e w'=>(∃r:Int,e=.returned (.int .i64 r)/\decide (0<=r)=ps.any id)/\ae w w':=by
 have HS:=ai hs;have Yt:=ai hrun;clear hs hrun;have HD:Hid (∀k (h:k<ps.length),(ps.drop k).any id=(ps[k] || (ps.drop (k+1)).any id)):=fun k h=>NM h;go_enter func277,ntmps277;go_wp2_with fail;go_loopw[8] (fun i wr=>∃k:Nat,k<=ps.length/\i=.int .i64 k/\Hid ((ps.drop k).any id=ps.any id)/\Hid (ae w wr)) (fun i _=>ps.length-(intOf i).toNat);case atStart=>exact⟨0,Vf _,rfl,rfl,Vb _ _⟩
 obtain⟨k,hk,rfl,HQ,HB⟩:=hrel;by_cases hlt:k<ps.length
 ·rcases HS.out with hnil|⟨g,Wt,hg,hrow⟩
  ·rw[hnil]at hlt;simp at hlt
  obtain⟨u,hu,hcall⟩:=hrow k hlt;have HC:=ai (hcall wr HB.out);have t0:=aI HB.out hg hu;have hk1:=bC k;have hk2:(k:Int)<(ps.length:Int):=by omega
  have HD2:=ai (HD.out k hlt);subst Wt;clear hrow hu hcall;go_wp2_with fail;rw[Yt.out,Oper.upon_enter];refine HC.out.mono ?_;rintro e w1 ⟨rfl,hb1⟩;have HB1:=jF HB hb1;clear hb1 t0;cases he:ps[k];case true=>
   have HN:Hid (ps.any id=true):=by show _=_;rw[<-HQ.out,HD2.out,he];rfl
   go_wp2;go_ret;exact⟨⟨k,rfl,by rw[HN.out];simp⟩,HB1.out⟩
  have HQ2:Hid ((ps.drop (k+1)).any id=ps.any id):=by show _=_;rw[<-HQ.out,HD2.out,he];rfl
  go_wp2;go_roundw;case rel=>exact⟨k+1,by omega,by go_num,HQ2,HB1⟩
  simp[intOf]<;>omega
 have HN:Hid (ps.any id=false):=by show _=_;rw[<-HQ.out,Vt (by omega)];rfl
 go_wp2;go_ret;exact⟨⟨-1,rfl,by rw[HN.out];simp⟩,HB.out⟩
theorem tV(FC:Nat)(rc cp:Array Value)(ps:List Bool)(ad:Q02)(cap:Nat)(w:af)(hlen:ps.length<=1000)
  (hrun:∀(ys:Array Value) (u:World),(callFunc FC ys).run prog u=.ok (.enter FC ys) u)
  (hs:ps=[] \/ ∃g,ad=some ⟨g,0,none⟩/\g<w.heap.size/\∀(i:Nat) (h:i<ps.length),∃u,w.cell? ⟨g,i,none⟩=some u/\∀w1:World,ae w w1->Calls prog FC (rc.push u++cp) w1 fun e w'=>e=.returned (.bool ps[i])/\ae w1 w') :
  Calls prog 275 #[.slice ad ps.length cap,.func (Fn.func FC) rc cp] w fun e w'=>e=.returned (.bool (ps.any id))/\ae w w':=by
 have HC:=ai (KE FC rc cp ps ad cap w hlen hrun hs);clear hs hrun;go_enter func275,ntmps275;go_wp2_with fail;refine HC.out.mono ?_;rintro e w' ⟨⟨r,rfl,hr⟩,hbx⟩;have HR:=ai hr;clear hr;go_wp2;go_ret;exact⟨by rw[<-HR.out];rfl,hbx⟩
theorem IB(b:Bool)(fv:Value)(w:af):
  Calls prog 272 #[.agg #[.bool b],fv] w fun e w'=>e=.returned (.bool b)/\ae w w':=by
 have HB:Hid (ae w (w.alloc (.cells #[.bool b] 183))):=(Vb _ _).alloc (Va _) _;go_enter func272,ntmps272;go_wp2;go_ret;exact⟨rfl,HB.out⟩
theorem SC{FC:Nat}{rc cp:Array Value}{K:Fc->Bool}{ad:Q02}{cap:Nat}{fs:Q04}{w:af}(hK:KnF w FC rc cp K)(hl:fs.length<=1000)(hs:kw w ad fs)(hf:∀x∈fs,x.fits):
  Calls prog 273 #[.agg #[.slice ad fs.length cap],.func (Fn.func FC) rc cp] w fun e w'=>e=.returned (.bool (fs.any K))/\ae w w':=by
 obtain⟨W0,hW0⟩:∃W0,W0=w.alloc (.cells #[.slice ad fs.length cap] 242):=⟨_,rfl⟩;have HB0:=mi hW0;have HC:=ai (rF FC rc cp K ad cap fs W0 (by omega) (hs.below HB0.out) hK.run (fun x hx w1 hb=>hK.says x (hf x hx) w1 (HB0.out.trans (hb.mono HB0.out.size))));clear hK hs hf;go_enter func273,ntmps273;go_wp2_with fail;rw[<-hW0];clear hW0;refine HC.out.mono ?_;rintro e w1 ⟨rfl,hb1⟩;have HB1:=jF HB0 hb1;clear hb1;go_wp2;go_ret;exact⟨rfl,HB1.out⟩
def KF(T:TypeId):Nat:=if T=183 then 272 else if T=242 then 273 else if T=247 then 274 else 278
def KG(w:World)(FC:Nat)(rc cp:Array Value)(u:Value)(b:Bool):Prop :=
 ∃(T:TypeId) (a:Value),u=.iface T a/\(T=183/\(∃c,a=.agg #[.bool c])\/(T=242\/T=247\/T=248)/\∃ad n cap,a=.agg #[.slice ad n cap])/\∀w1:World,ae w w1->Calls prog (KF T) #[a,.func (Fn.func FC) rc cp] w1 fun e w'=>e=.returned (.bool b)/\ae w1 w'
theorem Cj {T : TypeId} {a : Value} (h : T = 183 ∧ (∃ c, a = .agg #[.bool c]) ∨ (T = 242 ∨ T = 247 ∨ T = 248) ∧ ∃ ad n cap, a = .agg #[.slice ad n cap]) (m : Nat) (w : World) : (method (m + 1) T a "loop.example/g00297/impl.follows").run Tryz.prog w = .ok (KF T, a) w := by
 rcases h with⟨rfl,c,rfl⟩|⟨rfl|rfl|rfl,ad,n,cap,rfl⟩<;>kernel_rfl
def Tm(T:TypeId)(a:Value):Prop:=T=183/\(∃c,a=.agg #[.bool c])\/(T=242\/T=247\/T=248)/\∃ad n cap,a=.agg #[.slice ad n cap]
theorem FX{T:TypeId}{a:Value}(h:Tm T a)(ys:Array Value)(u:af):(callFunc (KF T) ys).run prog u=.ok (.enter (KF T) ys) u:=by
 rcases h with⟨rfl,-⟩|⟨rfl|rfl|rfl,-⟩<;>kernel_rfl
theorem QR{w:af}{FC:Nat}{rc cp:Array Value}{u:Value}{b:Bool}(h:KG w FC rc cp u b){w1:af}(hb:ae w w1){g:Nat}(hc:w1.cell? ⟨g,0,none⟩=some (.func (Fn.func FC) rc cp)):
  Calls prog 276 #[u,.pointer (some ⟨g,0,none⟩)] w1 fun e w'=>e=.returned (.bool b)/\ae w1 w':=by
 obtain ⟨T,a,rfl,hk,hcall⟩:=h;have hm : ∀ (m : Nat) (x : World), (method (m + 1) T a "loop.example/g00297/impl.follows").run Tryz.prog x = .ok (KF T, a) x := fun m x => Cj hk m x;have Yt:=ai (FX hk);have HC:=ai (hcall w1 hb);clear hk hcall hb;go_enter func276,ntmps276;go_wp2_with fail;rw [Yt.out,Oper.upon_enter];refine HC.out.mono ?_;rintro e w2 ⟨rfl,hb2⟩;have HB2:=ai hb2;clear hb2 hc hm;go_wp2;go_ret;exact ⟨rfl,HB2.out⟩
theorem NN{w:af}{FC:Nat}{rc cp:Array Value}{u:Value}{b:Bool}(h:KG w FC rc cp u b){w1:af}(hb:ae w w1){g:Nat}(hc:w1.cell? ⟨g,0,none⟩=some (.func (Fn.func FC) rc cp)):
  Calls prog 279 #[u,.pointer (some ⟨g,0,none⟩)] w1 fun e w'=>e=.returned (.bool (!b))/\ae w1 w':=by
 obtain ⟨T,a,rfl,hk,hcall⟩:=h;have hm : ∀ (m : Nat) (x : World), (method (m + 1) T a "loop.example/g00297/impl.follows").run Tryz.prog x = .ok (KF T, a) x := fun m x => Cj hk m x;have Yt:=ai (FX hk);have HC:=ai (hcall w1 hb);clear hk hcall hb;go_enter func279,ntmps279;go_wp2_with fail;rw [Yt.out,Oper.upon_enter];refine HC.out.mono ?_;rintro e w2 ⟨rfl,hb2⟩;have HB2:=ai hb2;clear hb2 hc hm;go_wp2;go_ret;exact ⟨rfl,HB2.out⟩
theorem Uj(xs:Array Value)(u:af):(callFunc 276 xs).run prog u=.ok (.enter 276 xs) u:=by kernel_rfl
theorem Uk(xs:Array Value)(u:af):(callFunc 279 xs).run prog u=.ok (.enter 279 xs) u:=by kernel_rfl
def Ul(w:World)(FC:Nat)(rc cp:Array Value)(ad:Q02)(bs:List Bool):Prop:=bs=[] \/ ∃g,ad=some ⟨g,0,none⟩/\g<w.heap.size/\∀(i:Nat) (h:i<bs.length),∃u,w.cell? ⟨g,i,none⟩=some u/\KG w FC rc cp u bs[i]
theorem QS{w:af}{FC:Nat}{rc cp:Array Value}{ad:Q02}{bs:List Bool}(cap:Nat)(hl:bs.length<=1000)(hs:Ul w FC rc cp ad bs)(w1:af)(hb:ae w w1):
  Calls prog 274 #[.agg #[.slice ad bs.length cap],.func (Fn.func FC) rc cp] w1 fun e w'=>e=.returned (.bool (bs.any id))/\ae w1 w':=by
 obtain⟨W0,hW0⟩:∃W0,W0=(w1.alloc (.cells #[.slice ad bs.length cap] 247)).alloc (.cells #[.func (Fn.func FC) rc cp] 108):=⟨_,rfl⟩;have HB0:Hid (ae w1 W0):=by show Below _ _ _;rw[hW0];exact((Vb _ _).alloc (Va _) _).alloc (by simp) _
 have c0:W0.cell? ⟨w1.heap.size+1,0,none⟩=some (.func (Fn.func FC) rc cp):=by rw[hW0];simp
 have cl:=aC c0;have Wx:Hid (ae w W0):=hb.trans (HB0.out.mono hb.size);have HC:=ai (tV 276 #[] #[.pointer (some ⟨w1.heap.size+1,0,none⟩)] bs ad cap W0 (by simpa using hl) Uj (by
  rcases hs with h|⟨g,e,h1,h2⟩
  ·exact .inl (by first|exact h|(rw[h];rfl))
  refine .inr ⟨g,e,U9 h1 Wx.out.size,fun i hi=>?_⟩;obtain⟨u,hu,hf⟩:=h2 i (by simpa using hi);refine⟨u,aI Wx.out h1 hu,fun w2 hb2=>?_⟩;have h:=QR hf (Wx.out.trans (hb2.mono Wx.out.size)) (aI hb2 cl c0);simpa using h))
 clear hs hb;go_enter func274,ntmps274;go_wp2_with fail;rw[<-hW0];clear hW0 c0 cl;refine HC.out.mono ?_;rintro e w2 ⟨rfl,hb2⟩;have HB2:=jF HB0 hb2;clear hb2;go_wp2;go_ret;exact⟨rfl,HB2.out⟩
theorem QT{w:af}{FC:Nat}{rc cp:Array Value}{ad:Q02}{bs:List Bool}(cap:Nat)(hl:bs.length<=1000)(hs:Ul w FC rc cp ad bs)(w1:af)(hb:ae w w1):
  Calls prog 278 #[.agg #[.slice ad bs.length cap],.func (Fn.func FC) rc cp] w1 fun e w'=>e=.returned (.bool (bs.all id))/\ae w1 w':=by
 obtain⟨W0,hW0⟩:∃W0,W0=(w1.alloc (.cells #[.slice ad bs.length cap] 248)).alloc (.cells #[.func (Fn.func FC) rc cp] 108):=⟨_,rfl⟩;have HB0:Hid (ae w1 W0):=by show Below _ _ _;rw[hW0];exact((Vb _ _).alloc (Va _) _).alloc (by simp) _
 have c0:W0.cell? ⟨w1.heap.size+1,0,none⟩=some (.func (Fn.func FC) rc cp):=by rw[hW0];simp
 have cl:=aC c0;have Wx:Hid (ae w W0):=hb.trans (HB0.out.mono hb.size);have HC:=ai (tV 279 #[] #[.pointer (some ⟨w1.heap.size+1,0,none⟩)] (bs.map (!·)) ad cap W0 (by simpa using hl) Uk (by
  rcases hs with h|⟨g,e,h1,h2⟩
  ·exact .inl (by first|exact h|(rw[h];rfl))
  refine .inr ⟨g,e,U9 h1 Wx.out.size,fun i hi=>?_⟩;obtain⟨u,hu,hf⟩:=h2 i (by simpa using hi);refine⟨u,aI Wx.out h1 hu,fun w2 hb2=>?_⟩;have h:=NN hf (Wx.out.trans (hb2.mono Wx.out.size)) (aI hb2 cl c0);simpa using h))
 have hlm:(bs.map (!·)).length=bs.length:=VN _;rw[hlm]at HC;have HE:Hid ((bs.map (!·)).any id=!(bs.all id)):=by
  show _=_;clear HC hs hl hlm hW0 c0 cl Wx HB0
  induction bs with
  | nil=>rfl
  | cons b bs ih=>rw[Wn,Wo,ih,List.all_cons];cases b<;>simp
 clear hs hb;go_enter func278,ntmps278;go_wp2_with fail;rw[<-hW0];clear hW0 c0 cl;refine HC.out.mono ?_;rintro e w2 ⟨rfl,hb2⟩;have HB2:=jF HB0 hb2;clear hb2;rw[HE.out];go_wp2;go_ret;exact⟨by simp,HB2.out⟩
theorem KG.below{w w':af}{FC:Nat}{rc cp:Array Value}{u:Value}{b:Bool}(h:KG w FC rc cp u b)(hb:ae w w'):KG w' FC rc cp u b:=by
 obtain⟨T,a,e,hk,hc⟩:=h;exact⟨T,a,e,hk,fun w1 h1=>hc w1 (hb.trans (h1.mono hb.size))⟩
theorem IC{FC:Nat}{rc cp:Array Value}{K:Fc->Bool}{S:Nat->Prop}:∀(n:Nat) (w:af) (v:Value) (G:Ru),KnF w FC rc cp K->aP w S n v G->KG w FC rc cp v (G K)
 | 0,_,_,_,_,h=>h.elim
 | n+1,w,v,G,hK,h=>by
  have row:∀{ad:Q02} {Gs:List Ru},Cg w S (aP w S n) ad Gs->Ul w FC rc cp ad (Gs.map fun H=>H K):=fun {ad Gs} h=>by
   rcases h with h|⟨g,e,h1,h2,h3⟩
   ·exact .inl (by rw[h];rfl)
   refine .inr ⟨g,e,h2,fun i hi=>?_⟩;obtain⟨u,hu,hp⟩:=h3 i (by simpa using hi);refine⟨u,hu,?_⟩;rw[List.getElem_map];exact IC n w u _ hK hp
  rcases h with⟨b,rfl,rfl⟩|⟨ad,cap,fs,rfl,hz,h1,h2,h3,rfl⟩|⟨ad,cap,Gs,rfl,h1,h2,rfl⟩|⟨ad,cap,Gs,rfl,h1,h2,rfl⟩
  ·exact⟨_,_,rfl,.inl ⟨rfl,_,rfl⟩,fun w1 hb=>IB b _ w1⟩
  ·exact⟨_,_,rfl,.inr ⟨.inl rfl,_,_,_,rfl⟩,fun w1 hb=>SC (hK.below hb) (by have:=h2.1;omega) (h1.below hb) h3⟩
  ·refine⟨_,_,rfl,.inr ⟨.inr (.inl rfl),_,_,_,rfl⟩,fun w1 hb=>?_⟩;have h:=QS cap (by rw[VN];omega) (row h2) w1 hb;rw[VN,List.any_map]at h;exact h
  refine⟨_,_,rfl,.inr ⟨.inr (.inr rfl),_,_,_,rfl⟩,fun w1 hb=>?_⟩;have h:=QT cap (by rw[VN];omega) (row h2) w1 hb;rw[VN,List.all_map]at h;exact h
section
variable  [DecidableEq Fc]
theorem CO(ad:Q02)(cap:Nat)(fs:Q04)(w:af)(hl:fs.length<=1048576)(hs:kw w ad fs)(hf:∀x∈fs,x.fits):
  Calls prog 67 #[.slice ad fs.length cap] w fun e w'=>(∃b n,e=.returned (.map (some b))/\aM jf prog 29 w' b n (uK fs))/\ae w w':=by
 have hmm:=@run_makeMap prog;obtain⟨W0,hW0⟩:∃W0,W0=w.alloc (.map #[] 0):=⟨_,rfl⟩;have HB0:=mi hW0;have Z8:Hid (aM jf prog 29 W0 w.heap.size 0 (uK (fs.take 0))):=by
  have h:=kr jf prog 29 w;show aM _ _ _ _ _ _ _;rw[hW0];exact h
 have hz0:w.heap.size<W0.heap.size:=by rw[hW0];simp
 have HS:=ai hs;have HF:=ai hf;clear hs hf;go_enter func67,ntmps67;go_wp2_with fail;rw[<-hW0];clear hW0 hmm;go_loopw[9] (fun i wr=>∃k:Nat,k<=fs.length/\i=.int .i64 k/\Hid (aM jf prog 29 wr w.heap.size k (uK (fs.take k)))/\Hid (ae w wr)/\Hid (w.heap.size<wr.heap.size)) (fun i _=>fs.length-(intOf i).toNat);case atStart=>exact⟨0,Vf _,rfl,Z8,HB0,hz0⟩
 clear Z8 HB0 hz0;obtain⟨k,hk,rfl,HV,HB,HZ⟩:=hrel;by_cases hlt:k<fs.length
 ·obtain⟨b,off,Wt,⟨t0,t1,t2,t3,t4⟩,hbl⟩:=kw.at0 (HS.out.below HB.out) hlt;have hi1:=bC k;have hi2:(k:Int)<(fs.length:Int):=by omega
  have HT:Hid (fs.take (k+1)=fs.take k++[fs[k]]):=Ve hlt;obtain⟨kl,hkl⟩:=vW fs[k] (HF.out _ (U8 hlt));obtain⟨x,hx⟩:∃x,x=fs[k]:=⟨_,rfl⟩;rw[<-hx]at t0 t1 t2 t3 t4 HT hkl;have Xz:=ai hkl;clear hx hkl;obtain⟨W1,hW1⟩:∃W1,W1=wr.alloc (.cells #[.string x.a,.string x.b,.string x.r,.string x.c,.string x.d] 29):=⟨_,rfl⟩;have WZ:=mi hW1;have HV1:=ai (HV.out.below WZ.out);have HB1:=ai (HB.out.trans (WZ.out.mono HB.out.size));have hz1:w.heap.size<W1.heap.size:=U9 HZ.out WZ.out.size;subst Wt;clear HV HB WZ;go_wp2_with(at_mapUpdate;rw[<-hW1];clear hW1;refine jd _ rfl _ _ _ 107 rfl 29 113 E5 AO underlying107 w.heap.size k _ rfl HV1.out (by unfold maxLen;omega) x kl rfl Xz.out (.agg #[]) rfl ?_);intro w2 hM2 hg2;have HV2:Hid (aM jf prog 29 w2 w.heap.size (k+1) (uK (fs.take (k+1)))):=by show aM _ _ _ _ _ _ _;rw[HT.out,<-FU];exact hM2
  have HB2:Hid (ae w w2):=HB1.out.grown hg2 HB1.out.size (fun g hg=>by injection hg with hg;omega);have HZ2:Hid (w.heap.size<w2.heap.size):=U9 hz1 hg2.size;clear hM2 hg2 t0 t1 t2 t3 t4;go_wp2;go_roundw;case rel=>exact⟨k+1,by omega,by go_num,HV2,HB2,HZ2⟩
  simp[intOf]<;>omega
 have HVE:Hid (aM jf prog 29 wr w.heap.size k (uK fs)):=by
  have h:=HV.out;rw[VE (by omega)]at h;exact h
 go_wp2;go_ret;exact⟨⟨_,_,rfl,HVE.out⟩,HB.out⟩
end
end Go.Proofs.YtajkkeikihhejaaGreat
