/- The iterator over what a round finds: what holds by the facts that are known, and is not known itself. -/
import Derived.Test.YtojjoblnpldniaaGreatSq
import Derived.Test.YtojjoblnpldniaaGreatJ13
import Derived.Maps.OwnIn
import Derived.Test.YtojjoblnpldniaaGreatJ15
open Go.Proofs.Tryz
set_option maxHeartbeats 80000000
set_option linter.defProp false
namespace Go.Proofs.YtojjoblnpldniaaGreat
set_option linter.unusedVariables false
set_option maxRecDepth 100000
open ChangeShapes WideShapes ChangeAt RowKit Maps Go.Shelf
open Pl
attribute [local go_sem] Oper.semAt_some
def Mk{n m:Nat}{P:Program}{l:Nat}{f:FuncId}{tmps:Array Value}{assign body:Code}{w:af}{R:Ending->World->Prop}(h:RoundIn Fence.wide n P l f tmps assign body w R):RoundIn Fence.wide m P l f tmps assign body w R :=
 ⟨h.1,fun c cs _=>h.2 c cs<|room_wide _⟩
def CZ(D:Nat)(sn:Int)(YT:Q02)(nU Yj:Nat)(w:af):
  Calls prog 202 #[.pointer (some<|am D),.int .i64 sn,.slice YT nU Yj] w fun e w'=>e=.returned (.func (.func 269) #[] #[.pointer (some<|am w.heap.size),.pointer<|some<|am<|w.heap.size+1,.pointer<|some<|am<|w.heap.size+1+1])/\w'=((w.alloc<|.cells #[.pointer (some<|am D)] 92).alloc<|.cells #[.int .i64 sn] 2).alloc (.cells #[.slice YT nU Yj] 192):=by
 go_enter func202,ntmps202;go_wp2;go_ret;exact⟨rfl,rfl⟩
def GL(D:Nat)(sn:Int)(YT:Q02)(nU Yj:Nat)(bK:Nat)(w:af):
  Calls prog 135 #[.pointer (some<|am D),.int .i64 sn,.slice YT nU Yj,.map<|some bK] w fun e w'=>e=.returned (.func (.func 201) #[] #[.pointer (some<|am w.heap.size),.pointer<|some<|am<|w.heap.size+1,.pointer<|some<|am<|w.heap.size+1+1,.pointer<|some<|am<|w.heap.size+1+1+1])/\w'=(((w.alloc<|.cells #[.pointer (some<|am D)] 92).alloc<|.cells #[.int .i64 sn] 2).alloc<|.cells #[.slice YT nU Yj] 192).alloc (.cells #[.map (some bK)] 115):=by
 go_enter func135,ntmps135;go_wp2;go_ret;exact⟨rfl,rfl⟩
structure NewM(W:World)(rs:Q06)(Zk:Q02)(D br bp bt:Nat)(n1:Int)(nr:Nat)(Mr:KL->Option Value)(Er:List<|KL×RR)(ts:Q05)(xo xu:Q0a)(np:Nat)(Mp:K3->Option Value)(vo vu:Value)(bK:Nat)(out:Q04)(hD hS hU hK:Nat)(sn:Int)(YT:Q02)(Yj:Nat)(us:Q0a):Prop where
 dat:DatA W rs D br bp bt n1 nr Mr Er (dY ts) xo xu np Mp vo vu
 sch:jX W Zk rs
 map:∃nK,aN oH prog 52 W bK nK (De out)
 bD:W.cell? ⟨hD,0,none⟩=some (.pointer<|some ⟨D,0,none⟩)
 bS:W.cell? ⟨hS,0,none⟩=some (.int .i64 sn)
 bU:W.cell? ⟨hU,0,none⟩=some (.slice YT us.length Yj)
 bM:W.cell? ⟨hK,0,none⟩=some (.map<|some bK)
 users:kV W YT us
def VE(l:Nat):Value:=.func (.yield l) #[] #[]
def iC(W:World)(g:Nat)(v:Value)(T:TypeId):Prop:=W.heap[g]?=some (.cells #[v] T (0,0))
def iC.c{W:af}{g:Nat}{v:Value}{T:TypeId}(h:iC W g v T):W.cell? (am g)=some v:=by
 unfold iC at h;simp[World.cell?,h]
def iC.kp{b l:Nat}{W W':af}{g:Nat}{v:Value}{T:TypeId}(h:iC W g v T)(hk:KpO b l W W')(h1:T≠52)(h2:T≠44):iC W' g v T:=hk.cells g _ _ _ h h1 h2
def iC.bel{W W':af}{g:Nat}{v:Value}{T:TypeId}(h:iC W g v T)(hb:ag W W'):iC W' g v T:=(hb.block g (WQ.1 h).1).trans h
structure NBx(W:World)(B l D:Nat)(sn:Int)(vU:Value):Prop where
 y:iC W B (VE l) 119
 d:iC W (B+1) (.pointer<|some ⟨D,0,none⟩) 92
 s:iC W (B+1+1) (.int .i64 sn) 2
 u:iC W (B+1+1+1) vU 192
def NBx.kp{b l0:Nat}{W W':af}{B l D:Nat}{sn:Int}{vU:Value}(h:NBx W B l D sn vU)(hk:KpO b l0 W W'):NBx W' B l D sn vU :=
 ⟨h.y.kp hk cv cv,h.d.kp hk cv cv,h.s.kp hk cv cv,h.u.kp hk cv cv⟩
def NBx.bel{W W':af}{B l D:Nat}{sn:Int}{vU:Value}(h:NBx W B l D sn vU)(hb:ag W W'):NBx W' B l D sn vU:=⟨h.y.bel hb,h.d.bel hb,h.s.bel hb,h.u.bel hb⟩
def Ul{β:Type}{B0 B l D:Nat}{sn:Int}{vU:Value}(hB:B+1+1+1<B0):OwnFrom B0 (fun(_:β) W=>NBx W B l D sn vU):=fun s X Y row hs hg hr=>by
 have key:∀g v T,g<B0->iC X g v T->iC Y g v T:=fun g v T hl h=>(hg.block g (WQ.1 h).1 fun e=>by have:=(hr g e.symm).1;omega).trans h;exact⟨key _ _ _ cq hs.y,key _ _ _ cq hs.d,key _ _ _ cq hs.s,key _ _ _ cq hs.u⟩
def DF(W:World)(g:Nat)(x:Fc):Prop:=W.heap[g]?=some (.cells #[.string x.a,.string x.b,.string x.r,.string x.c,.string x.d] 52 (0,0))
def DF.c{W:af}{g:Nat}{x:Fc}(h:DF W g x):W.cell? (am g)=some (.string x.a)/\W.cell? (aq g 1)=some (.string x.b)/\W.cell? (aq g 2)=some (.string x.r)/\W.cell? (aq g 3)=some (.string x.c)/\W.cell? (aq g 4)=some (.string x.d)/\g<W.heap.size:=by
 have hl:=(WQ.1 h).1;unfold DF at h;exact⟨by simp[World.cell?,h],by simp[World.cell?,h],by simp[World.cell?,h],by simp[World.cell?,h],by simp[World.cell?,h],hl⟩
def DF.bel{W W':af}{g:Nat}{x:Fc}(h:DF W g x)(hb:ag W W'):DF W' g x:=(hb.block g (WQ.1 h).1).trans h
def JE{B0 g:Nat}{x:Fc}:OwnFrom B0 (fun(_:Unit) W=>DF W g x):=fun s X Y row hs hg hr=>by
 refine(hg.block g (WQ.1 hs).1 fun e=>?_).trans hs;obtain⟨-,o,ho,hc⟩:=hr g e.symm;rw[show X.heap[g]?=_ from hs]at ho;cases ho;cases hc
def Su{l' m:Nat}{P:Program}{f:FuncId}{args:Array Value}{w:af}{R:Ending->World->Prop}(h:Calls P f args w R):CallsIn (Fence.wide.inRound l') m P f args w R:=(callsIn_wide (n:=m)).2 h
def VF{l' n m:Nat}{P:Program}{l:Nat}{f:FuncId}{tmps:Array Value}{assign body:Code}{w:af}{R:Ending->World->Prop}(h:RoundIn Fence.wide n P l f tmps assign body w R):RoundIn (Fence.wide.inRound l') m P l f tmps assign body w R:=Mk (m:=m) h
def zH{B:Nat}{W W':af}(h:ag W W'):KeepsFrom B W W':=⟨h.size,fun k o _ hk _=>(h.block k (WQ.1 hk).1).trans hk⟩
def Sv{B b l:Nat}{W W':af}(h:KpO b l W W')(hl:l<B)(hb:b<B):KeepsFrom B W W':=⟨h.size,fun k o hB hk hc=>h.other k o hk hc cq cq⟩
def JF{rs:Q06}{st:Q00}{xo us:Q0a}{sn:Int}{x:Fc}(hof:∀o∈xo,o.t.size<=maxLen/\o.s.size<=maxLen)(huf:∀o∈us,o.t.size<=maxLen/\o.s.size<=maxLen)(hrf:∀k∈ay (ae rs),k.2.size<=maxLen)(h:x∈cu (ae rs) st xo us sn):(x.a,x.r)∈ay (ae rs)/\x.fits:=by
 unfold cu yE at h;obtain⟨o,ho,h⟩:=Xd.1 h;obtain⟨k,hk,h⟩:=Xd.1 h;obtain⟨u,hu,rfl⟩:=WV.1 h;obtain⟨h1,h2⟩:=XM.1 hk;rw[WM,gu]at h2;have e:(o.t,k.2)=k:=Prod.ext h2.1.symm rfl;refine⟨?_,(hof o ho).1,(hof o ho).2,hrf k h1,(huf u hu).1,(huf u hu).2⟩;show(o.t,k.2)∈_;rw[e];exact h1
def Pv[DecidableEq Fc](n:Nat)(hn:4<=n)(rs:Q06)(Zk:Q02)(D br bp bt:Nat)(n1:Int)(nr:Nat)(Mr:KL->Option Value)(st:Q00)(ts:Q05)(Zn:Q02)(Yp:Nat)(xo xu:Q0a)(np:Nat)(Mp:K3->Option Value)(vu:Value)(bK:Nat)(Zl:Q04)(hD hS hU hK:Nat)(sn:Int)(YT:Q02)(Yj:Nat)(us:Q0a)(w0:af)(hs0:0<=sn)(hs1:sn<=1000)(hol:xo.length<=1000)(hul:us.length<=1000)(hrl:∀k,(G.lookL (fK st rs) k).length<=1000)(hsh:bB (ae rs)=true)(hts:∀t∈ts,t.fits)(htl:ts.length<=1000)(hof:∀o∈xo,o.t.size<=maxLen/\o.s.size<=maxLen)(huf:∀o∈us,o.t.size<=maxLen/\o.s.size<=maxLen)(hrf:∀k∈ay (ae rs),k.2.size<=maxLen):
  F6 Fence.wide n prog 201 #[.pointer (some<|am hD),.pointer<|some<|am hS,.pointer<|some<|am hU,.pointer<|some<|am hK] Ff (KpO bK) (fun pre W=>NewM W rs Zk D br bp bt n1 nr Mr (fK st rs) ts xo xu np Mp (.slice Zn xo.length Yp) vu bK (Zl++pre) hD hS hU hK sn YT Yj us) (fun pre x=>x∈cu (ae rs) st xo us sn/\x ∉ Zl++pre) (fun xs=>dU (eH (ae rs) ts) (cu (ae rs) st xo us sn) Zl=Zl++xs) w0:=by
 intro l J W _ hlW _ hJ hT hY h0;have hM:=hT _ _ h0;obtain⟨nK0,hmap0⟩:=hM.map;have hbK:=hmap0.lt;have bD:=hM.bD;have bS:=hM.bS;have bU:=hM.bU;have lD:=bQ bD;have lS:=bQ bS;have lU:=bQ bU;obtain⟨W1,hW1⟩:=eQx<|W.alloc<|.cells #[.func (.yield l) #[] #[]] 119;have hB1:ag W W1:=by rw[hW1];exact(WL _ _).alloc (WK _) _
 have s1:W1.heap.size=W.heap.size+1:=by rw[hW1,World.size_alloc]
 have y1:iC W1 W.heap.size (VE l) 119:=by rw[hW1];exact World.alloc_heap_new W _
 have bD1:=iH hB1 lD bD;have bS1:=iH hB1 lS bS;have bU1:=iH hB1 lU bU;clear hM hmap0;refine callsIn_of_wp_marks func201 rfl trivial ?_ rfl;simp only[ntmps201,List.size_toArray,Xq,XQ,Nat.reduceAdd,Nat.reduceSub,Array.replicate_succ,Array.replicate_zero,List.push_toArray,List.append_toArray,XR,XB]
 gi_wp2_with fail
 rw[<-hW1];clear hW1;refine⟨trivial,fun _=>cq,(callsIn_wide.2<|CZ D sn YT us.length Yj W1).mono ?_⟩;rintro e W2 ⟨rfl,hW2⟩;have hB2:ag W1 W2:=by rw[hW2];exact(((WL _ _).alloc (WK _) _).alloc ct _).alloc (by simp;omega) _
 have s2:W2.heap.size=W.heap.size+1+1+1+1:=by rw[hW2,World.size_alloc,World.size_alloc,World.size_alloc,s1]
 have NB:NBx W2 W.heap.size l D sn (.slice YT us.length Yj):=by
  obtain⟨V1,e1⟩:∃V,V=W1.alloc (.cells #[.pointer (some<|am D)] 92):=⟨_,rfl⟩;obtain⟨V2,e2⟩:∃V,V=V1.alloc (.cells #[.int .i64 sn] 2):=⟨_,rfl⟩;rw[<-e1,<-e2]at hW2;have t1:V1.heap.size=W.heap.size+1+1:=by rw[e1,World.size_alloc,s1]
  have t2:V2.heap.size=W.heap.size+1+1+1:=by rw[e2,World.size_alloc,t1]
  have f1:ag W1 V1:=by rw[e1];exact(WL _ _).alloc (WK _) _
  have f2:ag V1 V2:=by rw[e2];exact(WL _ _).alloc (WK _) _
  have f3:ag V2 W2:=by rw[hW2];exact(WL _ _).alloc (WK _) _
  have g1:iC V1 (W.heap.size+1) (.pointer<|some<|am D) 92:=by rw[e1,<-s1];exact World.alloc_heap_new W1 _
  have g2:iC V2 (W.heap.size+1+1) (.int .i64 sn) 2:=by rw[e2,<-t1];exact World.alloc_heap_new V1 _
  have g3:iC W2 (W.heap.size+1+1+1) (.slice YT us.length Yj) 192:=by rw[hW2,<-t2];exact World.alloc_heap_new V2 _
  exact⟨((y1.bel f1).bel f2).bel f3,(g1.bel f2).bel f3,g2.bel f3,g3⟩
 have hB02:ag W W2:=hB1.trans<|hB2.mono hB1.size;have J2:=oo hJ h0 hB02;rw[s1];clear hW2 y1 bD bS bU bD1 bS1 bU1 hB1 hB2 lD lS lU;gi_wp2
 refine rR (α:=Fc) rfl cq (gf:=269) (lb:=#[.pointer (some<|am<|W.heap.size+1),.pointer<|some<|am<|W.heap.size+1+1,.pointer<|some<|am<|W.heap.size+1+1+1]) rfl trivial (enters_of func269 cw rfl)
  (R4 (n-1) cq D br nr Mr st rs Zn Yp xo (W.heap.size+1) (W.heap.size+1+1) (W.heap.size+1+1+1) sn YT Yj us W2 hs0 hs1 hol hul hrl fun o ho=>(hof o ho).1) (WL _ _) (fun _=>rfl) (fun h k=>h.trans k) (fun X lx o o' h1 h2=>KpI.put h1 h2)
  (fun pre X=>(∃xs,dU (eH (ae rs) ts) pre Zl=Zl++xs/\J xs X)/\NBx X W.heap.size l D sn (.slice YT us.length Yj))
  ?own ?tell ⟨⟨[],by rw[XL];rfl,J2⟩,NB⟩
  (fun x a' X=>∃Bx,DF X Bx x/\a'={ tmps:=#[.func (.yield l) #[] #[],.pointer<|some<|am hD,.pointer<|some<|am hS,.pointer<|some<|am hU,.pointer<|some<|am hK,.pointer<|some<|a7 W,.pointer<|some<|am Bx,.pointer<|some<|am D,.int .i64 sn,.slice YT us.length Yj,.func (.func 269) #[] #[.pointer (some<|am<|W.heap.size+1),.pointer<|some<|am<|W.heap.size+1+1,.pointer<|some<|am<|W.heap.size+1+1+1],.agg<|cf x,undef,undef,undef,undef,undef,undef,undef,undef,undef,undef,undef,undef,undef,undef,undef,undef],defers:=[] })
  (fun x a' s X Y row hs hg hr=>by obtain⟨Bx,h,e⟩:=hs;exact⟨Bx,JE (B0:=W2.heap.size) (g:=Bx) (x:=x) () X Y row h hg hr,e⟩) ?assign ?body ?done
 case own =>
  refine OwnFrom.and (fun pre X Y row hs hg hr=>?_) (Ul cq);obtain⟨xs,h1,h2⟩:=hs;exact⟨xs,h1,hJ xs X Y row h2 hg fun r e=>⟨by have:=(hr r e).1;have:=hB02.size;omega,(hr r e).2⟩⟩
 case tell =>
  rintro pre X ⟨⟨xs,h1,h2⟩,hb⟩;have hm:=hT _ _ h2;obtain⟨Yh,cap',e,hso⟩:=uy hm.dat.dat.objs;injection e with ea eb ec;exact⟨hm.dat.dat.c2,hm.dat.dat.c4,by rw[ea];exact hso,hm.dat.rel,hb.d.c,hb.s.c,hb.u.c,hm.users⟩
 case assign =>
  rintro l' pre x X K ⟨⟨xs,h1,h2⟩,hb⟩ hKK;unfold Ff;gi_wp2;have hbl:ag X (X.alloc<|.cells (cf x) 52):=(WL _ _).alloc (WK _) _;exact hKK _ _ ((KeepsOthers.alloc _ _).from _) (KpI.below hbl) ⟨⟨xs,h1,oo hJ h2 hbl⟩,hb.bel hbl⟩ ⟨X.heap.size,World.alloc_heap_new X _,rfl⟩
 case body =>
  rintro l' pre x a' X hl hEx ⟨⟨xs,hrun,hJx⟩,NBX⟩ ⟨Bx,bX,rfl⟩;have hm:=hT _ _ hJx;obtain⟨nK,hmap⟩:=hm.map;obtain⟨c0,c1,c2,c3,c4,cl⟩:=bX.c;have bM:=hm.bM;have lM:=bQ bM;obtain⟨hkey,hxf⟩:=JF hof huf hrf hEx
  gi_wp2_with fail
  refine⟨trivial,fun _=>cq,(Su<|xB bK nK (Zl++xs) x X hxf hmap).mono ?_⟩;rintro e X2 ⟨rfl,hb2⟩;have J2':=oo hJ hJx hb2;have NB2:=NBX.bel hb2;cases hh:gJ (Zl++xs) x;case true=>
   have hr2:dU (eH (ae rs) ts) (pre++[x]) Zl=Zl++xs:=by rw[yL,hrun,Jh<|.inl hh]
   clear c0 c1 c2 c3 c4 cl bM lM hm;gi_wp2;refine⟨trivial,?_⟩;gi_wp2;refine⟨fun f h=>(by cases h),?_⟩;gi_wp2;exact⟨zH hb2,KpI.below hb2,⟨xs,hr2,J2'⟩,NB2⟩
  have bX2:=bX.bel hb2;have hm2:=hT _ _ J2';obtain⟨nK2,hmap2⟩:=hm2.map;have bM2:=hm2.bM;have bD2:=hm2.bD;obtain⟨d0,d1,d2,d3,d4,dl⟩:=bX2.c;clear c0 c1 c2 c3 c4 cl bM lM hm
  gi_wp2_with fail
  refine⟨trivial,fun _=>cq,(Su<|O8 hm2.dat hmap2 hxf hts htl hsh hkey hm2.sch).mono ?_⟩;rintro e X3 ⟨rfl,hb3⟩;have hb23:ag X X3:=hb2.trans<|hb3.mono hb2.size;have J3':=oo hJ J2' hb3;have NB3:=NB2.bel hb3;clear hm2;cases hv:eH (ae rs) ts (Zl++xs) x;case false=>
   have hr2:dU (eH (ae rs) ts) (pre++[x]) Zl=Zl++xs:=by rw[yL,hrun,Jh<|.inr hv]
   clear d0 d1 d2 d3 d4 dl bM2 bD2;gi_wp2;refine⟨fun f h=>(by cases h),?_⟩;gi_wp2;exact⟨zH hb23,KpI.below hb23,⟨xs,hr2,J3'⟩,NB3⟩
  have hr2:dU (eH (ae rs) ts) (pre++[x]) Zl=Zl++(xs++[x]):=by rw[yL,hrun,OV hh hv,Xg]
  obtain⟨fn,tmps,assign,body,hy,hR⟩:=hY xs x X3 J3' ⟨hEx,fun hm=>by rw[bf.2 hm]at hh;cases hh⟩;unfold Ff at hy;obtain⟨f0,f1,f2,f3,f4,fl⟩:=(bX2.bel hb3).c;have yc:=NB3.y.c;have yl:=bQ yc;unfold VE at yc;clear d0 d1 d2 d3 d4 dl bM2 bD2;gi_wp2;refine⟨fun _=>cq,(VF hR).mono ?_⟩;rintro e X4 ⟨rfl,hJ4,hK4⟩;have hk24:KpO bK l X X4:=(KpO.below hb23).trans hK4;have NB4:=NB3.kp hK4;clear f0 f1 f2 f3 f4 fl yc yl hy;gi_wp2;exact⟨Sv hk24 cq cq,hk24.toI,⟨xs++[x],hr2,hJ4⟩,NB4⟩
 case done =>
  rintro Dd ys X hDd hS ⟨⟨xs,h1,h2⟩,-⟩ hKd;rw[hS]at h1;gi_wp2;refine⟨ct,.inl ⟨_,_,rfl,run_takeDeferred hKd,?_⟩⟩;exact⟨_,results_none rfl _ _ _,⟨_,rfl⟩,xs,h1,hJ.putObj _ h2 (by have:=hB02.size;omega) hKd rfl⟩
end Go.Proofs.YtojjoblnpldniaaGreat
namespace Go.Proofs.YtojjoblnpldniaaGreat
set_option linter.unusedVariables false
set_option maxRecDepth 100000
open ChangeShapes WideShapes ChangeAt RowKit Maps Go.Shelf
open Pl
def Aa{K:Type}{enc:K->Value}{P:Program}{F:Fence}{nF:Nat}(w:af){ops:Array Oper}{rest:List Oper}{o:Oper}{a:Act}{Q:Exit->Act->World->Prop}[DecidableEq K](hg:o.guard=none)(m x v:Operand)(t:TypeId)(hop:o.op=Op.mapUpdate t m x v)(k e:TypeId)(L:Keyed P k)(hinj:∀x y,enc x=enc y->x=y)(ht:P.underlying t=some (.map k e))(b n:Nat)(M:K->Option Value)
  (hm:a.eval m=.map (some b)) (hV:aN enc P k w b n M) (hn:n<maxLen) (y:K) (kl:Lit) (hx:a.eval x=enc y) (hkey:keyOf P k (enc y)=some kl) (u:Value) (hv:a.eval v=u)
  (hK:∀w',aN enc P k w' b (n+1) (l6 M y<|some u)->w.grownBy w' (some b)->wpListIn F nF P ops Q rest (a.put o.dst undef) w'):wpListIn F nF P ops Q (o::rest) a w:=by
 refine wpListIn_plain hg fun K' hK'=>?_;obtain⟨w',hrun,r1,r2⟩:=hV.store L hinj ht hn hkey u;unfold Oper.wpIn;refine⟨by simp[Oper.about,hop],?_⟩;rw[Oper.semAt_plain F _ _ (by rw[hop];intro c hc';cases hc')];simp[execOp,hop,hm,hx,hv,hrun,Result.andThen];exact hK' _ _<|hK w' r1 r2
def Um[DecidableEq Fc](out:Q04)(f:Fc):l6 (De out) f (some<|.agg #[])=De (out++[f]):=by
 funext y
 by_cases e:y=f
 ·subst e;rw[fu];unfold De;rw[if_pos (bf.2 ct)]
 rw[dh e];unfold De;have:gJ (out++[f]) y=gJ out y:=by
  rw[Xe,bf,bf];simp[e]
 rw[this]
def marks(rl:List Nat):List Deferred:=rl.map fun r=>{ target:=.collected r,args:=#[] }
def jG(W:World)(rl:List Nat):Prop:=rl.Nodup/\∀r∈rl,W.heap[r]?=some (.deferred<|some [])
def jG.kp{b l:Nat}{W W':af}{rl:List Nat}(h:jG W rl)(hk:KpO b l W W')(hl:l ∉ rl)(hb:b ∉ rl):jG W' rl :=
 ⟨h.1,fun r hr=>hk.other r _ (h.2 r hr) rfl (fun e=>hl<|e ▸ hr) (fun e=>hb<|e ▸ hr)⟩
def jG.bel{W W':af}{rl:List Nat}(h:jG W rl)(hb:ag W W'):jG W' rl :=
 ⟨h.1,fun r hr=>(hb.block r (WQ.1<|h.2 r hr).1).trans<|h.2 r hr⟩
def jG.lt{W:af}{rl:List Nat}(h:jG W rl){r:Nat}(hr:r∈rl):r<W.heap.size:=(WQ.1<|h.2 r hr).1
def xP{n:Nat}{P:Program}{fn:Func}{tmps:Array Value}{R:Ending->World->Prop}(B:Nat)(Inv:World->Prop)(hinv:∀W r,B<r->Inv W->W.heap[r]?=some (.deferred<|some [])->Inv (W.putObj r<|.deferred none))(hend:∀W,Inv W->LeavesIn Fence.wide n P fn tmps R [] .returning W):∀(rl:List Nat) (W:af),jG W rl->(∀r∈rl,B<r)->Inv W->LeavesInM Fence.wide n P fn tmps R (marks rl) .returning W
 | [],W,_,_,hI=>hend W hI
 | r::rl,W,hm,hB,hI=>by
  have hr:=hm.2 r ct;obtain⟨h1,h2⟩:=List.nodup_cons.1 hm.1;refine⟨ct,.inl ⟨r,_,rfl,run_takeDeferred hr,xP B Inv hinv hend rl _ ⟨h2,fun q hq=>?_⟩ (fun q hq=>hB q<|by simp[hq]) (hinv W r (hB r ct) hI hr)⟩⟩;have hne:q≠r:=fun e=>h1<|e ▸ hq;rw[pM hne];exact hm.2 q (by simp[hq])
def Ng{b l:Nat}{W W':af}{base size n:Nat}{T:TypeId}{v:Value}{xs:Q03}(h:W.ownsRow base T size v n xs)(hk:KpO b l W W')(h1:T≠52)(h2:T≠44):W'.ownsRow base T size v n xs :=
 fA h fun g hg=>by
  obtain⟨cur,e⟩:=kr h hg;rw[hk.cells g _ _ _ e h1 h2,e]
structure FBx(W:World)(B D:Nat)(sn:Int)(vU:Value)(bK:Nat):Prop where
 d:iC W B (.pointer<|some ⟨D,0,none⟩) 92
 s:iC W (B+1) (.int .i64 sn) 2
 u:iC W (B+1+1) vU 192
 k:iC W (B+1+1+1) (.map<|some bK) 115
def FBx.kp{b l0:Nat}{W W':af}{B D:Nat}{sn:Int}{vU:Value}{bK:Nat}(h:FBx W B D sn vU bK)(hk:KpO b l0 W W'):FBx W' B D sn vU bK :=
 ⟨h.d.kp hk cv cv,h.s.kp hk cv cv,h.u.kp hk cv cv,h.k.kp hk cv cv⟩
def Un(w:af)(D:Nat)(sn:Int)(vU:Value)(bK:Nat){W:af}(hW:W=(((w.alloc<|.cells #[.pointer (some<|am D)] 92).alloc<|.cells #[.int .i64 sn] 2).alloc<|.cells #[vU] 192).alloc (.cells #[.map (some bK)] 115)):FBx W w.heap.size D sn vU bK/\ag w W/\W.heap.size=w.heap.size+1+1+1+1:=by
 obtain⟨V1,e1⟩:∃V,V=w.alloc (.cells #[.pointer (some<|am D)] 92):=⟨_,rfl⟩;obtain⟨V2,e2⟩:∃V,V=V1.alloc (.cells #[.int .i64 sn] 2):=⟨_,rfl⟩;obtain⟨V3,e3⟩:∃V,V=V2.alloc (.cells #[vU] 192):=⟨_,rfl⟩;rw[<-e1,<-e2,<-e3]at hW;have t1:V1.heap.size=w.heap.size+1:=by rw[e1,World.size_alloc]
 have t2:V2.heap.size=w.heap.size+1+1:=by rw[e2,World.size_alloc,t1]
 have t3:V3.heap.size=w.heap.size+1+1+1:=by rw[e3,World.size_alloc,t2]
 have f1:ag w V1:=by rw[e1];exact(WL _ _).alloc (WK _) _
 have f2:ag V1 V2:=by rw[e2];exact(WL _ _).alloc (WK _) _
 have f3:ag V2 V3:=by rw[e3];exact(WL _ _).alloc (WK _) _
 have f4:ag V3 W:=by rw[hW];exact(WL _ _).alloc (WK _) _
 have g1:iC V1 w.heap.size (.pointer<|some<|am D) 92:=by rw[e1];exact World.alloc_heap_new w _
 have g2:iC V2 (w.heap.size+1) (.int .i64 sn) 2:=by rw[e2,<-t1];exact World.alloc_heap_new V1 _
 have g3:iC V3 (w.heap.size+1+1) vU 192:=by rw[e3,<-t2];exact World.alloc_heap_new V2 _
 have g4:iC W (w.heap.size+1+1+1) (.map<|some bK) 115:=by rw[hW,<-t3];exact World.alloc_heap_new V3 _
 have f12:=f1.trans<|f2.mono f1.size;have f13:=f12.trans<|f3.mono f12.size;exact⟨⟨((g1.bel f2).bel f3).bel f4,(g2.bel f3).bel f4,g3.bel f4,g4⟩,f13.trans<|f4.mono f13.size,by rw[hW,World.size_alloc,t3]⟩
def Uo{β:Type}{b l:Nat}{X:af}:OwnFrom X.heap.size (fun(_:β) Y=>KpO b l X Y):=fun s Y Z row hs hg hr=>by
 have key:∀ (g:Nat) (o:Obj),X.heap[g]?=some o->Y.heap[g]?=some o->Z.heap[g]?=some o:=fun g o h1 h2=>(hg.block g (WQ.1 h2).1 fun e=>by
  have h3:=(hr g e.symm).1;have h4:=(WQ.1 h1).1;omega).trans h2
 exact⟨WR hs.size hg.size,fun g cs T m h h1 h2=>key g _ h<|hs.cells g cs T m h h1 h2,fun g o h hc n1 n2=>key g _ h<|hs.other g o h hc n1 n2⟩
structure FoW(w X:World)(v:Value)(out:Q04):Prop where
 bel:ag w X
 box:iC X w.heap.size v 44
 row:X.ownsRow (w.heap.size+1) 52 5 v out.length (iK out)
 map:aN oH prog 52 X (w.heap.size+1) out.length (De out)
def FoW.below{w X X':af}{v:Value}{out:Q04}(h:FoW w X v out)(hb:ag X X'):FoW w X' v out :=
 ⟨h.bel.trans<|hb.mono h.bel.size,h.box.bel hb,gy h.row hb,h.map.below hb⟩
def FoW.kept{w X X':af}{v:Value}{out:Q04}(h:FoW w X v out){row:Option Nat}(hg:X.grownBy X' row)(hr:∀r,row=some r->w.heap.size+1<r/\(∃o,X.heap[r]?=some o/\o.isCells=false)):FoW w X' v out where
 bel:=h.bel.grown hg h.bel.size (fun g e=>by have:=(hr g e).1;omega)
 box:=(hg.block _ (WQ.1 h.box).1 fun e=>by have:=(hr _ e.symm).1;omega).trans h.box
 row:=fA h.row fun g hg2=>hg.block g (h.row.lt g hg2).2 fun e=>by
  obtain⟨-,o,ho,hc⟩:=hr g e.symm;obtain⟨cur,e2⟩:=kr h.row hg2;rw[e2]at ho;cases ho;cases hc
 map:=h.map.kept hg (fun e=>by have:=(hr _ e.symm).1;omega)
def FoW.step{w X Y V:af}{v v':Value}{out:Q04}{f:Fc}[DecidableEq Fc](h:FoW w X v out)(hM:aN oH prog 52 Y (w.heap.size+1) (out.length+1)<|l6 (De out) f<|some<|.agg #[])(hg1:X.grownBy Y<|some<|w.heap.size+1)
  {Y':World} (hY':ag Y Y') (hown:V.ownsRow (w.heap.size+1) 52 5 v' (out.length+1)<|iK out++f.row) (hg2:Y'.grownBy V v.ownBlock) (hat:v'.ownBlock=v.ownBlock\/v'.ownBlock=some Y'.heap.size) (l:Nat) :
  FoW w (V.setCell (am w.heap.size) v') v' (out++[f])/\KpO (w.heap.size+1) l X (V.setCell (am w.heap.size) v')/\KeepsFrom (w.heap.size+1+1) X (V.setCell (am w.heap.size) v'):=by
 obtain⟨es,c,hmb⟩:=qD h.map;have hlB:cW w X:=(WQ.1 h.box).1;have hvB:v.ownBlock≠some w.heap.size:=fun e=>by have:=(h.row.lt _ e).1;omega
 have hvM:v.ownBlock≠some (w.heap.size+1):=fun e=>Gi h.row e hmb;have key:∀(g:Nat) (o:Obj),X.heap[g]?=some o->g≠w.heap.size+1->g≠w.heap.size->v.ownBlock≠some g->(V.setCell (a7 w) v').heap[g]?=some o:=fun g o hg n1 n2 n3=>by
  have hl:=(WQ.1 hg).1;have y1:Y.heap[g]?=some o:=(hg1.block g hl fun e=>n1<|by injection e).trans hg;have hl1:=(WQ.1 y1).1;have y2:Y'.heap[g]?=some o:=(hY'.block g hl1).trans y1;have hl2:=(WQ.1 y2).1;have y3:V.heap[g]?=some o:=(hg2.block g hl2 fun e=>n3 e.symm).trans y2;exact(heap_setCell_other V ⟨w.heap.size,0,none⟩ g v' n2).trans y3
 have hVB:V.heap[w.heap.size]?=some (.cells #[v] 44 (0,0)):=by
  have y1:Y.heap[w.heap.size]?=_:=(hg1.block _ hlB fun e=>by injection e with e;omega).trans h.box;have y2:Y'.heap[w.heap.size]?=_:=(hY'.block _ (WQ.1 y1).1).trans y1;exact(hg2.block _ (WQ.1 y2).1 fun e=>hvB e.symm).trans y2
 have b1:ag w Y:=h.bel.grown hg1 h.bel.size (fun g e=>by injection e with e;omega);have b2:ag w Y':=b1.trans<|hY'.mono b1.size;have b3:ag w V:=b2.grown hg2 b2.size (fun g e=>by have:=(h.row.lt g e).1;omega);have sz:X.heap.size<=(V.setCell (a7 w) v').heap.size:=by
  have e1:=hg1.size;have e2:=hY'.size;have e3:=hg2.size;simp;omega
 refine⟨⟨b3.setCell (WK _) _,?_,?_,?_⟩,⟨sz,fun g cs T m hg h1 h2=>?_,fun g o hg hc n1 n2=>?_⟩,⟨sz,fun g o hB hg hc=>?_⟩⟩
 ·have:=heap_setCell_same V w.heap.size 0 #[v] _ v' hVB;unfold iC;simpa using this
 ·rw[LF,WP];exact fA hown fun g hg=>heap_setCell_other V ⟨w.heap.size,0,none⟩ g v' (fun(e:g=w.heap.size)=>by have:=(hown.lt g hg).1;omega)
 ·rw[WP,<-Um];exact((hM.below hY').kept hg2 fun e=>hvM e.symm).setCell (by show w.heap.size+1≠w.heap.size;omega) _
 ·refine key g _ hg (fun e=>?_) (fun e=>?_) (fun e=>?_)
  ·rw[e,hmb]at hg;cases hg
  ·rw[e,h.box]at hg;injection hg with hg;injection hg with _ hT;exact h2 hT.symm
  obtain⟨cur,e2⟩:=kr h.row e;rw[e2]at hg;injection hg with hg;injection hg with _ hT;exact h1 hT.symm
 ·refine key g _ hg n2 (fun e=>?_) (fun e=>?_)
  ·rw[e,h.box]at hg;injection hg with hg;subst hg;cases hc
  obtain⟨cur,e2⟩:=kr h.row e;rw[e2]at hg;injection hg with hg;subst hg;cases hc
 refine key g _ hg cq cq fun e=>?_;obtain⟨cur,e2⟩:=kr h.row e;rw[e2]at hg;injection hg with hg;subst hg;cases hc
def Ao.dropF{w:af}{ad:Q02}{fs:Q04}(h:Ao w ad fs)(k:Nat):Ao w (Option.map (fun x=>Addr.add x<|k*5) ad) (fs.drop k):=by
 rcases h with h|⟨b,off,e,hb,hr⟩
 ·exact .inl (by rw[h];simp)
 have ea:Option.map (fun x=>Addr.add x<|k*5) ad=some (aq b<|off+k*5):=by
  rw[e];simp[Addr.add]
 refine .inr ⟨b,off+k*5,ea,hb,fun i hi=>?_⟩;have hi2:k+i<fs.length:=by rw[XT]at hi;omega
 have h1:=hr (k+i) hi2;have e2:(fs.drop k)[i]=fs[k+i]:=ct;rw[e2];have e3:off+k*5+i*5=off+(k+i)*5:=cq;rw[e3];exact h1
def Uq{w:af}{base size n cap:Nat}{T:TypeId}{ad:Q02}{xs:Q03}(h:w.ownsRow base T size (.slice ad n cap) n xs):n<=cap:=by
 rcases h.2 with⟨e,h0⟩|⟨g,cap',cur,e,h1,h2,h3,h4,h5,-⟩
 ·omega
 injection e with _ _ e3;omega
def Sw{Y Y1 Y2 V:af}{B:Nat}{v:Value}{T:TypeId}(h:iC Y B v T)(hg1:Y.grownBy Y1<|some<|B+1)(hY2:ag Y1 Y2)(hg2:Y2.grownBy V v.ownBlock)(hv:v.ownBlock≠some B):iC V B v T:=by
 have y1:Y1.heap[B]?=_:=(hg1.block _ (WQ.1 h).1 fun e=>by injection e with e;omega).trans h;have y2:Y2.heap[B]?=_:=(hY2.block _ (WQ.1 y1).1).trans y1;exact(hg2.block _ (WQ.1 y2).1 fun e=>hv e.symm).trans y2
def Sy{B B':Nat}{W W':af}(h:KeepsFrom B W W')(hB:B<=B'):KeepsFrom B' W W':=⟨h.size,fun k o hk h1 h2=>h.same k o (WR hB hk) h1 h2⟩
def KpO.after{b l l':Nat}{X Y Z:af}(h:KpO b l X Y)(k:KpO b l' Y Z)(hl:X.heap.size<=l'):KpO b l X Z :=
 ⟨WR h.size k.size,fun g cs T m hg h1 h2=>k.cells g cs T m (h.cells g cs T m hg h1 h2) h1 h2,fun g o hg hc h1 h2=>k.other g o (h.other g o hg hc h1 h2) hc (fun e=>by have:=(WQ.1 hg).1;omega) h2⟩
end Go.Proofs.YtojjoblnpldniaaGreat
namespace Go.Proofs.YtojjoblnpldniaaGreat
set_option linter.unusedVariables false
set_option maxRecDepth 100000
open ChangeShapes WideShapes ChangeAt RowKit Maps Go.Shelf
open Pl
attribute [local go_sem] Oper.semAt_some
def GM(X:World)(B:Nat):Nat:=match X.cell? ⟨B,0,none⟩ with
 | some x=>Wl x
 | none=>0
def GN{X:af}{B n c:Nat}{ad:Q02}{T:TypeId}(h:iC X B (.slice ad n c) T):GM X B=n:=by
 unfold GM;rw[h.c];rfl
section
variable  [DecidableEq Fc]
def Pw(w:af)(rs:Q06)(Zk:Q02)(D br bp bt:Nat)(N:Nat)(nr:Nat)(Mr:KL->Option Value)(st:Q00)(ts:Q05)(xo xu:Q0a)(np:Nat)(Mp:K3->Option Value)(vo vu:Value)(hD:DatA w rs D br bp bt (N:Int) nr Mr (fK st rs) (dY ts) xo xu np Mp vo vu)(hs:jX w Zk rs)(hN:N<=1000)(hol:xo.length<=80)(hul:xu.length<=40)(hE:(ay<|ae rs).length<=36)(hrl:∀k,(G.lookL (fK st rs) k).length<=1000)(hsh:bB (ae rs)=true)(hts:∀t∈ts,t.fits)(htl:ts.length<=1000)(hof:∀o∈xo,o.t.size<=maxLen/\o.s.size<=maxLen)(huf:∀o∈xu,o.t.size<=maxLen/\o.s.size<=maxLen)(hrf:∀k∈ay (ae rs),k.2.size<=maxLen):
  Calls prog 56 #[.pointer (some<|am D)] w fun e w'=>(∃v,e=.returned v/\cD w w' 52 5 v (ja (ae rs) ts st xo xu N).length (iK<|ja (ae rs) ts st xo xu N))/\ag w w':=by
 obtain⟨iF,z0,z1,z2,z3⟩:=TT;obtain⟨W0,hW0⟩:=eQx<|((w.alloc<|.cells #[.slice none 0 0] 44).alloc<|.map #[] 0).alloc<|.cells #[.map (some<|w.heap.size+1)] 115;obtain⟨Zn,Yp,rfl,-⟩:=uy hD.dat.objs;have hlD:=hD.dat.lt;have d1:=hD.dat.c1;have h00:FoW w W0 (.slice none 0 0) []/\iC W0 (w.heap.size+1+1) (.map<|some<|w.heap.size+1) 115:=by
  obtain⟨V1,e1⟩:∃V,V=w.alloc (.cells #[.slice none 0 0] 44):=⟨_,rfl⟩;obtain⟨V2,e2⟩:∃V,V=V1.alloc (.map #[] 0):=⟨_,rfl⟩;rw[<-e1,<-e2]at hW0;have t1:V1.heap.size=w.heap.size+1:=by rw[e1,World.size_alloc]
  have t2:V2.heap.size=w.heap.size+1+1:=by rw[e2,World.size_alloc,t1]
  have f1:ag w V1:=by rw[e1];exact(WL _ _).alloc (WK _) _
  have f2:ag V1 V2:=by rw[e2];exact(WL _ _).alloc (WK _) _
  have f3:ag V2 W0:=by rw[hW0];exact(WL _ _).alloc (WK _) _
  have f12:ag w V2:=f1.trans<|f2.mono f1.size;have g1:iC V1 w.heap.size (.slice none 0 0) 44:=by rw[e1];exact World.alloc_heap_new w _
  have g2:aN oH prog 52 V2 (w.heap.size+1) 0 (fun _=>none):=by
   have:=oM oH prog 52 V1;rw[<-e2,t1]at this;exact this
  have g3:iC W0 (w.heap.size+1+1) (.map<|some<|w.heap.size+1) 115:=by rw[hW0,<-t2];exact World.alloc_heap_new V2 _
  have ek:De []=fun _=>none:=rfl;exact⟨⟨f12.trans<|f3.mono f12.size,(g1.bel f2).bel f3,World.ownsRow_nil _ _ _ _,by rw[ek];exact g2.below f3⟩,g3⟩
 have hmm:=@run_makeMap prog;have hl1:D<w.heap.size+1:=cq;have hl2:D<w.heap.size+1+1:=cq;refine(callsIn_wide (n:=12)).1 ?_;refine callsIn_of_wp_marks func56 rfl trivial ?_ rfl;simp only[ntmps56,List.size_toArray,Xq,XQ,Nat.reduceAdd,Nat.reduceSub,Array.replicate_succ,Array.replicate_zero,List.push_toArray,List.append_toArray,XR,XB];gi_wp2;rw[<-hW0];clear hW0 hmm;obtain⟨H,hH⟩:=eQx<|eH (ae rs) ts;obtain⟨A,hA⟩:∃A:Nat->List Fc,A=ja (ae rs) ts st xo xu:=⟨_,rfl⟩;obtain⟨Q,hQ⟩:∃Q:Nat->List Fc,Q=fun(n:Nat)=>cu (ae rs) st xo xu (n:Int):=⟨_,rfl⟩;have hA1:∀n,A (n+1)=mX H (Q n) (A n):=fun n=>by rw[hA,hH,hQ];exact jU _ _ _ _ _ _
 have hAG:∀n,GoodO (ae rs) xo xu (A n):=fun n=>by rw[hA];exact nI _ _ _ _ _ n
 have hA0:A 0=[]:=by rw[hA];rfl
 have hAN:ja (ae rs) ts st xo xu N=A N:=by rw[hA]
 refine wpIn_loop (fun a' X=>∃(q:Nat) (rl:List Nat) (v:Value) (u5 u6 u7 u8 u15 u16 u17 u18 u19 u20 u21 u22 u23 u24 u25 u26 u27 u28 u29 u30 u31 u32 u33 u34 u35 u36 u37 u38 u39 u40 u41 u42 u43 u44:Value),a'={ tmps:=List.toArray (.pointer (some<|am D)::undef::.slice none 0 0::.pointer (some<|a7 w)::.pointer (some<|am<|w.heap.size+1+1)::u5::u6::u7::u8::.map (some<|w.heap.size+1)::.pointer (some<|am D)::.pointer (some<|am D)::.pointer (some<|aq D 1)::.int .i64 (N:Int)::.int .i64 (q:Int)::u15::u16::u17::u18::u19::u20::u21::u22::u23::u24::u25::u26::u27::u28::u29::u30::u31::u32::u33::u34::u35::u36::u37::u38::u39::u40::u41::u42::u43::u44::undef::[]),defers:=marks rl }/\q<=N/\FoW w X v (A q)/\iC X (w.heap.size+1+1) (.map<|some<|w.heap.size+1) 115/\jG X rl/\(∀r∈rl,w.heap.size+1+1<r)) (fun a' _=>N-(intOf<|a'.tmps.getD 14 undef).toNat) ⟨0,[],.slice none 0 0,_,_,_,_,_,_,_,_,_,_,_,_,_,_,_,_,_,_,_,_,_,_,_,_,_,_,_,_,_,_,_,_,_,_,rfl,WO _,by rw[hA0];exact h00.1,h00.2,⟨List.nodup_nil,fun r hr=>by cases hr⟩,fun r hr=>by cases hr⟩ ?_;rintro a1 X ⟨q,rl,v,u5,u6,u7,u8,u15,u16,u17,u18,u19,u20,u21,u22,u23,u24,u25,u26,u27,u28,u29,u30,u31,u32,u33,u34,u35,u36,u37,u38,u39,u40,u41,u42,u43,u44,rfl,hq,hF,hB,hMk,hMn⟩;clear h00;by_cases hlq:q<N
 ·have hDX:=hD.below hF.bel;have d5:=hDX.dat.c5;have d5l:=hDX.dat.lt;obtain⟨adV,capV,rfl,-⟩:=uy hDX.dat.users;gi_wp2;refine wpIn_loop (fun a' X=>∃(us:Q0a) (YT:Q02) (Yj:Nat) (out:Q04) (rl:List Nat) (v:Value) (base:Nat) (u7 u8 u21 u22 u23 u24 u25 u26 u27 u28 u29 u30 u31 u32 u33 u34 u35 u36 u37 u38 u39 u40 u41 u42 u43 u44:Value),a'={ tmps:=List.toArray (.pointer (some<|am D)::undef::.slice none 0 0::.pointer (some<|a7 w)::.pointer (some<|am<|w.heap.size+1+1)::.int .i64 (q:Int)::.slice YT us.length Yj::u7::u8::.map (some<|w.heap.size+1)::.pointer (some<|am D)::.pointer (some<|am D)::.pointer (some<|aq D 1)::.int .i64 (N:Int)::.int .i64 (q:Int)::.bool true::.int .i64 (q:Int)::.pointer (some<|am D)::.pointer (some<|am D)::.pointer (some<|aq D 5)::.slice adV xu.length capV::u21::u22::u23::u24::u25::u26::u27::u28::u29::u30::u31::u32::u33::u34::u35::u36::u37::u38::u39::u40::u41::u42::u43::u44::undef::[]),defers:=marks rl }/\FewA (ae rs) ts st xo xu (q:Int) us out/\mX H (Q q) out=A (q+1)/\GoodO (ae rs) xo xu out/\FoW w X v out/\iC X (w.heap.size+1+1) (.map<|some<|w.heap.size+1) 115/\jG X rl/\(∀r∈rl,w.heap.size+1+1<r)/\X.ownsRow base 27 2 (.slice YT us.length Yj) us.length (pairs us)/\us.length<=40/\∀o∈us,o.t.size<=maxLen/\o.s.size<=maxLen) (fun a' Y=>2*(200000-GM Y w.heap.size)+min 1 (Wl<|a'.tmps.getD 6 undef)) ⟨xu,adV,capV,A q,rl,v,bp+1,_,_,_,_,_,_,_,_,_,_,_,_,_,_,_,_,_,_,_,_,_,_,_,_,_,_,rfl,FewA.start _,(hA1 q).symm,hAG q,hF,hB,hMk,hMn,hDX.dat.users,hul,huf⟩ ?_;clear hDX d5 d5l hF hB hMk hMn;rintro a2 X2 ⟨us,YT,Yj,out,rl2,v2,base,u7,u8,u21,u22,u23,u24,u25,u26,u27,u28,u29,u30,u31,u32,u33,u34,u35,u36,u37,u38,u39,u40,u41,u42,u43,u44,rfl,hFew,hLim,hG,hF2,hB2,hMk2,hMn2,hU,hul2,huf2⟩;obtain⟨adF,YJ,rfl,-⟩:=Cu hF2.row;have hmu:=GN hF2.box;have hout:=hG.len hol hE hul;by_cases hne:us=[]
  ·subst hne;have hAq:A (q+1)=out:=by rw[<-hLim,hH,hQ];exact hFew.done
   have Zu:FoW w X2 (.slice adF out.length YJ) (A<|q+1):=by rw[hAq];exact hF2
   gi_wp2;exact⟨⟨q+1,rl2,_,_,_,_,_,_,_,_,_,_,_,_,_,_,_,_,_,_,_,_,_,_,_,_,_,_,_,_,_,_,_,_,_,_,_,rfl,cq,Zu,hB2,hMk2,hMn2⟩,by simp[intOf];omega⟩
  have hpos:0<us.length:=by cases us with|nil=>exact absurd rfl hne|cons a l=>simp
  have hposI:(0:Int)<(us.length:Int):=cq;have bc:=hF2.box.c;have kc:=hB2.c
  gi_wp2_with fail
  refine⟨trivial,(callsIn_wide.2<|GL D (q:Int) YT us.length Yj (w.heap.size+1) X2).mono ?_⟩;rintro e X3 ⟨rfl,hX3⟩;obtain⟨hBX,hb23,hs3⟩:=Un X2 D (q:Int) (.slice YT us.length Yj) (w.heap.size+1) hX3;have Zu:=hF2.below hb23;have hU3:=gy hU hb23;have hB3:=hB2.bel hb23;have hMk3:=hMk2.bel hb23;have hsB:w.heap.size+1+1<X2.heap.size:=(WQ.1 hB2).1;clear hX3 bc kc;gi_wp2
  refine rR (α:=Fc) rfl cq (gf:=201) (lb:=#[.pointer (some<|a7 X2),.pointer<|some<|am<|X2.heap.size+1,.pointer<|some<|am<|X2.heap.size+1+1,.pointer<|some<|am<|X2.heap.size+1+1+1]) rfl trivial (enters_of func201 cw rfl)
   (Pv 11 cq rs Zk D br bp bt (N:Int) nr Mr st ts Zn Yp xo xu np Mp (.slice adV xu.length capV) (w.heap.size+1) out X2.heap.size (X2.heap.size+1) (X2.heap.size+1+1) (X2.heap.size+1+1+1) (q:Int) YT Yj us X3 cq cq cq cq hrl hsh hts htl hof huf2 hrf) (WL _ _) (fun _=>rfl) (fun h k=>h.trans k) (fun Y lx o o' h1 h2=>KpO.put h1 h2)
   (fun pre Y=>∃v',FoW w Y v' (out++pre)/\KpO (w.heap.size+1) X3.heap.size X3 Y/\GoodO (ae rs) xo xu (out++pre))
   ?own ?tell ⟨_,by rw[XL];exact Zu,KpO.below<|WL _ _,by rw[XL];exact hG⟩
   (fun x a' Y=>∃Bx,DF Y Bx x/\a'={ tmps:=List.toArray (.pointer (some<|am D)::undef::.slice none 0 0::.pointer (some<|a7 w)::.pointer (some<|am<|w.heap.size+1+1)::.int .i64 (q:Int)::.slice YT us.length Yj::.int .i64 (out.length:Int)::.pointer (some<|am Bx)::.map (some<|w.heap.size+1)::.pointer (some<|am D)::.pointer (some<|am D)::.pointer (some<|aq D 1)::.int .i64 (N:Int)::.int .i64 (q:Int)::.bool true::.int .i64 (q:Int)::.pointer (some<|am D)::.pointer (some<|am D)::.pointer (some<|aq D 5)::.slice adV xu.length capV::.slice YT us.length Yj::.int .i64 (us.length:Int)::.bool true::.slice adF out.length YJ::.int .i64 (out.length:Int)::.pointer (some<|am D)::.int .i64 (q:Int)::.slice YT us.length Yj::.map (some<|w.heap.size+1)::.func (.func 201) #[] #[.pointer (some<|a7 X2),.pointer<|some<|am<|X2.heap.size+1,.pointer<|some<|am<|X2.heap.size+1+1,.pointer<|some<|am<|X2.heap.size+1+1+1]::.agg (cf x)::u32::u33::u34::u35::u36::u37::u38::u39::u40::u41::u42::u43::u44::undef::[]),defers:=[] })
   (fun x a' s Y Z row hs hg hr=>by obtain⟨Bx,h,e⟩:=hs;exact⟨Bx,JE (B0:=X3.heap.size) (g:=Bx) (x:=x) () Y Z row h hg hr,e⟩) ?assign ?body ?done
  case own =>
   intro pre Y Z row hs hg hr;obtain⟨v',h1,h2,h3⟩:=hs;exact⟨v',h1.kept hg fun r e=>⟨by have:=(hr r e).1;omega,(hr r e).2⟩,Uo (β:=Unit) () Y Z row h2 hg hr,h3⟩
  case tell =>
   rintro pre Y ⟨v',h1,h2,h3⟩;have hb:=hBX.kp h2;obtain⟨ad2,cap2,e,hsa⟩:=uy<|Ng hU3 h2 cv cv;injection e with ea eb ec;exact⟨hD.below h1.bel,hs.below h1.bel,⟨_,h1.map⟩,hb.d.c,hb.s.c,hb.u.c,hb.k.c,by rw[ea];exact hsa⟩
  case assign =>
   rintro l' pre x Y K ⟨v',h1,h2,h3⟩ hKK;unfold Ff;gi_wp2;have hbl:ag Y (Y.alloc<|.cells (cf x) 52):=(WL _ _).alloc (WK _) _;exact hKK _ _ ((KeepsOthers.alloc _ _).from _) (KpO.below hbl) ⟨v',h1.below hbl,h2.trans<|KpO.below hbl,h3⟩ ⟨Y.heap.size,World.alloc_heap_new Y _,rfl⟩
  case body =>
   rintro l' pre x a' Y hl ⟨hEx,hnew⟩ ⟨v',hFY,hKY,hGY⟩ ⟨Bx,bX,rfl⟩;obtain⟨hkey,hxf⟩:=JF hof huf2 hrf hEx;obtain⟨kl,hkl⟩:=I5 x hxf;obtain⟨c0,c1,c2,c3,c4,cl⟩:=bX.c;have hGX:GoodO (ae rs) xo xu (out++(pre++[x])):=by
    refine⟨?_,fun g hg=>?_⟩
    ·rw[<-Xg];exact List.nodup_append.2 ⟨hGY.once,ct,fun a ha b hb e=>by
      rw[WZ]at hb;rw[<-hb,<-e]at hnew;exact hnew ha⟩
    rw[<-Xg]at hg;rcases WU.1 hg with hg|hg
    ·exact hGY.sub g hg
    rw[WZ]at hg;subst hg;unfold cu yE at hEx;obtain⟨o,ho,h1⟩:=Xd.1 hEx;obtain⟨k,hk,h1⟩:=Xd.1 h1;obtain⟨u,hu,e⟩:=WV.1 h1;have hux:u∈xu:=by rw[hFew.sub]at hu;exact(XM.1 hu).1
    exact Xd.2 ⟨o,ho,Xd.2 ⟨k,(XM.1 hk).1,WV.2 ⟨u,hux,e⟩⟩⟩
   have hlen:=hGX.len hol hE hul;rw[<-Xg,WP,Xi]at hlen;obtain⟨os,hos⟩:=eQx<|out++pre;rw[<-hos]at hFY hlen;have HOS:=bu hos;clear hos;have kc:=(hB3.kp hKY cv cv).c;have kl2:=bQ kc;obtain⟨adY,capY,rfl,-⟩:=Cu hFY.row;have hmap:=hFY.map;have bcY:=hFY.box.c;have hbxl:=bQ bcY;have hblk:=hFY.box;obtain⟨es,cc,hmb⟩:=qD hFY.map;have hne1:Bx≠w.heap.size+1:=fun e=>by
    have h:=bX;unfold DF at h;rw[e,hmb]at h;cases h
   have hrow:=hFY.row;have hvB:(Value.slice adY os.length capY).ownBlock≠some w.heap.size:=fun e=>by have:=(hrow.lt _ e).1;omega
   have hvM:(Value.slice adY os.length capY).ownBlock≠some (w.heap.size+1):=fun e=>Gi hrow e hmb;have hbYs:=hFY.bel.size
   gi_wp2_with (first
    | (gi_at_mapUpdate;refine Aa _ rfl _ _ _ 115 rfl 52 107 Rn Rk underlying115 (w.heap.size+1) _ _ rfl hmap cy x kl rfl hkl (.agg #[]) rfl ?_;intro Y1 hM1 hg1;have q0:=(lu hg1 ⟨cl,hne1⟩ 0).trans c0;have q1:=(lu hg1 ⟨cl,hne1⟩ 1).trans c1;have q2:=(lu hg1 ⟨cl,hne1⟩ 2).trans c2;have q3:=(lu hg1 ⟨cl,hne1⟩ 3).trans c3;have q4:=(lu hg1 ⟨cl,hne1⟩ 4).trans c4;have qb:=(lu hg1 ⟨hbxl,Nat.ne_of_lt<|Nat.lt_succ_self _⟩ 0).trans bcY;have ql:=bQ q0;have qbl:=bQ qb;have hrow1:=hrow.kept hg1<|.inr hvM;have hYs1:=hg1.size)
    | (gi_at_builtin;refine wpListIn_append_own_at _ rfl _ _ 44 rfl (w.heap.size+1) 52 iF (.agg aw) 5 80 underlying44 z0 z1 z2 z3 rfl cv _ os.length (iK os) rfl (hrow1.alloc _) ⟨Y1.heap.size,0,none⟩ 1 1 x.row rfl rfl (Wj Y1 x) (by simp[Fc.row,Value.oneCell']) cy cq (by simp;omega) ?_;intro v2 V hown hgr _ hat;obtain⟨g2,cap2,rfl⟩:=ownsRow_succ hown;have HAT:=bu hat;clear hat;have hY2:ag Y1 (Y1.alloc<|.cells (cf x) 52):=(WL _ _).alloc (WK _) _;have hVb:=Sw hblk hg1 hY2 hgr hvB;have vc:=hVb.c;have vf:=lV hVb 0;have vl:=bQ vc)
    | gi_in)
   obtain⟨r1,r2,r3⟩:=FoW.step hFY hM1 hg1 hY2 hown hgr HAT l';have eos:out++(pre++[x])=os++[x]:=by rw[HOS,Xg]
   exact⟨Sy r3 cq,r2,_,by rw[eos];exact r1,hKY.after r2 hl,hGX⟩
  case done =>
   rintro Dd xs X5 hDd hS ⟨v5,hF5,hK5,hG5⟩ hKd;have hl5:=hG5.len hol hE hul;have hlx:(out++xs).length=out.length+xs.length:=WP;have hxs:(out++xs).drop out.length=xs:=List.drop_left;obtain⟨o5,ho5⟩:=eQx<|out++xs;rw[<-ho5]at hF5 hG5 hl5 hlx hxs;have Yi:=bu ho5;have ZO:=bu hxs;have hFew5:=hFew.next (by rw[<-hH]at hS ⊢;exact hS);have hLim5:mX H (Q q) o5=A (q+1):=by
    rw[<-hLim,<-NS (H:=H) (Q q) out];congr 1;rw[ho5,<-hS,<-hH,hQ,hH];exact hFew.round
   rw[<-ho5]at hFew5;obtain⟨adP,capP,rfl,hsF5⟩:=Cu hF5.row;have bc5:=hF5.box.c;have bl5:=bQ bc5;have i1:(0:Int)<=(out.length:Int):=cq;have i2:(out.length:Int)<=(o5.length:Int):=cq;have hcap5:o5.length<=capP:=Uq hF5.row;have hU5:=Ng hU3 hK5 cv cv;obtain⟨ad2,cap2,eU,hsU5⟩:=uy hU5;injection eU with ea eb ec;rw[<-ea]at hsU5;have hMk5:jG X5 (Dd::rl2):=by
    have h1:=hMk3.kp hK5 (fun hm=>by have:=hMk3.lt hm;omega) (fun hm=>by have:=hMn2 _ hm;omega);refine⟨List.nodup_cons.2 ⟨fun hm=>by have:=hMk3.lt hm;omega,h1.1⟩,fun r hr=>?_⟩;rcases Xc.1 hr with rfl|hr
    ·exact hKd
    exact h1.2 r hr
   have hMn5:∀r∈Dd::rl2,w.heap.size+1+1<r:=fun r hr=>by
    rcases Xc.1 hr with rfl|hr
    ·omega
    exact hMn2 r hr
   have hkl:(fQ us xs).length<=us.length:=Fb us xs;have hkz:xs.length=0->(fQ us xs).length=0:=fun h=>by rw[Xb.1 h,LP];rfl
   have hsx:∀ad3,ad3=Option.map (fun x=>Addr.add x<|out.length*5) adP->Ao X5 ad3 xs:=fun ad3 e=>by
    rw[e,<-ZO];exact Ao.dropF hsF5 out.length
   clear ho5 hxs ea eb ec hS
   gi_wp2_with fail
   ·refine⟨trivial,(callsIn_wide.2<|sj YT Yj us adP 0 xs X5 cq cq hsU5<|.inl<|Xb.1 cq).mono ?_⟩;rintro e X6 ⟨⟨v6,rfl,hO6⟩,hb6⟩;have Yv:GM X6 w.heap.size=o5.length:=GN (hF5.below hb6).box;have hF6:=hF5.below hb6;have hB6:=(hB3.kp hK5 cv cv).bel hb6;obtain⟨ad6,cap6,rfl,-⟩:=uy hO6;gi_wp2;exact⟨⟨fQ us xs,ad6,cap6,o5,Dd::rl2,_,X5.heap.size,_,_,_,_,_,_,_,_,_,_,_,_,_,_,_,_,_,_,_,_,_,_,_,_,_,_,rfl,hFew5,hLim5,hG5,hF6,hB6,hMk5.bel hb6,hMn5,hO6,cq,fun o ho=>huf2 o (XM.1 ho).1⟩,by
     show 2*(200000-GM X6 w.heap.size)+min 1 (fQ us xs).length<2*(200000-GM X2 w.heap.size)+min 1 us.length;rw[Yv,hmu];omega⟩
   refine⟨trivial,(callsIn_wide.2<|sj YT Yj us _ _ xs X5 cq cq hsU5<|hsx _ rfl).mono ?_⟩;rintro e X6 ⟨⟨v6,rfl,hO6⟩,hb6⟩;have Yv:GM X6 w.heap.size=o5.length:=GN (hF5.below hb6).box;have hF6:=hF5.below hb6;have hB6:=(hB3.kp hK5 cv cv).bel hb6;obtain⟨ad6,cap6,rfl,-⟩:=uy hO6;gi_wp2;exact⟨⟨fQ us xs,ad6,cap6,o5,Dd::rl2,_,X5.heap.size,_,_,_,_,_,_,_,_,_,_,_,_,_,_,_,_,_,_,_,_,_,_,_,_,_,_,rfl,hFew5,hLim5,hG5,hF6,hB6,hMk5.bel hb6,hMn5,hO6,cq,fun o ho=>huf2 o (XM.1 ho).1⟩,by
    show 2*(200000-GM X6 w.heap.size)+min 1 (fQ us xs).length<2*(200000-GM X2 w.heap.size)+min 1 us.length;rw[Yv,hmu];omega⟩
 have hqN:q=N:=cq;subst hqN;obtain⟨adF,YJ,rfl,-⟩:=Cu hF.row;have bc:=hF.box.c;have hR:X.ownsRow (w.heap.size+1) 52 5 (.slice adF (A q).length YJ) (ja (ae rs) ts st xo xu q).length (iK<|ja (ae rs) ts st xo xu q):=by rw[hAN];exact hF.row
 have hBl:=hF.bel;have hsz:cW w X:=bQ bc;clear hF hB hD;gi_wp2;refine xP (w.heap.size+1+1) (fun Y=>cD w Y 52 5 (.slice adF (A q).length YJ) (ja (ae rs) ts st xo xu q).length (iK<|ja (ae rs) ts st xo xu q)/\ag w Y) (fun Y r hr hY hd=>⟨fA hY.1 fun g hg=>pM fun e=>?_,?_⟩) (fun Y hY=>⟨_,results_tmp rfl _ _ _,⟨_,rfl,hY.1⟩,hY.2⟩) rl X hMk hMn ⟨fV hR<|Nat.le_succ _,hBl⟩
 ·obtain⟨cur,e2⟩:=kr hY.1 hg;rw[e,hd]at e2;cases e2
 exact hY.2.grown (grownBy_putObj' Y r _) hY.2.size (fun g e=>by injection e with e;omega)
end
end Go.Proofs.YtojjoblnpldniaaGreat
namespace Go.Proofs.YtojjoblnpldniaaGreat
set_option linter.unusedVariables false
set_option maxRecDepth 100000
open ChangeShapes WideShapes ChangeAt RowKit Maps
open Pl
section
variable  {w:World}{rs:Q06}{P D br bp bt bK nK n k:Nat}{n1:Int}{nr:Nat}{Mr:KL->Option Value}{Er:List (KL×RR)}{ts:Q05}{xo xu:Q0a}{np:Nat}{Mp:K3->Option Value}{vo vu:Value}{out:Q04}{f:Fc}{adF:Q02}{YJ:Nat}{X9:Q02}{capE:Nat}{rows:Q08}
end
section
variable  {w:World}{rs:Q06}{P D br bp bt bK nK n k:Nat}{n1:Int}{nr:Nat}{Mr:KL->Option Value}{Er:List (KL×RR)}{ts:Q05}{xo xu:Q0a}{np:Nat}{Mp:K3->Option Value}{vo vu:Value}{out:Q04}{f:Fc}{adF:Q02}{YJ:Nat}{X9:Q02}{capE:Nat}{rows:Q08}
end
structure KnF(w:World)(FC:Nat)(rc cp:Array Value)(K:Fc->Bool):Prop where
 run:∀(ys:Array Value) (u:World),(callFunc FC ys).run prog u=.ok (.enter FC ys) u
 says:∀x:Fc,x.fits->∀w1:World,ag w w1->Calls prog FC (rc.push (.agg #[.string x.a,.string x.b,.string x.r,.string x.c,.string x.d])++cp) w1 fun e w'=>e=.returned (.bool<|K x)/\ag w1 w'
def KnF.below{w w':af}{FC:Nat}{rc cp:Array Value}{K:Fc->Bool}(h:KnF w FC rc cp K)(hb:ag w w'):KnF w' FC rc cp K :=
 ⟨h.run,fun x hx w1 h1=>h.says x hx w1<|hb.trans<|h1.mono hb.size⟩
def WE(T:TypeId):Nat:=if T=239 then 362 else if T=301 then 363 else if T=304 then 364 else 368
def VG(w:World)(FC:Nat)(rc cp:Array Value)(u:Value)(b:Bool):Prop :=
 ∃(T:TypeId) (a:Value),u=.iface T a/\(T=239/\(∃c,a=.agg #[.bool c])\/(T=301\/T=304\/T=306)/\∃ad n cap,a=.agg #[.slice ad n cap])/\∀w1:World,ag w w1->Calls prog (WE T) #[a,.func (Fn.func FC) rc cp] w1 fun e w'=>e=.returned (.bool b)/\ag w1 w'
def VG.below{w w':af}{FC:Nat}{rc cp:Array Value}{u:Value}{b:Bool}(h:VG w FC rc cp u b)(hb:ag w w'):VG w' FC rc cp u b:=by
 obtain⟨T,a,e,hk,hc⟩:=h;exact⟨T,a,e,hk,fun w1 h1=>hc w1<|hb.trans<|h1.mono hb.size⟩
section
variable  [DecidableEq Fc]
end
end Go.Proofs.YtojjoblnpldniaaGreat
