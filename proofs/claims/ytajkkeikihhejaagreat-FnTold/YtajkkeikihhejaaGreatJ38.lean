/- The iterator over what a round finds: what holds by the facts that are known, and is not known itself. -/
import Derived.Test.YtajkkeikihhejaaGreatSq
import Derived.Test.YtajkkeikihhejaaGreatJ37
import Derived.Maps.OwnIn
open Go.Proofs.Tryz
set_option maxHeartbeats 80000000
namespace Go.Proofs.YtajkkeikihhejaaGreat
set_option linter.unusedVariables false
set_option maxRecDepth 100000
open Go.ChangeShapes Go.WideShapes Go.ChangeAt Go.RowKit Go.Maps Go.Shelf
open Pl
attribute [local go_sem] Oper.semAt_some
theorem JQ {n m:Nat} {P:Program} {l:Nat} {f:FuncId} {tmps:Array Value} {assign body:Code} {w:af} {R:Ending→World→Prop} (h:RoundIn Fence.wide n P l f tmps assign body w R):RoundIn Fence.wide m P l f tmps assign body w R :=
 ⟨h.1,fun c cs _=>h.2 c cs (room_wide _)⟩
theorem Bd (D:Nat) (sn:Int) (Vt:Option Addr) (nU UM:Nat) (w:af) :
  Calls prog 145 #[.pointer (some ⟨D,0,none⟩),.int .i64 sn,.slice Vt nU UM] w fun e w'=>e=.returned (.func (.func 199) #[] #[.pointer (some ⟨w.heap.size,0,none⟩),.pointer (some ⟨w.heap.size + 1,0,none⟩),.pointer (some ⟨w.heap.size + 1 + 1,0,none⟩)])∧w'=((w.alloc (.cells #[.pointer (some ⟨D,0,none⟩)] 97)).alloc (.cells #[.int .i64 sn] 2)).alloc (.cells #[.slice Vt nU UM] 49):=by
 go_enter func145,ntmps145;go_wp2;go_ret;exact ⟨rfl,rfl⟩
theorem EY (D:Nat) (sn:Int) (Vt:Option Addr) (nU UM:Nat) (bK:Nat) (w:af) :
  Calls prog 102 #[.pointer (some ⟨D,0,none⟩),.int .i64 sn,.slice Vt nU UM,.map (some bK)] w fun e w'=>e=.returned (.func (.func 144) #[] #[.pointer (some ⟨w.heap.size,0,none⟩),.pointer (some ⟨w.heap.size + 1,0,none⟩),.pointer (some ⟨w.heap.size + 1 + 1,0,none⟩),.pointer (some ⟨w.heap.size + 1 + 1 + 1,0,none⟩)])∧w'=(((w.alloc (.cells #[.pointer (some ⟨D,0,none⟩)] 97)).alloc (.cells #[.int .i64 sn] 2)).alloc (.cells #[.slice Vt nU UM] 49)).alloc (.cells #[.map (some bK)] 107):=by
 go_enter func102,ntmps102;go_wp2;go_ret;exact ⟨rfl,rfl⟩
structure NewM (W:World) (rs:List TR) (Vy:Option Addr) (D br bp bt:Nat) (n1:Int) (nr:Nat) (Mr:KL→Option Value) (Er:List (KL × RR)) (ts:List Tp) (xo xu:List Al) (np:Nat) (Mp:K3→Option Value) (vo vu:Value) (bK:Nat) (out:List Fc) (hD hS hU hK:Nat) (sn:Int) (Vt:Option Addr) (UM:Nat) (us:List Al):Prop where
 dat:DatA W rs D br bp bt n1 nr Mr Er (dK ts) xo xu np Mp vo vu
 sch:kX W Vy rs
 map:∃ nK,aM om prog 29 W bK nK (BR out)
 bD:W.cell? ⟨hD,0,none⟩=some (.pointer (some ⟨D,0,none⟩))
 bS:W.cell? ⟨hS,0,none⟩=some (.int .i64 sn)
 bU:W.cell? ⟨hU,0,none⟩=some (.slice Vt us.length UM)
 bM:W.cell? ⟨hK,0,none⟩=some (.map (some bK))
 users:jM W Vt us
def SG (l:Nat):Value:=.func (.yield l) #[] #[]
def gV (W:World) (g:Nat) (v:Value) (T:TypeId):Prop:=W.heap[g]?=some (.cells #[v] T (0,0))
theorem gV.c {W:af} {g:Nat} {v:Value} {T:TypeId} (h:gV W g v T):W.cell? ⟨g,0,none⟩=some v:=by
 unfold gV at h;simp [World.cell?,h]
theorem gV.kp {b l:Nat} {W W':af} {g:Nat} {v:Value} {T:TypeId} (h:gV W g v T) (hk:KpO b l W W') (h1:T ≠ 29) (h2:T ≠ 40):gV W' g v T:=hk.cells g _ _ _ h h1 h2
theorem gV.bel {W W':af} {g:Nat} {v:Value} {T:TypeId} (h:gV W g v T) (hb:ag W W'):gV W' g v T:=(hb.block g (Array.getElem?_eq_some_iff.1 h).1).trans h
structure NBx (W:World) (B l D:Nat) (sn:Int) (vU:Value):Prop where
 y:gV W B (SG l) 108
 d:gV W (B + 1) (.pointer (some ⟨D,0,none⟩)) 97
 s:gV W (B + 1 + 1) (.int .i64 sn) 2
 u:gV W (B + 1 + 1 + 1) vU 49
theorem NBx.kp {b l0:Nat} {W W':af} {B l D:Nat} {sn:Int} {vU:Value} (h:NBx W B l D sn vU) (hk:KpO b l0 W W'):NBx W' B l D sn vU :=
 ⟨h.y.kp hk (by decide) (by decide),h.d.kp hk (by decide) (by decide),h.s.kp hk (by decide) (by decide),h.u.kp hk (by decide) (by decide)⟩
theorem NBx.bel {W W':af} {B l D:Nat} {sn:Int} {vU:Value} (h:NBx W B l D sn vU) (hb:ag W W'):NBx W' B l D sn vU:=⟨h.y.bel hb,h.d.bel hb,h.s.bel hb,h.u.bel hb⟩
theorem QV {β:Type} {B0 B l D:Nat} {sn:Int} {vU:Value} (hB:B + 1 + 1 + 1 < B0):OwnFrom B0 (fun (_:β) W=>NBx W B l D sn vU):=fun s X Y row hs hg hr=>by
 have key:∀ g v T,g < B0→gV X g v T→gV Y g v T:=fun g v T hl h=>(hg.block g (Array.getElem?_eq_some_iff.1 h).1 fun e=>by have:=(hr g e.symm).1; omega).trans h;exact ⟨key _ _ _ (by omega) hs.y,key _ _ _ (by omega) hs.d,key _ _ _ (by omega) hs.s,key _ _ _ (by omega) hs.u⟩
def vO (W:World) (g:Nat) (x:Fc):Prop:=W.heap[g]?=some (.cells #[.string x.a,.string x.b,.string x.r,.string x.c,.string x.d] 29 (0,0))
theorem vO.c {W:af} {g:Nat} {x:Fc} (h:vO W g x):W.cell? ⟨g,0,none⟩=some (.string x.a)∧W.cell? ⟨g,1,none⟩=some (.string x.b)∧W.cell? ⟨g,2,none⟩=some (.string x.r)∧W.cell? ⟨g,3,none⟩=some (.string x.c)∧W.cell? ⟨g,4,none⟩=some (.string x.d)∧g < W.heap.size:=by
 have hl:=(Array.getElem?_eq_some_iff.1 h).1;unfold vO at h;exact ⟨by simp [World.cell?,h],by simp [World.cell?,h],by simp [World.cell?,h],by simp [World.cell?,h],by simp [World.cell?,h],hl⟩
theorem vO.bel {W W':af} {g:Nat} {x:Fc} (h:vO W g x) (hb:ag W W'):vO W' g x:=(hb.block g (Array.getElem?_eq_some_iff.1 h).1).trans h
theorem G6 {B0 g:Nat} {x:Fc}:OwnFrom B0 (fun (_:Unit) W=>vO W g x):=fun s X Y row hs hg hr=>by
 refine (hg.block g (Array.getElem?_eq_some_iff.1 hs).1 fun e=>?_).trans hs;obtain ⟨-,o,ho,hc⟩:=hr g e.symm;rw [show X.heap[g]?=_ from hs] at ho;cases ho; cases hc
theorem PN {l' m:Nat} {P:Program} {f:FuncId} {args:Array Value} {w:af} {R:Ending→World→Prop} (h:Calls P f args w R):CallsIn (Fence.wide.inRound l') m P f args w R:=(callsIn_wide (n:=m)).2 h
theorem SH {l' n m:Nat} {P:Program} {l:Nat} {f:FuncId} {tmps:Array Value} {assign body:Code} {w:af} {R:Ending→World→Prop} (h:RoundIn Fence.wide n P l f tmps assign body w R):RoundIn (Fence.wide.inRound l') m P l f tmps assign body w R:=JQ (m:=m) h
theorem x9 {B:Nat} {W W':af} (h:ag W W'):KeepsFrom B W W':=⟨h.size,fun k o _ hk _=>(h.block k (Array.getElem?_eq_some_iff.1 hk).1).trans hk⟩
theorem PO {B b l:Nat} {W W':af} (h:KpO b l W W') (hl:l < B) (hb:b < B):KeepsFrom B W W':=⟨h.size,fun k o hB hk hc=>h.other k o hk hc (by omega) (by omega)⟩
theorem G7 {rs:List TR} {st:ByteArray × ByteArray→Int} {xo us:List Al} {sn:Int} {x:Fc} (hof:∀ o ∈ xo,o.t.size≤maxLen∧o.s.size≤maxLen) (huf:∀ o ∈ us,o.t.size≤maxLen∧o.s.size≤maxLen) (hrf:∀ k ∈ au (ae rs),k.2.size≤maxLen) (h:x ∈ bY (ae rs) st xo us sn):(x.a,x.r) ∈ au (ae rs)∧x.fits:=by
 unfold bY vD at h;obtain ⟨o,ho,h⟩:=Uf.1 h;obtain ⟨k,hk,h⟩:=Uf.1 h;obtain ⟨u,hu,rfl⟩:=Ue.1 h;obtain ⟨h1,h2⟩:=Ux.1 hk;rw [TU,fo] at h2;have e:(o.t,k.2)=k:=Prod.ext h2.1.symm rfl;refine ⟨?_,(hof o ho).1,(hof o ho).2,hrf k h1,(huf u hu).1,(huf u hu).2⟩;show (o.t,k.2) ∈ _;rw [e]; exact h1
theorem MP [DecidableEq Fc] (n:Nat) (hn:4≤n) (rs:List TR) (Vy:Option Addr) (D br bp bt:Nat) (n1:Int) (nr:Nat) (Mr:KL→Option Value) (st:ByteArray × ByteArray→Int) (ts:List Tp) (Wj:Option Addr) (VW:Nat) (xo xu:List Al) (np:Nat) (Mp:K3→Option Value) (vu:Value) (bK:Nat) (VR:List Fc) (hD hS hU hK:Nat) (sn:Int) (Vt:Option Addr) (UM:Nat) (us:List Al) (w0:af) (hs0:0≤sn) (hs1:sn≤1000) (hol:xo.length≤1000) (Yd:us.length≤1000) (hrl:∀ k,(G.lookL (eY st rs) k).length≤1000) (hsh:bf (ae rs)=true) (hts:∀ t ∈ ts,t.fits) (htl:ts.length≤1000) (hof:∀ o ∈ xo,o.t.size≤maxLen∧o.s.size≤maxLen) (huf:∀ o ∈ us,o.t.size≤maxLen∧o.s.size≤maxLen) (hrf:∀ k ∈ au (ae rs),k.2.size≤maxLen) :
  EM Fence.wide n prog 144 #[.pointer (some ⟨hD,0,none⟩),.pointer (some ⟨hS,0,none⟩),.pointer (some ⟨hU,0,none⟩),.pointer (some ⟨hK,0,none⟩)] DF (KpO bK) (fun pre W=>NewM W rs Vy D br bp bt n1 nr Mr (eY st rs) ts xo xu np Mp (.slice Wj xo.length VW) vu bK (VR ++ pre) hD hS hU hK sn Vt UM us) (fun pre x=>x ∈ bY (ae rs) st xo us sn∧x ∉ VR ++ pre) (fun xs=>bG (fC (ae rs) ts) (bY (ae rs) st xo us sn) VR=VR ++ xs) w0:=by
 intro l J W _ hlW _ hJ hT hY h0;have hM:=hT _ _ h0;obtain ⟨nK0,hmap0⟩:=hM.map;have Z7:=hmap0.lt;have bD:=hM.bD;have bS:=hM.bS;have bU:=hM.bU;have lD:=aF bD;have lS:=aF bS;have lU:=aF bU;obtain ⟨W1,hW1⟩:∃ W1,W1=W.alloc (.cells #[.func (.yield l) #[] #[]] 108):=⟨_,rfl⟩;have hB1:ag W W1:=by rw [hW1]; exact (TT _ _).alloc (TS _) _
 have s1:W1.heap.size=W.heap.size + 1:=by rw [hW1,World.size_alloc]
 have y1:gV W1 W.heap.size (SG l) 108:=by rw [hW1]; exact World.alloc_heap_new W _
 have bD1:=bi hB1 lD bD;have bS1:=bi hB1 lS bS;have bU1:=bi hB1 lU bU;clear hM hmap0;refine callsIn_of_wp_marks func144 rfl trivial ?_ rfl;simp only [ntmps144,List.size_toArray,List.length_cons,List.length_nil,Nat.reduceAdd,Nat.reduceSub,Array.replicate_succ,Array.replicate_zero,List.push_toArray,List.append_toArray,List.nil_append,List.cons_append]
 gi_wp2_with fail
 rw [← hW1];clear hW1;refine ⟨trivial,fun _=>by omega,(callsIn_wide.2 (Bd D sn Vt us.length UM W1)).mono ?_⟩;rintro e W2 ⟨rfl,hW2⟩;have hB2:ag W1 W2:=by rw [hW2]; exact (((TT _ _).alloc (TS _) _).alloc (by simp) _).alloc (by simp; omega) _
 have s2:W2.heap.size=W.heap.size + 1 + 1 + 1 + 1:=by rw [hW2,World.size_alloc,World.size_alloc,World.size_alloc,s1]
 have NB:NBx W2 W.heap.size l D sn (.slice Vt us.length UM):=by
  obtain ⟨V1,e1⟩:∃ V,V=W1.alloc (.cells #[.pointer (some ⟨D,0,none⟩)] 97):=⟨_,rfl⟩;obtain ⟨V2,e2⟩:∃ V,V=V1.alloc (.cells #[.int .i64 sn] 2):=⟨_,rfl⟩;rw [← e1,← e2] at hW2;have t1:V1.heap.size=W.heap.size + 1 + 1:=by rw [e1,World.size_alloc,s1]
  have t2:V2.heap.size=W.heap.size + 1 + 1 + 1:=by rw [e2,World.size_alloc,t1]
  have f1:ag W1 V1:=by rw [e1]; exact (TT _ _).alloc (TS _) _
  have f2:ag V1 V2:=by rw [e2]; exact (TT _ _).alloc (TS _) _
  have f3:ag V2 W2:=by rw [hW2]; exact (TT _ _).alloc (TS _) _
  have g1:gV V1 (W.heap.size + 1) (.pointer (some ⟨D,0,none⟩)) 97:=by rw [e1,← s1]; exact World.alloc_heap_new W1 _
  have g2:gV V2 (W.heap.size + 1 + 1) (.int .i64 sn) 2:=by rw [e2,← t1]; exact World.alloc_heap_new V1 _
  have g3:gV W2 (W.heap.size + 1 + 1 + 1) (.slice Vt us.length UM) 49:=by rw [hW2,← t2]; exact World.alloc_heap_new V2 _
  exact ⟨((y1.bel f1).bel f2).bel f3,(g1.bel f2).bel f3,g2.bel f3,g3⟩
 have hB02:ag W W2:=hB1.trans (hB2.mono hB1.size);have J2:=mY hJ h0 hB02;rw [s1];clear hW2 y1 bD bS bU bD1 bS1 bU1 hB1 hB2 lD lS lU;gi_wp2
 refine qM (α:=Fc) rfl (by omega) (gf:=199) (lb:=#[.pointer (some ⟨W.heap.size + 1,0,none⟩),.pointer (some ⟨W.heap.size + 1 + 1,0,none⟩),.pointer (some ⟨W.heap.size + 1 + 1 + 1,0,none⟩)]) rfl trivial (enters_of func199 (by kernel_rfl) rfl)
  (PD (n - 1) (by omega) D br nr Mr st rs Wj VW xo (W.heap.size + 1) (W.heap.size + 1 + 1) (W.heap.size + 1 + 1 + 1) sn Vt UM us W2 hs0 hs1 hol Yd hrl (fun o ho=>(hof o ho).1)) (TT _ _) (fun _=>rfl) (fun h k=>h.trans k) (fun X lx o o' h1 h2=>KpI.put h1 h2)
  (fun pre X=>(∃ xs,bG (fC (ae rs) ts) pre VR=VR ++ xs∧J xs X)∧NBx X W.heap.size l D sn (.slice Vt us.length UM))
  ?own ?tell ⟨⟨[],by rw [List.append_nil]; rfl,J2⟩,NB⟩
  (fun x a' X=>∃ Bx,vO X Bx x∧a'={ tmps:=#[.func (.yield l) #[] #[],.pointer (some ⟨hD,0,none⟩),.pointer (some ⟨hS,0,none⟩),.pointer (some ⟨hU,0,none⟩),.pointer (some ⟨hK,0,none⟩),.pointer (some ⟨W.heap.size,0,none⟩),.pointer (some ⟨Bx,0,none⟩),.pointer (some ⟨D,0,none⟩),.int .i64 sn,.slice Vt us.length UM,.func (.func 199) #[] #[.pointer (some ⟨W.heap.size + 1,0,none⟩),.pointer (some ⟨W.heap.size + 1 + 1,0,none⟩),.pointer (some ⟨W.heap.size + 1 + 1 + 1,0,none⟩)],.agg #[.string x.a,.string x.b,.string x.r,.string x.c,.string x.d],undef,undef,undef,undef,undef,undef,undef,undef,undef,undef,undef,undef,undef,undef,undef,undef],defers:=[] })
  (fun x a' s X Y row hs hg hr=>by obtain ⟨Bx,h,e⟩:=hs; exact ⟨Bx,G6 (B0:=W2.heap.size) (g:=Bx) (x:=x) () X Y row h hg hr,e⟩) ?assign ?body ?done
 case own =>
  refine OwnFrom.and (fun pre X Y row hs hg hr=>?_) (QV (by omega));obtain ⟨xs,h1,h2⟩:=hs;exact ⟨xs,h1,hJ xs X Y row h2 hg fun r e=>⟨by have:=(hr r e).1; have:=hB02.size; omega,(hr r e).2⟩⟩
 case tell =>
  rintro pre X ⟨⟨xs,h1,h2⟩,hb⟩;have hm:=hT _ _ h2;obtain ⟨UJ,cap',e,hso⟩:=kE hm.dat.dat.objs;injection e with ea eb ec;exact ⟨hm.dat.dat.c2,hm.dat.dat.c4,by rw [ea]; exact hso,hm.dat.rel,hb.d.c,hb.s.c,hb.u.c,hm.users⟩
 case assign =>
  rintro l' pre x X K ⟨⟨xs,h1,h2⟩,hb⟩ hKK;unfold DF;gi_wp2;have hbl:ag X (X.alloc (.cells #[.string x.a,.string x.b,.string x.r,.string x.c,.string x.d] 29)):=(TT _ _).alloc (TS _) _;exact hKK _ _ ((KeepsOthers.alloc _ _).from _) (KpI.below hbl) ⟨⟨xs,h1,mY hJ h2 hbl⟩,hb.bel hbl⟩ ⟨X.heap.size,World.alloc_heap_new X _,rfl⟩
 case body =>
  rintro l' pre x a' X hl hEx ⟨⟨xs,hrun,hJx⟩,NBX⟩ ⟨Bx,bX,rfl⟩;have hm:=hT _ _ hJx;obtain ⟨nK,hmap⟩:=hm.map;obtain ⟨c0,c1,c2,c3,c4,cl⟩:=bX.c;have bM:=hm.bM;have lM:=aF bM;obtain ⟨hkey,YO⟩:=G7 hof huf hrf hEx
  gi_wp2_with fail
  refine ⟨trivial,fun _=>by omega,(PN (vJ bK nK (VR ++ xs) x X YO hmap)).mono ?_⟩;rintro e X2 ⟨rfl,hb2⟩;have J2':=mY hJ hJx hb2;have NB2:=NBX.bel hb2;cases hh:bP (VR ++ xs) x;case true=>
   have hr2:bG (fC (ae rs) ts) (pre ++ [x]) VR=VR ++ xs:=by rw [rQ,hrun,vM (.inl hh)]
   clear c0 c1 c2 c3 c4 cl bM lM hm;gi_wp2;refine ⟨trivial,?_⟩;gi_wp2;refine ⟨fun f h=>(by cases h),?_⟩;gi_wp2;exact ⟨x9 hb2,KpI.below hb2,⟨xs,hr2,J2'⟩,NB2⟩
  have bX2:=bX.bel hb2;have hm2:=hT _ _ J2';obtain ⟨nK2,hmap2⟩:=hm2.map;have bM2:=hm2.bM;have bD2:=hm2.bD;obtain ⟨d0,d1,d2,d3,d4,dl⟩:=bX2.c;clear c0 c1 c2 c3 c4 cl bM lM hm
  gi_wp2_with fail
  refine ⟨trivial,fun _=>by omega,(PN (MO hm2.dat hmap2 YO hts htl hsh hkey hm2.sch)).mono ?_⟩;rintro e X3 ⟨rfl,hb3⟩;have XQ:ag X X3:=hb2.trans (hb3.mono hb2.size);have J3':=mY hJ J2' hb3;have NB3:=NB2.bel hb3;clear hm2;cases hv:fC (ae rs) ts (VR ++ xs) x;case false=>
   have hr2:bG (fC (ae rs) ts) (pre ++ [x]) VR=VR ++ xs:=by rw [rQ,hrun,vM (.inr hv)]
   clear d0 d1 d2 d3 d4 dl bM2 bD2;gi_wp2;refine ⟨fun f h=>(by cases h),?_⟩;gi_wp2;exact ⟨x9 XQ,KpI.below XQ,⟨xs,hr2,J3'⟩,NB3⟩
  have hr2:bG (fC (ae rs) ts) (pre ++ [x]) VR=VR ++ (xs ++ [x]):=by rw [rQ,hrun,DI hh hv,List.append_assoc]
  obtain ⟨fn,tmps,assign,body,hy,hR⟩:=hY xs x X3 J3' ⟨hEx,fun hm=>by rw [dB.2 hm] at hh; cases hh⟩;unfold DF at hy;obtain ⟨f0,f1,f2,f3,f4,fl⟩:=(bX2.bel hb3).c;have yc:=NB3.y.c;have yl:=aF yc;unfold SG at yc;clear d0 d1 d2 d3 d4 dl bM2 bD2;gi_wp2;refine ⟨fun _=>by omega,(SH hR).mono ?_⟩;rintro e X4 ⟨rfl,hJ4,hK4⟩;have hk24:KpO bK l X X4:=(KpO.below XQ).trans hK4;have NB4:=NB3.kp hK4;clear f0 f1 f2 f3 f4 fl yc yl hy;gi_wp2;exact ⟨PO hk24 (by omega) (by omega),hk24.toI,⟨xs ++ [x],hr2,hJ4⟩,NB4⟩
 case done =>
  rintro Dd ys X hDd hS ⟨⟨xs,h1,h2⟩,-⟩ hKd;rw [hS] at h1;gi_wp2;refine ⟨by simp,.inl ⟨_,_,rfl,run_takeDeferred hKd,?_⟩⟩;exact ⟨_,results_none rfl _ _ _,⟨_,rfl⟩,xs,h1,hJ.putObj _ h2 (by have:=hB02.size; omega) hKd rfl⟩
end Go.Proofs.YtajkkeikihhejaaGreat
namespace Go.Proofs.YtajkkeikihhejaaGreat
set_option linter.unusedVariables false
set_option maxRecDepth 100000
open Go.ChangeShapes Go.WideShapes Go.ChangeAt Go.RowKit Go.Maps
open Pl
def QW (u:Al) (g:Fc):Bool:=A9 g.c g.d u.t u.s
theorem MQ (p:Fc→Bool) {zs:List Fc} {k:Nat} (h:k < zs.length):(zs.drop k).any p=(p zs[k] || (zs.drop (k + 1)).any p):=by rw [Un h]; rfl
theorem BA.at0 {w:af} {ad:Option Addr} {fs:List Fc} (h:BA w ad fs) {k:Nat} (hk:k < fs.length):∃ b off,ad=some ⟨b,off,none⟩∧wS w b (off + k * 5) fs[k]∧b < w.heap.size:=by
 rcases h with h | ⟨b',off',e,hb,hr⟩
 ·rw [h] at hk; simp at hk
 exact ⟨b',off',e,hr k hk,hb⟩
theorem QX (g:Nat) (u:Al) (f:Fc) (w:af) (hg:g < w.heap.size) (h0:w.cell? ⟨g,0,none⟩=some (.string u.t)) (h1:w.cell? ⟨g,1,none⟩=some (.string u.s)) :
  Calls prog 148 #[.agg #[.string f.a,.string f.b,.string f.r,.string f.c,.string f.d],.pointer (some ⟨g,0,none⟩)] w fun e w'=>e=.returned (.bool (QW u f))∧ag w w':=by
 have HB:Hid (ag w (w.alloc (.cells #[.string f.a,.string f.b,.string f.r,.string f.c,.string f.d] 29))):=(TT _ _).alloc (TS _) _;have heq:=jJ f.c f.d u.t u.s rfl;go_enter func148,ntmps148;go_wp2;go_ret;exact ⟨rfl,HB.out⟩
theorem SI (xs:Array Value) (u:af):(callFunc 148 xs).run prog u=.ok (.enter 148 xs) u:=by kernel_rfl
theorem G8 (FC:Nat) (rc cp:Array Value) (p:Fc→Bool) (ad:Option Addr) (cap:Nat) (xs:List Fc) (w:af) (hlen:xs.length≤1048576) (hs:BA w ad xs)
  (hrun:∀ (ys:Array Value) (u:World),(callFunc FC ys).run prog u=.ok (.enter FC ys) u) (hp:∀ x ∈ xs,∀ w1:World,ag w w1→Calls prog FC (rc.push (.agg #[.string x.a,.string x.b,.string x.r,.string x.c,.string x.d]) ++ cp) w1 fun e w'=>e=.returned (.bool (p x))∧ag w1 w') :
  Calls prog 200 #[.slice ad xs.length cap,.func (Fn.func FC) rc cp] w fun e w'=>(∃ r:Int,e=.returned (.int .i64 r)∧decide (0≤r)=xs.any p)∧ag w w':=by
 have HS:=aC hs;have HRUN:=aC hrun;have HP:=aC hp;clear hs hrun hp;have HD:Hid (∀ k (h:k < xs.length),(xs.drop k).any p=(p xs[k] || (xs.drop (k + 1)).any p)):=fun k h=>MQ p h;go_enter func200,ntmps200;go_wp2_with fail;go_loopw [8] (fun i wr=>∃ k:Nat,k≤xs.length∧i=.int .i64 k∧Hid ((xs.drop k).any p=xs.any p)∧Hid (ag w wr)) (fun i _=>xs.length - (intOf i).toNat);case atStart=>exact ⟨0,TW _,rfl,rfl,TT _ _⟩
 obtain ⟨k,hk,rfl,HQ,HB⟩:=hrel;by_cases hlt:k < xs.length
 ·obtain ⟨b,off,UF,⟨t0,t1,t2,t3,t4⟩,hbl⟩:=BA.at0 (HS.out.below HB.out) hlt;have HM:Hid (xs[k] ∈ xs):=TQ hlt;have hk1:=bB k;have hk2:(k:Int) < (xs.length:Int):=by omega
  have HD2:=aC (HD.out k hlt);subst UF;go_wp2_with fail;rw [HRUN.out,Oper.upon_enter];refine (HP.out _ HM.out _ HB.out).mono ?_;rintro e w1 ⟨rfl,hb1⟩;have HB1:=jP HB hb1;clear hb1 t0 t1 t2 t3 t4;cases he:p xs[k];case true=>
   have HN:Hid (xs.any p=true):=by show _=_; rw [← HQ.out,HD2.out,he]; rfl
   go_wp2;go_ret;exact ⟨⟨k,rfl,by rw [HN.out]; simp⟩,HB1.out⟩
  have HQ2:Hid ((xs.drop (k + 1)).any p=xs.any p):=by show _=_; rw [← HQ.out,HD2.out,he]; rfl
  go_wp2;go_roundw;case rel=>exact ⟨k + 1,by omega,by go_num,HQ2,HB1⟩
  simp [intOf] <;> omega
 have HN:Hid (xs.any p=false):=by show _=_; rw [← HQ.out,List.drop_of_length_le (by omega)]; rfl
 go_wp2;go_ret;exact ⟨⟨-1,rfl,by rw [HN.out]; simp⟩,HB.out⟩
theorem Be (FC:Nat) (rc cp:Array Value) (p:Fc→Bool) (ad:Option Addr) (cap:Nat) (xs:List Fc) (w:af) (hlen:xs.length≤1048576) (hs:BA w ad xs)
  (hrun:∀ (ys:Array Value) (u:World),(callFunc FC ys).run prog u=.ok (.enter FC ys) u) (hp:∀ x ∈ xs,∀ w1:World,ag w w1→Calls prog FC (rc.push (.agg #[.string x.a,.string x.b,.string x.r,.string x.c,.string x.d]) ++ cp) w1 fun e w'=>e=.returned (.bool (p x))∧ag w1 w') :
  Calls prog 147 #[.slice ad xs.length cap,.func (Fn.func FC) rc cp] w fun e w'=>e=.returned (.bool (xs.any p))∧ag w w':=by
 have HC:=aC (G8 FC rc cp p ad cap xs w hlen hs hrun hp);clear hs hrun hp;go_enter func147,ntmps147;go_wp2_with fail;refine HC.out.mono ?_;rintro e w' ⟨⟨r,rfl,hr⟩,hbx⟩;have HR:=aC hr;clear hr;go_wp2;go_ret;exact ⟨by rw [← HR.out]; rfl,hbx⟩
theorem JR {us:List Al} {new:List Fc} {k:Nat} (h:k < us.length):fe (us.take (k + 1)) new=fe (us.take k) new ++ (if new.any (QW us[k]) then [us[k]] else []):=by
 unfold fe;rw [TV h,Uz];congr 1;rw [List.filter_cons];rfl
theorem DJ (us:List Al) (new:List Fc):(fe us new).length≤us.length:=List.length_filter_le _ _
theorem qR (Vt:Option Addr) (UM:Nat) (us:List Al) (XW:Option Addr) (Vu:Nat) (new:List Fc) (w:af) (Yd:us.length≤1000) (hnl:new.length≤1048576) (hu:jM w Vt us) (hf:BA w XW new) :
  Calls prog 103 #[.slice Vt us.length UM,.slice XW new.length Vu] w fun e w'=>(∃ v,e=.returned v∧w'.ownsRow w.heap.size 27 2 v (fe us new).length (pairs (fe us new)))∧ag w w':=by
 obtain ⟨iO,h0,h1,h2,h3⟩:=AV;have Yv:=aD (And.intro h0 (And.intro h1 (And.intro h2 h3)));have HU:=aD hu;have HF:=aD hf;have V7:Hid (w.ownsRow w.heap.size 27 2 (.slice none 0 0) (fe (us.take 0) new).length (pairs (fe (us.take 0) new))):=World.ownsRow_nil _ _ _ _;clear hu hf h0 h1 h2 h3;go_enter func103,ntmps103;go_wp2_with fail;go_loopw [5,10] (fun v i wr=>∃ k:Nat,k≤us.length∧i=.int .i64 k∧Hid (wr.ownsRow w.heap.size 27 2 v (fe (us.take k) new).length (pairs (fe (us.take k) new)))∧Hid (ag w wr)) (fun _ i _=>us.length - (intOf i).toNat);case atStart=>exact ⟨0,TW _,rfl,V7,TT _ _⟩
 clear V7;obtain ⟨k,hk,rfl,HO,HB⟩:=hrel;by_cases hlt:k < us.length
 ·obtain ⟨b,off,UF,⟨t0,t1⟩,hbl⟩:=jM.at0 (HU.out.below HB.out) hlt;have hi1:=bB k;have hi2:(k:Int) < (us.length:Int):=by omega
  have HKT:=aD (JR (new:=new) hlt);have hkl:=DJ (us.take k) new;rw [Ut] at hkl;obtain ⟨u,hu⟩:∃ u,u=us[k]:=⟨_,rfl⟩;rw [← hu] at t0 t1 HKT;clear hu;obtain ⟨W1,hW1⟩:∃ W1,W1=wr.alloc (.cells #[.string u.t,.string u.s] 27):=⟨_,rfl⟩;have VO:=qZ hW1;have HB1:=aD (HB.out.trans (VO.out.mono HB.out.size));have d0:W1.cell? ⟨wr.heap.size,0,none⟩=some (.string u.t):=by rw [hW1]; simp
  have d1:W1.cell? ⟨wr.heap.size,1,none⟩=some (.string u.s):=by rw [hW1]; simp
  have dl:wr.heap.size < W1.heap.size:=aF d0;have UV:=aD (cO HO.out VO.out);obtain ⟨ys,hys⟩:∃ ys,ys=fe (us.take k) new:=⟨_,rfl⟩;rw [← hys] at UV HKT hkl;obtain ⟨adV,Yl,rfl,-⟩:=kE UV.out;have Vm:=aD (Be 148 #[] #[.pointer (some ⟨wr.heap.size,0,none⟩)] (QW u) XW Vu new W1 hnl (HF.out.below HB1.out) SI (fun x hx w1 hb=>QX wr.heap.size u x w1 (TP dl hb.size) (bi hb dl d0) (bi hb dl d1)));subst UF;clear hys HO;go_wp2_with fail;rw [← hW1];clear hW1 t0 t1;refine Vm.out.mono ?_;rintro e w2 ⟨rfl,hb2⟩;have HB2:=aD (HB1.out.trans (hb2.mono HB1.out.size));have UB:=aD (cO UV.out hb2);replace d0:=bi hb2 dl d0;replace d1:=bi hb2 dl d1;replace dl:=TP dl hb2.size;clear hb2 Vm UV VO;cases hh:new.any (QW u);case false=>
   have HR:Hid (w2.ownsRow w.heap.size 27 2 (.slice adV ys.length Yl) (fe (us.take (k + 1)) new).length (pairs (fe (us.take (k + 1)) new))):=by
    show World.ownsRow _ _ _ _ _ _ _;rw [HKT.out,hh]; simp only [Bool.false_eq_true,if_false,List.append_nil]; exact UB.out
   go_wp2;go_roundw;case rel=>exact ⟨k + 1,by omega,by go_num,HR,HB2⟩
   simp [intOf] <;> omega
  have HWE:Hid (fe (us.take (k + 1)) new=ys ++ [u]):=by show _=_; rw [HKT.out,hh]; rfl
  obtain ⟨W4,VX⟩:∃ W4,W4=w2.alloc (.cells #[.string u.t,.string u.s] 27):=⟨_,rfl⟩;have UT:Hid (W4.ownsRow w.heap.size 27 2 (.slice adV ys.length Yl) ys.length (pairs ys)):=by show World.ownsRow _ _ _ _ _ _ _; rw [VX]; exact UB.out.alloc _
  have HN4:Hid (∀ j x,[Value.string u.t,.string u.s][j]?=some x→W4.cell? ((⟨w2.heap.size,0,none⟩:Addr).add j)=some x):=by rw [VX]; exact RH w2 u
  have Xf:Hid (ag w W4):=by show Below _ _ _; rw [VX]; exact HB2.out.alloc HB2.out.size _
  have hsz4:w.heap.size≤W4.heap.size:=Xf.out.size;clear hh;go_wp2_with (at_builtin; rw [← VX]; clear VX; refine wpList_append_own_at _ rfl _ _ 49 rfl w.heap.size 27 iO (.agg #[.string ⟨#[]⟩,.string ⟨#[]⟩]) 2 32 underlying49 Yv.out.1 Yv.out.2.1 Yv.out.2.2.1 Yv.out.2.2.2 rfl (by decide) _ ys.length (pairs ys) rfl UT.out ⟨w2.heap.size,0,none⟩ 1 1 [.string u.t,.string u.s] rfl rfl HN4.out (by simp [Value.oneCell']) (by unfold maxLen; omega) (by omega) hsz4 ?_);intro v' w5 hown hgr _ _;have HR:Hid (w5.ownsRow w.heap.size 27 2 v' (fe (us.take (k + 1)) new).length (pairs (fe (us.take (k + 1)) new))):=by
   show World.ownsRow _ _ _ _ _ _ _;rw [HWE.out,T9];have:pairs (ys ++ [u])=pairs ys ++ [.string u.t,.string u.s]:=by simp [pairs]
   rw [this]; exact hown
  have Yj:Hid (ag w w5):=Xf.out.grown hgr Xf.out.size (fun g hg=>(UT.out.lt g hg).1);clear hown hgr d0 d1 dl;go_wp2;go_roundw;case rel=>exact ⟨k + 1,by omega,by go_num,HR,Yj⟩
  simp [intOf] <;> omega
 have HE:Hid (wr.ownsRow w.heap.size 27 2 u5 (fe us new).length (pairs (fe us new))):=by
  have h:=HO.out;rw [List.take_of_length_le (by omega)] at h;exact h
 clear HO;go_wp2;go_ret;exact ⟨⟨_,rfl,HE.out⟩,HB.out⟩
open Go.Shelf
theorem yB {K:Type} {enc:K→Value} {P:Program} {F:Fence} {nF:Nat} (w:af) {ops:Array Oper} {rest:List Oper} {o:Oper} {a:Act} {Q:Exit→Act→World→Prop} [DecidableEq K] (hg:o.guard=none) (m x v:Operand) (t:TypeId) (hop:o.op=Op.mapUpdate t m x v) (k e:TypeId) (L:Keyed P k) (hinj:∀ x y,enc x=enc y→x=y) (ht:P.underlying t=some (.map k e)) (b n:Nat) (M:K→Option Value)
  (hm:a.eval m=.map (some b)) (hV:aM enc P k w b n M) (hn:n < maxLen) (y:K) (kl:Lit) (hx:a.eval x=enc y) (hkey:keyOf P k (enc y)=some kl) (u:Value) (hv:a.eval v=u)
  (hK:∀ w',aM enc P k w' b (n + 1) (lc M y (some u))→w.grownBy w' (some b)→wpListIn F nF P ops Q rest (a.put o.dst undef) w'):wpListIn F nF P ops Q (o::rest) a w:=by
 refine wpListIn_plain hg fun K' hK'=>?_;obtain ⟨w',hrun,r1,r2⟩:=hV.store L hinj ht hn hkey u;unfold Oper.wpIn;refine ⟨by simp [Oper.about,hop],?_⟩;rw [Oper.semAt_plain F _ _ (by rw [hop]; intro c hc'; cases hc')];simp [execOp,hop,hm,hx,hv,hrun,Result.andThen];exact hK' _ _ (hK w' r1 r2)
theorem QY [DecidableEq Fc] (out:List Fc) (f:Fc):lc (BR out) f (some (.agg #[]))=BR (out ++ [f]):=by
 funext y
 by_cases e:y=f
 ·subst e;rw [d9];unfold BR;rw [if_pos (dB.2 (by simp))]
 rw [cz e];unfold BR;have:bP (out ++ [f]) y=bP out y:=by
  rw [Bool.eq_iff_iff,dB,dB];simp [e]
 rw [this]
def marks (rl:List Nat):List Deferred:=rl.map fun r=>{ target:=.collected r,args:=#[] }
def iX (W:World) (rl:List Nat):Prop:=rl.Nodup∧∀ r ∈ rl,W.heap[r]?=some (.deferred (some []))
theorem iX.kp {b l:Nat} {W W':af} {rl:List Nat} (h:iX W rl) (hk:KpO b l W W') (hl:l ∉ rl) (hb:b ∉ rl):iX W' rl :=
 ⟨h.1,fun r hr=>hk.other r _ (h.2 r hr) rfl (fun e=>hl (e ▸ hr)) (fun e=>hb (e ▸ hr))⟩
theorem iX.bel {W W':af} {rl:List Nat} (h:iX W rl) (hb:ag W W'):iX W' rl :=
 ⟨h.1,fun r hr=>(hb.block r (Array.getElem?_eq_some_iff.1 (h.2 r hr)).1).trans (h.2 r hr)⟩
theorem iX.lt {W:af} {rl:List Nat} (h:iX W rl) {r:Nat} (hr:r ∈ rl):r < W.heap.size:=(Array.getElem?_eq_some_iff.1 (h.2 r hr)).1
theorem vP {n:Nat} {P:Program} {fn:Func} {tmps:Array Value} {R:Ending→World→Prop} (B:Nat) (Inv:World→Prop) (hinv:∀ W r,B < r→Inv W→W.heap[r]?=some (.deferred (some []))→Inv (W.putObj r (.deferred none))) (hend:∀ W,Inv W→LeavesIn Fence.wide n P fn tmps R [] .returning W):∀ (rl:List Nat) (W:af),iX W rl→(∀ r ∈ rl,B < r)→Inv W→LeavesInM Fence.wide n P fn tmps R (marks rl) .returning W
 | [],W,_,_,hI=>hend W hI
 | r::rl,W,hm,hB,hI=>by
  have hr:=hm.2 r (by simp);obtain ⟨h1,h2⟩:=List.nodup_cons.1 hm.1;refine ⟨by simp,.inl ⟨r,_,rfl,run_takeDeferred hr,vP B Inv hinv hend rl _ ⟨h2,fun q hq=>?_⟩ (fun q hq=>hB q (by simp [hq])) (hinv W r (hB r (by simp)) hI hr)⟩⟩;have hne:q ≠ r:=fun e=>h1 (e ▸ hq);rw [ol hne];exact hm.2 q (by simp [hq])
theorem Kz {b l:Nat} {W W':af} {base size n:Nat} {T:TypeId} {v:Value} {xs:List Value} (h:W.ownsRow base T size v n xs) (hk:KpO b l W W') (h1:T ≠ 29) (h2:T ≠ 40):W'.ownsRow base T size v n xs :=
 ed h fun g hg=>by
  obtain ⟨cur,e⟩:=jH h hg;rw [hk.cells g _ _ _ e h1 h2,e]
structure FBx (W:World) (B D:Nat) (sn:Int) (vU:Value) (bK:Nat):Prop where
 d:gV W B (.pointer (some ⟨D,0,none⟩)) 97
 s:gV W (B + 1) (.int .i64 sn) 2
 u:gV W (B + 1 + 1) vU 49
 k:gV W (B + 1 + 1 + 1) (.map (some bK)) 107
theorem FBx.kp {b l0:Nat} {W W':af} {B D:Nat} {sn:Int} {vU:Value} {bK:Nat} (h:FBx W B D sn vU bK) (hk:KpO b l0 W W'):FBx W' B D sn vU bK :=
 ⟨h.d.kp hk (by decide) (by decide),h.s.kp hk (by decide) (by decide),h.u.kp hk (by decide) (by decide),h.k.kp hk (by decide) (by decide)⟩
theorem QZ (w:af) (D:Nat) (sn:Int) (vU:Value) (bK:Nat) {W:af} (hW:W=(((w.alloc (.cells #[.pointer (some ⟨D,0,none⟩)] 97)).alloc (.cells #[.int .i64 sn] 2)).alloc (.cells #[vU] 49)).alloc (.cells #[.map (some bK)] 107)):FBx W w.heap.size D sn vU bK∧ag w W∧W.heap.size=w.heap.size + 1 + 1 + 1 + 1:=by
 obtain ⟨V1,e1⟩:∃ V,V=w.alloc (.cells #[.pointer (some ⟨D,0,none⟩)] 97):=⟨_,rfl⟩;obtain ⟨V2,e2⟩:∃ V,V=V1.alloc (.cells #[.int .i64 sn] 2):=⟨_,rfl⟩;obtain ⟨V3,e3⟩:∃ V,V=V2.alloc (.cells #[vU] 49):=⟨_,rfl⟩;rw [← e1,← e2,← e3] at hW;have t1:V1.heap.size=w.heap.size + 1:=by rw [e1,World.size_alloc]
 have t2:V2.heap.size=w.heap.size + 1 + 1:=by rw [e2,World.size_alloc,t1]
 have t3:V3.heap.size=w.heap.size + 1 + 1 + 1:=by rw [e3,World.size_alloc,t2]
 have f1:ag w V1:=by rw [e1]; exact (TT _ _).alloc (TS _) _
 have f2:ag V1 V2:=by rw [e2]; exact (TT _ _).alloc (TS _) _
 have f3:ag V2 V3:=by rw [e3]; exact (TT _ _).alloc (TS _) _
 have f4:ag V3 W:=by rw [hW]; exact (TT _ _).alloc (TS _) _
 have g1:gV V1 w.heap.size (.pointer (some ⟨D,0,none⟩)) 97:=by rw [e1]; exact World.alloc_heap_new w _
 have g2:gV V2 (w.heap.size + 1) (.int .i64 sn) 2:=by rw [e2,← t1]; exact World.alloc_heap_new V1 _
 have g3:gV V3 (w.heap.size + 1 + 1) vU 49:=by rw [e3,← t2]; exact World.alloc_heap_new V2 _
 have g4:gV W (w.heap.size + 1 + 1 + 1) (.map (some bK)) 107:=by rw [hW,← t3]; exact World.alloc_heap_new V3 _
 have f12:=f1.trans (f2.mono f1.size);have f13:=f12.trans (f3.mono f12.size);exact ⟨⟨((g1.bel f2).bel f3).bel f4,(g2.bel f3).bel f4,g3.bel f4,g4⟩,f13.trans (f4.mono f13.size),by rw [hW,World.size_alloc,t3]⟩
theorem Q0 {β:Type} {b l:Nat} {X:af}:OwnFrom X.heap.size (fun (_:β) Y=>KpO b l X Y):=fun s Y Z row hs hg hr=>by
 have key:∀ (g:Nat) (o:Obj),X.heap[g]?=some o→Y.heap[g]?=some o→Z.heap[g]?=some o:=fun g o h1 h2=>(hg.block g (Array.getElem?_eq_some_iff.1 h2).1 fun e=>by
  have h3:=(hr g e.symm).1;have h4:=(Array.getElem?_eq_some_iff.1 h1).1;omega).trans h2
 exact ⟨TZ hs.size hg.size,fun g cs T m h h1 h2=>key g _ h (hs.cells g cs T m h h1 h2),fun g o h hc n1 n2=>key g _ h (hs.other g o h hc n1 n2)⟩
structure FoW (w X:World) (v:Value) (out:List Fc):Prop where
 bel:ag w X
 box:gV X w.heap.size v 40
 row:X.ownsRow (w.heap.size + 1) 29 5 v out.length (aH out)
 map:aM om prog 29 X (w.heap.size + 1) out.length (BR out)
theorem FoW.below {w X X':af} {v:Value} {out:List Fc} (h:FoW w X v out) (hb:ag X X'):FoW w X' v out :=
 ⟨h.bel.trans (hb.mono h.bel.size),h.box.bel hb,cO h.row hb,h.map.below hb⟩
theorem FoW.kept {w X X':af} {v:Value} {out:List Fc} (h:FoW w X v out) {row:Option Nat} (hg:X.grownBy X' row) (hr:∀ r,row=some r→w.heap.size + 1 < r∧(∃ o,X.heap[r]?=some o∧o.isCells=false)):FoW w X' v out where
 bel:=h.bel.grown hg h.bel.size (fun g e=>by have:=(hr g e).1; omega)
 box:=(hg.block _ (Array.getElem?_eq_some_iff.1 h.box).1 fun e=>by have:=(hr _ e.symm).1; omega).trans h.box
 row:=ed h.row fun g hg2=>hg.block g (h.row.lt g hg2).2 fun e=>by
  obtain ⟨-,o,ho,hc⟩:=hr g e.symm;obtain ⟨cur,e2⟩:=jH h.row hg2;rw [e2] at ho; cases ho; cases hc
 map:=h.map.kept hg (fun e=>by have:=(hr _ e.symm).1; omega)
theorem FoW.step {w X Y V:af} {v v':Value} {out:List Fc} {f:Fc} [DecidableEq Fc] (h:FoW w X v out) (hM:aM om prog 29 Y (w.heap.size + 1) (out.length + 1) (lc (BR out) f (some (.agg #[])))) (hg1:X.grownBy Y (some (w.heap.size + 1)))
  {Y':World} (hY':ag Y Y') (hown:V.ownsRow (w.heap.size + 1) 29 5 v' (out.length + 1) (aH out ++ f.row)) (hg2:Y'.grownBy V v.ownBlock) (hat:v'.ownBlock=v.ownBlock ∨ v'.ownBlock=some Y'.heap.size) (l:Nat) :
  FoW w (V.setCell ⟨w.heap.size,0,none⟩ v') v' (out ++ [f])∧KpO (w.heap.size + 1) l X (V.setCell ⟨w.heap.size,0,none⟩ v')∧KeepsFrom (w.heap.size + 1 + 1) X (V.setCell ⟨w.heap.size,0,none⟩ v'):=by
 obtain ⟨es,c,hmb⟩:=pE h.map;have hlB:w.heap.size < X.heap.size:=(Array.getElem?_eq_some_iff.1 h.box).1;have hvB:v.ownBlock ≠ some w.heap.size:=fun e=>by have:=(h.row.lt _ e).1; omega
 have hvM:v.ownBlock ≠ some (w.heap.size + 1):=fun e=>EP h.row e hmb;have key:∀ (g:Nat) (o:Obj),X.heap[g]?=some o→g ≠ w.heap.size + 1→g ≠ w.heap.size→v.ownBlock ≠ some g→(V.setCell ⟨w.heap.size,0,none⟩ v').heap[g]?=some o:=fun g o hg n1 n2 n3=>by
  have hl:=(Array.getElem?_eq_some_iff.1 hg).1;have y1:Y.heap[g]?=some o:=(hg1.block g hl (fun e=>n1 (by injection e))).trans hg;have hl1:=(Array.getElem?_eq_some_iff.1 y1).1;have y2:Y'.heap[g]?=some o:=(hY'.block g hl1).trans y1;have hl2:=(Array.getElem?_eq_some_iff.1 y2).1;have y3:V.heap[g]?=some o:=(hg2.block g hl2 (fun e=>n3 e.symm)).trans y2;exact (heap_setCell_other V ⟨w.heap.size,0,none⟩ g v' n2).trans y3
 have hVB:V.heap[w.heap.size]?=some (.cells #[v] 40 (0,0)):=by
  have y1:Y.heap[w.heap.size]?=_:=(hg1.block _ hlB (fun e=>by injection e with e; omega)).trans h.box;have y2:Y'.heap[w.heap.size]?=_:=(hY'.block _ (Array.getElem?_eq_some_iff.1 y1).1).trans y1;exact (hg2.block _ (Array.getElem?_eq_some_iff.1 y2).1 (fun e=>hvB e.symm)).trans y2
 have b1:ag w Y:=h.bel.grown hg1 h.bel.size (fun g e=>by injection e with e; omega);have b2:ag w Y':=b1.trans (hY'.mono b1.size);have b3:ag w V:=b2.grown hg2 b2.size (fun g e=>by have:=(h.row.lt g e).1; omega);have sz:X.heap.size≤(V.setCell ⟨w.heap.size,0,none⟩ v').heap.size:=by
  have e1:=hg1.size;have e2:=hY'.size;have e3:=hg2.size;simp; omega
 refine ⟨⟨b3.setCell (TS _) _,?_,?_,?_⟩,⟨sz,fun g cs T m hg h1 h2=>?_,fun g o hg hc n1 n2=>?_⟩,⟨sz,fun g o hB hg hc=>?_⟩⟩
 ·have:=heap_setCell_same V w.heap.size 0 #[v] _ v' hVB;unfold gV;simpa using this
 ·rw [AX,T9];exact ed hown fun g hg=>heap_setCell_other V ⟨w.heap.size,0,none⟩ g v' (fun (e:g=w.heap.size)=>by have:=(hown.lt g hg).1; omega)
 ·rw [T9,← QY];exact ((hM.below hY').kept hg2 (fun e=>hvM e.symm)).setCell (by show w.heap.size + 1 ≠ w.heap.size; omega) _
 ·refine key g _ hg (fun e=>?_) (fun e=>?_) (fun e=>?_)
  ·rw [e,hmb] at hg; cases hg
  ·rw [e,h.box] at hg; injection hg with hg; injection hg with _ hT; exact h2 hT.symm
  obtain ⟨cur,e2⟩:=jH h.row e;rw [e2] at hg; injection hg with hg; injection hg with _ hT; exact h1 hT.symm
 ·refine key g _ hg n2 (fun e=>?_) (fun e=>?_)
  ·rw [e,h.box] at hg; injection hg with hg; subst hg; cases hc
  obtain ⟨cur,e2⟩:=jH h.row e;rw [e2] at hg; injection hg with hg; subst hg; cases hc
 refine key g _ hg (by omega) (by omega) (fun e=>?_);obtain ⟨cur,e2⟩:=jH h.row e;rw [e2] at hg; injection hg with hg; subst hg; cases hc
theorem BA.dropF {w:af} {ad:Option Addr} {fs:List Fc} (h:BA w ad fs) (k:Nat):BA w (Option.map (fun x=>Addr.add x (k * 5)) ad) (fs.drop k):=by
 rcases h with h | ⟨b,off,e,hb,hr⟩
 ·exact .inl (by rw [h]; simp)
 have ea:Option.map (fun x=>Addr.add x (k * 5)) ad=some ⟨b,off + k * 5,none⟩:=by
  rw [e];simp [Addr.add]
 refine .inr ⟨b,off + k * 5,ea,hb,fun i hi=>?_⟩;have hi2:k + i < fs.length:=by rw [List.length_drop] at hi; omega
 have h1:=hr (k + i) hi2;have e2:(fs.drop k)[i]=fs[k + i]:=by simp
 rw [e2];have e3:off + k * 5 + i * 5=off + (k + i) * 5:=by omega
 rw [e3]; exact h1
theorem Q3 {w:af} {base size n cap:Nat} {T:TypeId} {ad:Option Addr} {xs:List Value} (h:w.ownsRow base T size (.slice ad n cap) n xs):n≤cap:=by
 rcases h.2 with ⟨e,h0⟩ | ⟨g,cap',cur,e,h1,h2,h3,h4,h5,-⟩
 ·omega
 injection e with _ _ e3;omega
theorem PP {Y Y1 Y2 V:af} {B:Nat} {v:Value} {T:TypeId} (h:gV Y B v T) (hg1:Y.grownBy Y1 (some (B + 1))) (hY2:ag Y1 Y2) (hg2:Y2.grownBy V v.ownBlock) (hv:v.ownBlock ≠ some B):gV V B v T:=by
 have y1:Y1.heap[B]?=_:=(hg1.block _ (Array.getElem?_eq_some_iff.1 h).1 (fun e=>by injection e with e; omega)).trans h;have y2:Y2.heap[B]?=_:=(hY2.block _ (Array.getElem?_eq_some_iff.1 y1).1).trans y1;exact (hg2.block _ (Array.getElem?_eq_some_iff.1 y2).1 (fun e=>hv e.symm)).trans y2
theorem PQ {B B':Nat} {W W':af} (h:KeepsFrom B W W') (hB:B≤B'):KeepsFrom B' W W':=⟨h.size,fun k o hk h1 h2=>h.same k o (TZ hB hk) h1 h2⟩
theorem KpO.after {b l l':Nat} {X Y Z:af} (h:KpO b l X Y) (k:KpO b l' Y Z) (hl:X.heap.size≤l'):KpO b l X Z :=
 ⟨TZ h.size k.size,fun g cs T m hg h1 h2=>k.cells g cs T m (h.cells g cs T m hg h1 h2) h1 h2,fun g o hg hc h1 h2=>k.other g o (h.other g o hg hc h1 h2) hc (fun e=>by have:=(Array.getElem?_eq_some_iff.1 hg).1; omega) h2⟩
end Go.Proofs.YtajkkeikihhejaaGreat
