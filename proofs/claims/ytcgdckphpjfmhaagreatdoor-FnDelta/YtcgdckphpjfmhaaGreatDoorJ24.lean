/- All facts as the program finds them: stratum by stratum, rounds over fewer and fewer users. -/
import Derived.Test.YtcgdckphpjfmhaaGreatDoorSq
import Derived.Test.YtcgdckphpjfmhaaGreatDoorJ23
import Derived.Test.YtcgdckphpjfmhaaGreatDoorJ22
import Derived.OpenShut
import Derived.ShutString
import Derived.HandedShaped
import Derived.LaidMore
import Derived.Test.YtcgdckphpjfmhaaGreatDoorCards
import Derived.Test.YtcgdckphpjfmhaaGreatDoorTie
import Derived.Lay
import Derived.LaidHandle
import Derived.Stop.Joined
import Derived.ChangeVars
open Go.Proofs.Tryz
set_option maxHeartbeats 80000000
namespace Go.Proofs.YtcgdckphpjfmhaaGreatDoor
set_option linter.unusedVariables false
set_option maxRecDepth 100000
open ChangeShapes WideShapes ChangeAt RowKit Maps Go.Shelf
open Pl
attribute [local go_sem] Oper.semAt_some
def FU(X:World)(B:Nat):Nat:=match X.cell? ⟨B,0,none⟩ with
 | some x=>UA x
 | none=>0
theorem FV{X:ae}{B n c:Nat}{ad:Q02}{T:TypeId}(h:ic X B (.slice ad n c) T):FU X B=n:=by
 unfold FU;rw[h.c];rfl
section
variable  [DecidableEq Fc]
theorem Oo(w:ae)(rs:Q06)(Yt:Q02)(D br bp bt:Nat)(N:Nat)(nr:Nat)(Mr:KL->Option Value)(st:Q00)(ts:Q05)(xo xu:Q0a)(np:Nat)(Mp:K3->Option Value)(vo vu:Value)(hD:DatA w rs D br bp bt (N:Int) nr Mr (eY st rs) (dH ts) xo xu np Mp vo vu)(hs:lc w Yt rs)(hN:N<=1000)(hol:xo.length<=80)(hul:xu.length<=40)(hE:(au (ag rs)).length<=36)(hrl:∀k,(G.lookL (eY st rs) k).length<=1000)(hsh:bF (ag rs)=true)(hts:∀t∈ts,t.fits)(htl:ts.length<=1000)(hof:∀o∈xo,o.t.size<=maxLen/\o.s.size<=maxLen)(huf:∀o∈xu,o.t.size<=maxLen/\o.s.size<=maxLen)(hrf:∀k∈au (ag rs),k.2.size<=maxLen):
  Calls prog 42 #[.pointer (some ⟨D,0,none⟩)] w fun e w'=>(∃v,e=.returned v/\w'.ownsRow w.heap.size 43 5 v (nE (ag rs) ts st xo xu N).length (aA (nE (ag rs) ts st xo xu N)))/\af w w':=by
 obtain⟨iF,z0,z1,z2,z3⟩:=wE;obtain⟨W0,hW0⟩:∃W0,W0=((w.alloc (.cells #[.slice none 0 0] 34)).alloc (.map #[] 0)).alloc (.cells #[.map (some (w.heap.size+1))] 117):=⟨_,rfl⟩;obtain⟨Y8,YU,rfl,-⟩:=mU hD.dat.objs;have hlD:=hD.dat.lt;have d1:=hD.dat.c1;have h00:FoW w W0 (.slice none 0 0) []/\ic W0 (w.heap.size+1+1) (.map (some (w.heap.size+1))) 117:=by
  obtain⟨V1,e1⟩:∃V,V=w.alloc (.cells #[.slice none 0 0] 34):=⟨_,rfl⟩;obtain⟨V2,e2⟩:∃V,V=V1.alloc (.map #[] 0):=⟨_,rfl⟩;rw[<-e1,<-e2]at hW0;have t1:V1.heap.size=w.heap.size+1:=by rw[e1,World.size_alloc]
  have t2:V2.heap.size=w.heap.size+1+1:=by rw[e2,World.size_alloc,t1]
  have f1:af w V1:=by rw[e1];exact(V5 _ _).alloc (V4 _) _
  have f2:af V1 V2:=by rw[e2];exact(V5 _ _).alloc (V4 _) _
  have f3:af V2 W0:=by rw[hW0];exact(V5 _ _).alloc (V4 _) _
  have f12:af w V2:=f1.trans (f2.mono f1.size);have g1:ic V1 w.heap.size (.slice none 0 0) 34:=by rw[e1];exact World.alloc_heap_new w _
  have g2:aN kX prog 43 V2 (w.heap.size+1) 0 (fun _=>none):=by
   have:=lX kX prog 43 V1;rw[<-e2,t1]at this;exact this
  have g3:ic W0 (w.heap.size+1+1) (.map (some (w.heap.size+1))) 117:=by rw[hW0,<-t2];exact World.alloc_heap_new V2 _
  have ek:yI []=fun _=>none:=rfl;exact⟨⟨f12.trans (f3.mono f12.size),(g1.bel f2).bel f3,World.ownsRow_nil _ _ _ _,by rw[ek];exact g2.below f3⟩,g3⟩
 have hmm:=@run_makeMap prog;have hl1:D<w.heap.size+1:=by omega
 have hl2:D<w.heap.size+1+1:=by omega
 refine(callsIn_wide (n:=12)).1 ?_;refine callsIn_of_wp_marks func42 rfl trivial ?_ rfl;simp only[ntmps42,List.size_toArray,WH,Xh,Nat.reduceAdd,Nat.reduceSub,Array.replicate_succ,Array.replicate_zero,List.push_toArray,List.append_toArray,Xi,WU];gi_wp2;rw[<-hW0];clear hW0 hmm;obtain⟨H,hH⟩:∃H,H=ja (ag rs) ts:=⟨_,rfl⟩;obtain⟨A,hA⟩:∃A:Nat->List Fc,A=nE (ag rs) ts st xo xu:=⟨_,rfl⟩;obtain⟨Q,hQ⟩:∃Q:Nat->List Fc,Q=fun(n:Nat)=>dw (ag rs) st xo xu (n:Int):=⟨_,rfl⟩;have hA1:∀n,A (n+1)=pM H (Q n) (A n):=fun n=>by rw[hA,hH,hQ];exact j6 _ _ _ _ _ _
 have hAG:∀n,GoodO (ag rs) xo xu (A n):=fun n=>by rw[hA];exact nz _ _ _ _ _ n
 have hA0:A 0=[]:=by rw[hA];rfl
 have hAN:nE (ag rs) ts st xo xu N=A N:=by rw[hA]
 refine wpIn_loop (fun a' X=>∃(q:Nat) (rl:List Nat) (v:Value) (u5 u6 u7 u8 u15 u16 u17 u18 u19 u20 u21 u22 u23 u24 u25 u26 u27 u28 u29 u30 u31 u32 u33 u34 u35 u36 u37 u38 u39 u40 u41 u42 u43 u44:Value),a'={ tmps:=List.toArray (.pointer (some ⟨D,0,none⟩)::undef::.slice none 0 0::.pointer (some ⟨w.heap.size,0,none⟩)::.pointer (some ⟨w.heap.size+1+1,0,none⟩)::u5::u6::u7::u8::.map (some (w.heap.size+1))::.pointer (some ⟨D,0,none⟩)::.pointer (some ⟨D,0,none⟩)::.pointer (some ⟨D,1,none⟩)::.int .i64 (N:Int)::.int .i64 (q:Int)::u15::u16::u17::u18::u19::u20::u21::u22::u23::u24::u25::u26::u27::u28::u29::u30::u31::u32::u33::u34::u35::u36::u37::u38::u39::u40::u41::u42::u43::u44::undef::[]),defers:=marks rl }/\q<=N/\FoW w X v (A q)/\ic X (w.heap.size+1+1) (.map (some (w.heap.size+1))) 117/\jd X rl/\(∀r∈rl,w.heap.size+1+1<r)) (fun a' _=>N-(intOf (a'.tmps.getD 14 undef)).toNat) ⟨0,[],.slice none 0 0,_,_,_,_,_,_,_,_,_,_,_,_,_,_,_,_,_,_,_,_,_,_,_,_,_,_,_,_,_,_,_,_,_,_,rfl,Wd _,by rw[hA0];exact h00.1,h00.2,⟨List.nodup_nil,fun r hr=>by cases hr⟩,fun r hr=>by cases hr⟩ ?_;rintro a1 X ⟨q,rl,v,u5,u6,u7,u8,u15,u16,u17,u18,u19,u20,u21,u22,u23,u24,u25,u26,u27,u28,u29,u30,u31,u32,u33,u34,u35,u36,u37,u38,u39,u40,u41,u42,u43,u44,rfl,hq,hF,hB,hMk,hMn⟩;clear h00;by_cases hlq:q<N
 ·have hDX:=hD.below hF.bel;have d5:=hDX.dat.c5;have d5l:=hDX.dat.lt;obtain⟨adV,YY,rfl,-⟩:=mU hDX.dat.users;gi_wp2;refine wpIn_loop (fun a' X=>∃(us:Q0a) (Yr:Q02) (XI:Nat) (out:Q04) (rl:List Nat) (v:Value) (base:Nat) (u7 u8 u21 u22 u23 u24 u25 u26 u27 u28 u29 u30 u31 u32 u33 u34 u35 u36 u37 u38 u39 u40 u41 u42 u43 u44:Value),a'={ tmps:=List.toArray (.pointer (some ⟨D,0,none⟩)::undef::.slice none 0 0::.pointer (some ⟨w.heap.size,0,none⟩)::.pointer (some ⟨w.heap.size+1+1,0,none⟩)::.int .i64 (q:Int)::.slice Yr us.length XI::u7::u8::.map (some (w.heap.size+1))::.pointer (some ⟨D,0,none⟩)::.pointer (some ⟨D,0,none⟩)::.pointer (some ⟨D,1,none⟩)::.int .i64 (N:Int)::.int .i64 (q:Int)::.bool true::.int .i64 (q:Int)::.pointer (some ⟨D,0,none⟩)::.pointer (some ⟨D,0,none⟩)::.pointer (some ⟨D,5,none⟩)::.slice adV xu.length YY::u21::u22::u23::u24::u25::u26::u27::u28::u29::u30::u31::u32::u33::u34::u35::u36::u37::u38::u39::u40::u41::u42::u43::u44::undef::[]),defers:=marks rl }/\FewA (ag rs) ts st xo xu (q:Int) us out/\pM H (Q q) out=A (q+1)/\GoodO (ag rs) xo xu out/\FoW w X v out/\ic X (w.heap.size+1+1) (.map (some (w.heap.size+1))) 117/\jd X rl/\(∀r∈rl,w.heap.size+1+1<r)/\X.ownsRow base 27 2 (.slice Yr us.length XI) us.length (pairs us)/\us.length<=40/\∀o∈us,o.t.size<=maxLen/\o.s.size<=maxLen) (fun a' Y=>2*(200000-FU Y w.heap.size)+min 1 (UA (a'.tmps.getD 6 undef))) ⟨xu,adV,YY,A q,rl,v,bp+1,_,_,_,_,_,_,_,_,_,_,_,_,_,_,_,_,_,_,_,_,_,_,_,_,_,_,rfl,FewA.start _,(hA1 q).symm,hAG q,hF,hB,hMk,hMn,hDX.dat.users,hul,huf⟩ ?_;clear hDX d5 d5l hF hB hMk hMn;rintro a2 X2 ⟨us,Yr,XI,out,rl2,v2,base,u7,u8,u21,u22,u23,u24,u25,u26,u27,u28,u29,u30,u31,u32,u33,u34,u35,u36,u37,u38,u39,u40,u41,u42,u43,u44,rfl,hFew,hLim,hG,hF2,hB2,hMk2,hMn2,hU,hul2,huf2⟩;obtain⟨adF,YF,rfl,-⟩:=jc hF2.row;have hmu:=FV hF2.box;have hout:=hG.len hol hE hul;by_cases hne:us=[]
  ·subst hne;have hAq:A (q+1)=out:=by rw[<-hLim,hH,hQ];exact hFew.done
   have hF3:FoW w X2 (.slice adF out.length YF) (A (q+1)):=by rw[hAq];exact hF2
   gi_wp2;exact⟨⟨q+1,rl2,_,_,_,_,_,_,_,_,_,_,_,_,_,_,_,_,_,_,_,_,_,_,_,_,_,_,_,_,_,_,_,_,_,_,_,rfl,by omega,hF3,hB2,hMk2,hMn2⟩,by simp[intOf];omega⟩
  have hpos:0<us.length:=by cases us with|nil=>exact absurd rfl hne|cons a l=>simp
  have hposI:(0:Int)<(us.length:Int):=by omega
  have bc:=hF2.box.c;have kc:=hB2.c
  gi_wp2_with fail
  refine⟨trivial,(callsIn_wide.2 (FT D (q:Int) Yr us.length XI (w.heap.size+1) X2)).mono ?_⟩;rintro e X3 ⟨rfl,hX3⟩;obtain⟨hBX,hb23,hs3⟩:=Tf X2 D (q:Int) (.slice Yr us.length XI) (w.heap.size+1) hX3;have hF3:=hF2.below hb23;have hU3:=aH hU hb23;have hB3:=hB2.bel hb23;have hMk3:=hMk2.bel hb23;have hsB:w.heap.size+1+1<X2.heap.size:=(We.1 hB2).1;clear hX3 bc kc;gi_wp2
  refine rC (α:=Fc) rfl (by omega) (gf:=132) (lb:=#[.pointer (some ⟨X2.heap.size,0,none⟩),.pointer (some ⟨X2.heap.size+1,0,none⟩),.pointer (some ⟨X2.heap.size+1+1,0,none⟩),.pointer (some ⟨X2.heap.size+1+1+1,0,none⟩)]) rfl trivial (enters_of func132 (by kernel_rfl) rfl)
   (Ol 11 (by omega) rs Yt D br bp bt (N:Int) nr Mr st ts Y8 YU xo xu np Mp (.slice adV xu.length YY) (w.heap.size+1) out X2.heap.size (X2.heap.size+1) (X2.heap.size+1+1) (X2.heap.size+1+1+1) (q:Int) Yr XI us X3 (by omega) (by omega) (by omega) (by omega) hrl hsh hts htl hof huf2 hrf) (V5 _ _) (fun _=>rfl) (fun h k=>h.trans k) (fun Y lx o o' h1 h2=>KpO.put h1 h2)
   (fun pre Y=>∃v',FoW w Y v' (out++pre)/\KpO (w.heap.size+1) X3.heap.size X3 Y/\GoodO (ag rs) xo xu (out++pre))
   ?own ?tell ⟨_,by rw[WS];exact hF3,KpO.below (V5 _ _),by rw[WS];exact hG⟩
   (fun x a' Y=>∃Bx,CJ Y Bx x/\a'={ tmps:=List.toArray (.pointer (some ⟨D,0,none⟩)::undef::.slice none 0 0::.pointer (some ⟨w.heap.size,0,none⟩)::.pointer (some ⟨w.heap.size+1+1,0,none⟩)::.int .i64 (q:Int)::.slice Yr us.length XI::.int .i64 (out.length:Int)::.pointer (some ⟨Bx,0,none⟩)::.map (some (w.heap.size+1))::.pointer (some ⟨D,0,none⟩)::.pointer (some ⟨D,0,none⟩)::.pointer (some ⟨D,1,none⟩)::.int .i64 (N:Int)::.int .i64 (q:Int)::.bool true::.int .i64 (q:Int)::.pointer (some ⟨D,0,none⟩)::.pointer (some ⟨D,0,none⟩)::.pointer (some ⟨D,5,none⟩)::.slice adV xu.length YY::.slice Yr us.length XI::.int .i64 (us.length:Int)::.bool true::.slice adF out.length YF::.int .i64 (out.length:Int)::.pointer (some ⟨D,0,none⟩)::.int .i64 (q:Int)::.slice Yr us.length XI::.map (some (w.heap.size+1))::.func (.func 132) #[] #[.pointer (some ⟨X2.heap.size,0,none⟩),.pointer (some ⟨X2.heap.size+1,0,none⟩),.pointer (some ⟨X2.heap.size+1+1,0,none⟩),.pointer (some ⟨X2.heap.size+1+1+1,0,none⟩)]::.agg #[.string x.a,.string x.b,.string x.r,.string x.c,.string x.d]::u32::u33::u34::u35::u36::u37::u38::u39::u40::u41::u42::u43::u44::undef::[]),defers:=[] })
   (fun x a' s Y Z row hs hg hr=>by obtain⟨Bx,h,e⟩:=hs;exact⟨Bx,IL (B0:=X3.heap.size) (g:=Bx) (x:=x) () Y Z row h hg hr,e⟩) ?assign ?body ?done
  case own =>
   intro pre Y Z row hs hg hr;obtain⟨v',h1,h2,h3⟩:=hs;exact⟨v',h1.kept hg fun r e=>⟨by have:=(hr r e).1;omega,(hr r e).2⟩,Tg (β:=Unit) () Y Z row h2 hg hr,h3⟩
  case tell =>
   rintro pre Y ⟨v',h1,h2,h3⟩;have hb:=hBX.kp h2;obtain⟨ad2,cap2,e,hsa⟩:=mU (LW hU3 h2 (by decide) (by decide));injection e with ea eb ec;exact⟨hD.below h1.bel,hs.below h1.bel,⟨_,h1.map⟩,hb.d.c,hb.s.c,hb.u.c,hb.k.c,by rw[ea];exact hsa⟩
  case assign =>
   rintro l' pre x Y K ⟨v',h1,h2,h3⟩ hKK;unfold Eo;gi_wp2;have hbl:af Y (Y.alloc (.cells #[.string x.a,.string x.b,.string x.r,.string x.c,.string x.d] 43)):=(V5 _ _).alloc (V4 _) _;exact hKK _ _ ((KeepsOthers.alloc _ _).from _) (KpO.below hbl) ⟨v',h1.below hbl,h2.trans (KpO.below hbl),h3⟩ ⟨Y.heap.size,World.alloc_heap_new Y _,rfl⟩
  case body =>
   rintro l' pre x a' Y hl ⟨hEx,hnew⟩ ⟨v',hFY,hKY,hGY⟩ ⟨Bx,bX,rfl⟩;obtain⟨hkey,hxf⟩:=IM hof huf2 hrf hEx;obtain⟨kl,hkl⟩:=BI x hxf;obtain⟨c0,c1,c2,c3,c4,cl⟩:=bX.c;have hGX:GoodO (ag rs) xo xu (out++(pre++[x])):=by
    refine⟨?_,fun g hg=>?_⟩
    ·rw[<-WE];exact List.nodup_append.2 ⟨hGY.once,by simp,fun a ha b hb e=>by
      rw[Wl]at hb;rw[<-hb,<-e]at hnew;exact hnew ha⟩
    rw[<-WE]at hg;rcases Wj.1 hg with hg|hg
    ·exact hGY.sub g hg
    rw[Wl]at hg;subst hg;unfold dw yZ at hEx;obtain⟨o,ho,h1⟩:=Wx.1 hEx;obtain⟨k,hk,h1⟩:=Wx.1 h1;obtain⟨u,hu,e⟩:=Wp.1 h1;have hux:u∈xu:=by rw[hFew.sub]at hu;exact(WW.1 hu).1
    exact Wx.2 ⟨o,ho,Wx.2 ⟨k,(WW.1 hk).1,Wp.2 ⟨u,hux,e⟩⟩⟩
   have hlen:=hGX.len hol hE hul;rw[<-WE,Wi,WJ]at hlen;obtain⟨os,hos⟩:∃os,os=out++pre:=⟨_,rfl⟩;rw[<-hos]at hFY hlen;have HOS:=ak hos;clear hos;have kc:=(hB3.kp hKY (by decide) (by decide)).c;have kl2:=aL kc;obtain⟨adY,capY,rfl,-⟩:=jc hFY.row;have hmap:=hFY.map;have bcY:=hFY.box.c;have hbxl:=aL bcY;have hblk:=hFY.box;obtain⟨es,cc,hmb⟩:=qi hFY.map;have hne1:Bx≠w.heap.size+1:=fun e=>by
    have h:=bX;unfold CJ at h;rw[e,hmb]at h;cases h
   have hrow:=hFY.row;have hvB:(Value.slice adY os.length capY).ownBlock≠some w.heap.size:=fun e=>by have:=(hrow.lt _ e).1;omega
   have hvM:(Value.slice adY os.length capY).ownBlock≠some (w.heap.size+1):=fun e=>Fh hrow e hmb;have hbYs:=hFY.bel.size
   gi_wp2_with (first
    | (gi_at_mapUpdate;refine zi _ rfl _ _ _ 117 rfl 43 157 Ki Hw underlying117 (w.heap.size+1) _ _ rfl hmap (by unfold maxLen;omega) x kl rfl hkl (.agg #[]) rfl ?_;intro Y1 hM1 hg1;have q0:=(kW hg1 ⟨cl,hne1⟩ 0).trans c0;have q1:=(kW hg1 ⟨cl,hne1⟩ 1).trans c1;have q2:=(kW hg1 ⟨cl,hne1⟩ 2).trans c2;have q3:=(kW hg1 ⟨cl,hne1⟩ 3).trans c3;have q4:=(kW hg1 ⟨cl,hne1⟩ 4).trans c4;have qb:=(kW hg1 ⟨hbxl,Nat.ne_of_lt (Nat.lt_succ_self _)⟩ 0).trans bcY;have ql:=aL q0;have qbl:=aL qb;have hrow1:=hrow.kept hg1 (.inr hvM);have hYs1:=hg1.size)
    | (gi_at_builtin;refine wpListIn_append_own_at _ rfl _ _ 34 rfl (w.heap.size+1) 43 iF (.agg #[.string ⟨#[]⟩,.string ⟨#[]⟩,.string ⟨#[]⟩,.string ⟨#[]⟩,.string ⟨#[]⟩]) 5 80 underlying34 z0 z1 z2 z3 rfl (by decide) _ os.length (aA os) rfl (hrow1.alloc _) ⟨Y1.heap.size,0,none⟩ 1 1 x.row rfl rfl (Ec Y1 x) (by simp[Fc.row,Value.oneCell']) (by unfold maxLen;omega) (by omega) (by simp;omega) ?_;intro v2 V hown hgr _ hat;obtain⟨g2,cap2,rfl⟩:=ownsRow_succ hown;have HAT:=ak hat;clear hat;have hY2:af Y1 (Y1.alloc (.cells #[.string x.a,.string x.b,.string x.r,.string x.c,.string x.d] 43)):=(V5 _ _).alloc (V4 _) _;have hVb:=Rt hblk hg1 hY2 hgr hvB;have vc:=hVb.c;have vf:=lw hVb 0;have vl:=aL vc)
    | gi_in)
   obtain⟨r1,r2,r3⟩:=FoW.step hFY hM1 hg1 hY2 hown hgr HAT.out l';have eos:out++(pre++[x])=os++[x]:=by rw[HOS.out,WE]
   exact⟨Ru r3 (by omega),r2,_,by rw[eos];exact r1,hKY.after r2 hl,hGX⟩
  case done =>
   rintro Dd xs X5 hDd hS ⟨v5,hF5,hK5,hG5⟩ hKd;have hl5:=hG5.len hol hE hul;have hlx:(out++xs).length=out.length+xs.length:=Wi;have hxs:(out++xs).drop out.length=xs:=List.drop_left;obtain⟨o5,ho5⟩:∃o5,o5=out++xs:=⟨_,rfl⟩;rw[<-ho5]at hF5 hG5 hl5 hlx hxs;have XH:=ak ho5;have HXS:=ak hxs;have hFew5:=hFew.next (by rw[<-hH]at hS ⊢;exact hS);have hLim5:pM H (Q q) o5=A (q+1):=by
    rw[<-hLim,<-Db (H:=H) (Q q) out];congr 1;rw[ho5,<-hS,<-hH,hQ,hH];exact hFew.round
   rw[<-ho5]at hFew5;obtain⟨adP,capP,rfl,hsF5⟩:=jc hF5.row;have bc5:=hF5.box.c;have bl5:=aL bc5;have i1:(0:Int)<=(out.length:Int):=by omega
   have i2:(out.length:Int)<=(o5.length:Int):=by omega
   have hcap5:o5.length<=capP:=Ti hF5.row;have hU5:=LW hU3 hK5 (by decide) (by decide);obtain⟨ad2,cap2,eU,hsU5⟩:=mU hU5;injection eU with ea eb ec;rw[<-ea]at hsU5;have hMk5:jd X5 (Dd::rl2):=by
    have h1:=hMk3.kp hK5 (fun hm=>by have:=hMk3.lt hm;omega) (fun hm=>by have:=hMn2 _ hm;omega);refine⟨List.nodup_cons.2 ⟨fun hm=>by have:=hMk3.lt hm;omega,h1.1⟩,fun r hr=>?_⟩;rcases Ws.1 hr with rfl|hr
    ·exact hKd
    exact h1.2 r hr
   have hMn5:∀r∈Dd::rl2,w.heap.size+1+1<r:=fun r hr=>by
    rcases Ws.1 hr with rfl|hr
    ·omega
    exact hMn2 r hr
   have hkl:(fo us xs).length<=us.length:=Ep us xs;have hkz:xs.length=0->(fo us xs).length=0:=fun h=>by rw[Wu.1 h,KD];rfl
   have hsx:∀ad3,ad3=Option.map (fun x=>Addr.add x (out.length*5)) adP->tT X5 ad3 xs:=fun ad3 e=>by
    rw[e,<-HXS.out];exact tT.dropF hsF5 out.length
   clear ho5 hxs ea eb ec hS
   gi_wp2_with fail
   ·refine⟨trivial,(callsIn_wide.2 (rU Yr XI us adP 0 xs X5 (by omega) (by omega) hsU5 (.inl (Wu.1 (by omega))))).mono ?_⟩;rintro e X6 ⟨⟨v6,rfl,Z6⟩,hb6⟩;have XQ:FU X6 w.heap.size=o5.length:=FV (hF5.below hb6).box;have hF6:=hF5.below hb6;have hB6:=(hB3.kp hK5 (by decide) (by decide)).bel hb6;obtain⟨ad6,cap6,rfl,-⟩:=mU Z6;gi_wp2;exact⟨⟨fo us xs,ad6,cap6,o5,Dd::rl2,_,X5.heap.size,_,_,_,_,_,_,_,_,_,_,_,_,_,_,_,_,_,_,_,_,_,_,_,_,_,_,rfl,hFew5,hLim5,hG5,hF6,hB6,hMk5.bel hb6,hMn5,Z6,by omega,fun o ho=>huf2 o (WW.1 ho).1⟩,by
     show 2*(200000-FU X6 w.heap.size)+min 1 (fo us xs).length<2*(200000-FU X2 w.heap.size)+min 1 us.length;rw[XQ,hmu];omega⟩
   refine⟨trivial,(callsIn_wide.2 (rU Yr XI us _ _ xs X5 (by omega) (by omega) hsU5 (hsx _ rfl))).mono ?_⟩;rintro e X6 ⟨⟨v6,rfl,Z6⟩,hb6⟩;have XQ:FU X6 w.heap.size=o5.length:=FV (hF5.below hb6).box;have hF6:=hF5.below hb6;have hB6:=(hB3.kp hK5 (by decide) (by decide)).bel hb6;obtain⟨ad6,cap6,rfl,-⟩:=mU Z6;gi_wp2;exact⟨⟨fo us xs,ad6,cap6,o5,Dd::rl2,_,X5.heap.size,_,_,_,_,_,_,_,_,_,_,_,_,_,_,_,_,_,_,_,_,_,_,_,_,_,_,rfl,hFew5,hLim5,hG5,hF6,hB6,hMk5.bel hb6,hMn5,Z6,by omega,fun o ho=>huf2 o (WW.1 ho).1⟩,by
    show 2*(200000-FU X6 w.heap.size)+min 1 (fo us xs).length<2*(200000-FU X2 w.heap.size)+min 1 us.length;rw[XQ,hmu];omega⟩
 have hqN:q=N:=by omega
 subst hqN;obtain⟨adF,YF,rfl,-⟩:=jc hF.row;have bc:=hF.box.c;have hR:X.ownsRow (w.heap.size+1) 43 5 (.slice adF (A q).length YF) (nE (ag rs) ts st xo xu q).length (aA (nE (ag rs) ts st xo xu q)):=by rw[hAN];exact hF.row
 have hBl:=hF.bel;have hsz:w.heap.size<X.heap.size:=aL bc;clear hF hB hD;gi_wp2;refine wP (w.heap.size+1+1) (fun Y=>Y.ownsRow w.heap.size 43 5 (.slice adF (A q).length YF) (nE (ag rs) ts st xo xu q).length (aA (nE (ag rs) ts st xo xu q))/\af w Y) (fun Y r hr hY hd=>⟨dI hY.1 fun g hg=>o9 fun e=>?_,?_⟩) (fun Y hY=>⟨_,results_tmp rfl _ _ _,⟨_,rfl,hY.1⟩,hY.2⟩) rl X hMk hMn ⟨dV hR (Nat.le_succ _),hBl⟩
 ·obtain⟨cur,e2⟩:=jH hY.1 hg;rw[e,hd]at e2;cases e2
 exact hY.2.grown (grownBy_putObj' Y r _) hY.2.size (fun g e=>by injection e with e;omega)
end
end Go.Proofs.YtcgdckphpjfmhaaGreatDoor
namespace Go.Proofs.YtcgdckphpjfmhaaGreatDoor
set_option linter.unusedVariables false
set_option maxRecDepth 100000
open ChangeShapes WideShapes ChangeAt RowKit Maps
open Pl
def jP(rs:Q06)(t:Tp):Bool:=pF (ag rs) t.a t.b t.r t.c t.d t.s
theorem Oq{rs:Q06}{t:Tp}(h:aD (ag rs)=true)(ht:t.ok=true):o7 (ag rs) t.a t.r ⟨t.c,t.s⟩=jP rs t:=by
 have hSP:=bG.1 h;have h1:o7 (ag rs) t.a t.r ⟨t.c,t.s⟩=dR (aW (aM (ag rs) t.a t.r)) (aW (aM (ag rs) t.a t.r)).length ⟨t.c,t.s⟩:=Ce _ (LM hSP _ _);have h2:bz t.a t.b t.r t.c t.d t.s=true:=ht;rw[h1];unfold jP pF;rw[h2,Bool.and_true]
theorem Ry{p:Tp->Bool}{ts:Q05}{k:Nat}(h:k<ts.length):(ts.drop k).all p=(p ts[k]&&(ts.drop (k+1)).all p):=by rw[WC h];rfl
theorem IP(ad:Q02)(cap:Nat)(rs:Q06)(XB:Q02)(cap':Nat)(ts:Q05)(w:ae)(hlen:rs.length<=1048576)(hs:lc w ad rs)(hl:∀r∈rs,r.light)(hfr:∀r∈rs,r.fits)(hlt:ts.length<=1048576)(hst:Sl w XB ts)(hft:∀x∈ts,x.fits):
  Calls prog 68 #[.slice ad rs.length cap,.slice XB ts.length cap'] w fun e w'=>e=.returned (.bool (bu (jP rs) rs ts))/\af w w':=by
 have HS:=ak hs;have HL:=ak hl;have Zq:=ak hfr;have HST:=ak hst;have XC:=ak hft;have XQ:ts.length<=maxLen:=by unfold maxLen;omega
 clear hs hl hfr hst hft;go_enter func68,ntmps68;go_wp2_with fail;refine(iJ ad cap rs _ hlen HS.out HL.out Zq.out).mono ?_;rintro e w1 ⟨he,hb1⟩;have HB1:=ak hb1;clear hb1;cases h1:aD (ag rs);case false=>
  rw[h1]at he;subst he;have HN:Hid (bu (jP rs) rs ts=false):=by show _=_;unfold bu;rw[h1];rfl
  clear h1;go_wp2;go_ret;exact⟨by rw[HN.out];rfl,HB1.out⟩
 rw[h1]at he;subst he;have H1:=ak h1;clear h1;go_wp2_with fail;refine(ku XB cap' ts _ XQ (HST.out.below HB1.out) XC.out).mono ?_;rintro e w2 ⟨he,hb2⟩;have HB2:=ak (HB1.out.trans (hb2.mono HB1.out.size));clear hb2 HB1;cases h2:dG ts;case false=>
  rw[h2]at he;subst he;have HN:Hid (bu (jP rs) rs ts=false):=by show _=_;unfold bu;rw[h2,Bool.and_false];rfl
  clear h2;go_wp2;go_ret;exact⟨by rw[HN.out];rfl,HB2.out⟩
 rw[h2]at he;subst he;have HN:Hid (bu (jP rs) rs ts=ts.all (jP rs)):=by show _=_;unfold bu;rw[H1.out,h2];rfl
 clear h2 H1;go_wp2;go_loopw[5] (fun i wr=>∃k:Nat,k<=ts.length/\i=.int .i64 k/\Hid ((ts.drop k).all (jP rs)=ts.all (jP rs))/\Hid (af w wr)) (fun i _=>ts.length-(intOf i).toNat);case atStart=>exact⟨0,Wd _,rfl,rfl,HB2⟩
 clear HB2;obtain⟨k,hk,rfl,HP,HB⟩:=hrel;by_cases hlt2:k<ts.length
 ·obtain⟨b,off,Xx,⟨t0,t1,t2,t3,t4,t5⟩,hb⟩:=Sl.at0 (HST.out.below HB.out) hlt2;have hk1:=bC k;have hk2:(k:Int)<(ts.length:Int):=by omega
  obtain⟨f0,f1,f2,f3,f4,f5⟩:=XC.out _ (VZ hlt2);have HD:Hid (ts.all (jP rs)=(jP rs ts[k]&&(ts.drop (k+1)).all (jP rs))):=by show _=_;rw[<-HP.out];exact Ry hlt2
  obtain⟨x,hx⟩:∃x,x=ts[k]:=⟨_,rfl⟩;rw[<-hx]at t0 t1 t2 t3 t4 t5 f0 f1 f2 f3 f4 f5 HD;have HLF:=ak (uO ad cap rs x.a x.b x.r x.c x.d x.s wr hlen (HS.out.below HB.out) HL.out f0 f1 f2 f3 f4 f5);subst Xx;clear hx;go_wp2_with fail;refine HLF.out.mono ?_;rintro e w3 ⟨he,hb3⟩;have HB3:=ak (HB.out.trans (hb3.mono HB.out.size));clear hb3 HLF t0 t1 t2 t3 t4 t5;cases h5:pF (ag rs) x.a x.b x.r x.c x.d x.s;case true=>
   rw[h5]at he;subst he;have XA:Hid ((ts.drop (k+1)).all (jP rs)=ts.all (jP rs)):=by show _=_;rw[HD.out];unfold jP at *;rw[h5];rfl
   clear h5;go_wp2;go_roundw;case rel=>exact⟨k+1,by omega,by go_num,XA,HB3⟩
   simp[intOf]<;>omega
  rw[h5]at he;subst he;have ZF:Hid (bu (jP rs) rs ts=false):=by show _=_;rw[HN.out,HD.out];unfold jP at *;rw[h5];rfl
  clear h5;go_wp2;go_ret;exact⟨by rw[ZF.out];rfl,HB3.out⟩
 have ZF:Hid (bu (jP rs) rs ts=true):=by show _=_;rw[HN.out,<-HP.out,Ww (by omega)];rfl
 go_wp2;go_ret;exact⟨by rw[ZF.out];rfl,HB.out⟩
set_option linter.unusedSectionVars false
theorem xU{xs:Q0a}{o x:Al}(h:x∈fe xs o):x∈xs\/x=o:=by
 unfold fe at h;split at h
 ·exact .inl h
 rcases Wj.1 h with h|h
 ·exact .inl h
 exact .inr (by simpa using h)
theorem Ch:∀(ts:Q05) (xs:Q0a) (o:Al),o∈ts.foldl iH xs->o∈xs \/ ∃t∈ts,o=⟨t.a,t.b⟩\/o=⟨t.c,t.d⟩
 | [],xs,o,h=>.inl h
 | t::ts,xs,o,h=>by
  rcases Ch ts (iH xs t) o h with h|⟨u,hu,h⟩
  ·unfold iH at h;rcases xU h with h|h
   ·rcases xU h with h|h
    ·exact .inl h
    exact .inr ⟨t,by simp,.inl h⟩
   exact .inr ⟨t,by simp,.inr h⟩
  exact .inr ⟨u,by simp[hu],h⟩
theorem Ci:∀(ts:Q05) (xs:Q0a) (o:Al),o∈ts.foldl dB xs->o∈xs \/ ∃t∈ts,o=⟨t.a,t.b⟩\/o=⟨t.c,t.d⟩
 | [],xs,o,h=>.inl h
 | t::ts,xs,o,h=>by
  rcases Ci ts (dB xs t) o h with h|⟨u,hu,h⟩
  ·unfold dB at h;split at h
   ·rcases xU h with h|h
    ·exact .inl h
    exact .inr ⟨t,by simp,.inr h⟩
   exact .inl h
  exact .inr ⟨u,by simp[hu],h⟩
theorem LX{ts:Q05}(hf:∀t∈ts,t.fits){o:Al}(h:∃t∈ts,o=⟨t.a,t.b⟩\/o=⟨t.c,t.d⟩):o.t.size<=maxLen/\o.s.size<=maxLen:=by
 obtain⟨t,ht,h⟩:=h;obtain⟨h0,h1,h2,h3,h4,h5⟩:=hf t ht;rcases h with rfl|rfl
 ·exact⟨h0,h1⟩
 exact⟨h3,h4⟩
theorem qy{ts:Q05}(hf:∀t∈ts,t.fits):∀o∈gP ts,o.t.size<=maxLen/\o.s.size<=maxLen:=fun o ho=>by
 rcases Ch ts [] o ho with h|h
 ·cases h
 exact LX hf h
theorem og{ts:Q05}(hf:∀t∈ts,t.fits):∀o∈dN ts,o.t.size<=maxLen/\o.s.size<=maxLen:=fun o ho=>by
 rcases Ci ts [] o ho with h|h
 ·cases h
 exact LX hf h
theorem FW:∀(E:List (KL×RR)) (m:Int),m<=E.foldl (fun m x=>max m (x.1.2+1)) m/\∀x∈E,x.1.2+1<=E.foldl (fun m x=>max m (x.1.2+1)) m
 | [],m=>⟨Int.le_refl _,fun x hx=>by cases hx⟩
 | y::E,m=>by
  obtain⟨h1,h2⟩:=FW E (max m (y.1.2+1));simp only[List.foldl_cons];refine⟨by omega,fun x hx=>?_⟩;rcases Ws.1 hx with rfl|hx
  ·omega
  exact h2 x hx
theorem LY:∀(E:List (KL×RR)) (m B:Int),m<=B->(∀x∈E,x.1.2+1<=B)->E.foldl (fun m x=>max m (x.1.2+1)) m<=B
 | [],m,B,h,_=>h
 | y::E,m,B,h,hx=>LY E _ B (Int.max_le.2 ⟨h,hx y (by simp)⟩) fun x h2=>hx x (by simp[h2])
theorem Tj{f:Q00}{rs:Q06}{k:Q01}(hk:k∈au (ag rs)):∃x∈eY f rs,x.1.2=f k:=by
 unfold au at hk;obtain⟨T,hT,hk⟩:=Wx.1 hk;obtain⟨t,ht,rfl⟩:=Wp.1 hT;unfold jT at hk;obtain⟨r,hr,rfl⟩:=Wp.1 hk;obtain⟨q,hq,rfl⟩:=Wp.1 hr;exact⟨((t.name,f (t.name,q.name)),q),Wx.2 ⟨t,ht,Wp.2 ⟨q,hq,rfl⟩⟩,rfl⟩
theorem U3{f:Q00}{rs:Q06}{x:KL×RR}(hx:x∈eY f rs):∃k∈au (ag rs),x.1.2=f k/\∃t∈rs,∃q∈t.rows,k=(t.name,q.name):=by
 unfold eY at hx;obtain⟨t,ht,hx⟩:=Wx.1 hx;obtain⟨q,hq,rfl⟩:=Wp.1 hx;refine⟨(t.name,q.name),?_,rfl,t,ht,q,hq,rfl⟩;unfold au jT;exact Wx.2 ⟨t.p,Wp.2 ⟨t,ht,rfl⟩,Wp.2 ⟨q.p,Wp.2 ⟨q,hq,rfl⟩,rfl⟩⟩
theorem xV{rs:Q06}(hf:∀r∈rs,r.fits):∀k∈au (ag rs),k.2.size<=maxLen:=fun k hk=>by
 unfold au at hk;obtain⟨T,hT,hk⟩:=Wx.1 hk;obtain⟨t,ht,rfl⟩:=Wp.1 hT;unfold jT at hk;obtain⟨r,hr,rfl⟩:=Wp.1 hk;obtain⟨q,hq,rfl⟩:=Wp.1 hr;exact((hf t ht).2.2 q hq).1
theorem Tk(f:Q00)(rs:Q06):(eY f rs).length=(au (ag rs)).length:=by
 induction rs with
 | nil=>rfl
 | cons t rs ih =>
  have e1:au (ag (t::rs))=jT t.p++au (ag rs):=by simp[au,ag]
  have e2:eY f (t::rs)=(t.rows.map fun r=>((t.name,f (t.name,r.name)),r))++eY f rs:=rfl;have e3:(jT t.p).length=t.rows.length:=by unfold jT;rw[Xc];exact rZ _
  rw[e1,e2,Wi,Wi,ih,e3,Xc]
section
variable  [DecidableEq Fc]
def fT(st:Q00)(rs:Q06)(ts:Q05):List Fc:=if bu (jP rs) rs ts then rT st rs ts else []
theorem nA{st:Q00}{rs:Q06}{ts:Q05}(h:bu (jP rs) rs ts=true):fT st rs ts=rT st rs ts:=by unfold fT;rw[if_pos h]
theorem mo{st:Q00}{rs:Q06}{ts:Q05}(h:bu (jP rs) rs ts=false):fT st rs ts=[]:=by unfold fT;rw[if_neg (by rw[h];decide)]
theorem iD(st:Q00){rs:Q06}{ts:Q05}:(fT st rs ts).length<=115200:=by
 cases hr:bu (jP rs) rs ts;case false=>rw[mo hr];simp
 rw[nA hr];have hsd:aD (ag rs)=true/\ts.length<=40:=by
  unfold bu dG at hr;simp only[V9,Wn]at hr;exact⟨hr.1.1,hr.1.2.1⟩
 obtain⟨h6,Zo,-⟩:=bR (bG.1 hsd.1).1;exact(nz st rs ts (gP ts) (dN ts) _).len (by have:=pz ts;omega) (zB h6 Zo) (by have:=ny ts;omega)
end
section
variable  [DecidableEq Fc]
def IQ(L0:Q04)(w:World)(e:Ending)(w':World):Prop:=(∃(L:Q04) (v:Value),e=.returned v/\L.Perm L0/\L.Pairwise (fun x y=>Op.bytesLess (FX y) (FX x)=false)/\w'.ownsRow w.heap.size 43 5 v L.length (aA L))/\af w w'
theorem kF(st:Q00)(ad:Q02)(cap:Nat)(rs:Q06)(XB:Q02)(cap':Nat)(ts:Q05)(w:ae)(hlen:rs.length<=1048576)(hs:lc w ad rs)(hl:∀r∈rs,r.light)(hfr:∀r∈rs,r.fits)(hcp:∀r∈rs,r.caps)(hlt:ts.length<=1048576)(hst:Sl w XB ts)(hft:∀x∈ts,x.fits)(hle:aD (ag rs)=true->Least (ag rs) st):
  Calls prog 12 #[.slice ad rs.length cap,.slice XB ts.length cap'] w (IQ (fT st rs ts) w):=by
 have HC:=ak (BQ (jP rs) ad cap rs XB cap' ts w hlen hs hl hfr (wN ad cap rs w hlen hs hl hfr hcp) (fun h t ht=>Oq h ht) hlt hst hft);have HS:=ak hs;have XC:=ak hft;have Zq:=ak hfr;have Yv:=ak hle;clear hs hl hfr hcp hst hft hle;go_enter func12,ntmps12;go_wp2_with fail;refine HC.out.mono ?_;rintro e w1 ⟨hb1,⟨hr,rfl⟩|⟨hr,D,br,bp,bt,nr,np,Mr,Mp,vo,vu,f,rfl,hbt,hLf,YN⟩⟩
 ·have HP:Hid (IQ (fT st rs ts) w (.returned (.slice none 0 0)) w1):=⟨⟨[],_,rfl,by rw[mo hr],List.Pairwise.nil,World.ownsRow_nil _ _ _ _⟩,hb1⟩;clear hb1 HC hr;go_wp2;go_ret;exact HP.out
 have hsd:aD (ag rs)=true/\ts.length<=40:=by
  unfold bu dG at hr;simp only[V9,Wn]at hr;exact⟨hr.1.1,hr.1.2.1⟩
 obtain⟨hsd,ht40⟩:=hsd;have hSP:=bG.1 hsd;obtain⟨h6,Zo,-⟩:=bR hSP.1;have hE36:=zB h6 Zo;have hfk:∀k∈au (ag rs),f k+1<=(au (ag rs)).length:=fun k hk=>by
  obtain⟨g,hg,hb⟩:=hLf.sol.few (mQ hSP.2.1);have h1:=hLf.low k hk g hg;have h2:=hb k hk;omega
 have hc0:0<=jL (eY f rs):=(FW (eY f rs) 0).1;have hcl:jL (eY f rs)<=(au (ag rs)).length:=LY _ _ _ (by omega) fun x hx=>by
  obtain⟨k,hk,e,-⟩:=U3 hx;rw[e];exact hfk k hk
 obtain⟨N,hN⟩:∃N:Nat,jL (eY f rs)=N:=⟨(jL (eY f rs)).toNat,by omega⟩;have hkN:∀k∈au (ag rs),f k<(N:Int):=fun k hk=>by
  obtain⟨x,hx,e⟩:=Tj (f:=f) hk;have h2:=(FW (eY f rs) 0).2 x hx;have h3:x.1.2+1<=jL (eY f rs):=h2;rw[e,hN]at h3;omega
 have hLs:nE (ag rs) ts f (gP ts) (dN ts) N=fT st rs ts:=by
  rw[nA hr];unfold rT;rw[<-xQ (fun k hk=>hLf.same (Yv.out hsd) k hk)];exact(M5 hkN _ (by omega)).symm
 rw [hN]at YN;have Yc:=ak (Oo w1 rs ad D br bp bt N nr Mr f ts (gP ts) (dN ts) np Mp vo vu YN (HS.out.below hb1) (by omega) (by have:=pz ts;omega) (by have:=ny ts;omega) hE36 (fun k=>by
  have:(G.lookL (eY f rs) k).length<=(eY f rs).length:=Xo _ _;rw[Tk]at this;omega) hSP.1 XC.out (by omega) (qy XC.out) (og XC.out) (xV Zq.out))
 rw[hLs]at Yc;have hGO:=nz f rs ts (gP ts) (dN ts) N;rw[hLs]at hGO;have HB1:=ak hb1;have hll:=hGO.len (by have:=pz ts;omega) hE36 (by have:=ny ts;omega);have HFF:Hid (∀x∈fT st rs ts,x.fits):=fun x hx=>by
  have h1:=hGO.sub x hx;unfold FL at h1;obtain⟨o,ho,h1⟩:=Wx.1 h1;obtain⟨k,hk,h1⟩:=Wx.1 h1;obtain⟨u,hu,rfl⟩:=Wp.1 h1;exact⟨(qy XC.out o ho).1,(qy XC.out o ho).2,xV Zq.out k hk,(og XC.out u hu).1,(og XC.out u hu).2⟩
 obtain⟨L0,hL0⟩:∃L0,L0=fT st rs ts:=⟨_,rfl⟩;rw[<-hL0]at Yc hll HFF;have HL0:=ak hL0;clear HC hb1 YN hLf hfk hc0 hcl hN hkN hLs hGO hSP hsd h6 Zo hE36 hr hbt hL0;go_wp2_with fail;refine Yc.out.mono ?_;rintro e w2 ⟨⟨v,rfl,hown⟩,hb2⟩;have HB2:=ak (HB1.out.trans (hb2.mono HB1.out.size));have Xv:=ak (dV hown HB1.out.size);clear Yc hown hb2 HB1;cases L0 with
 | nil =>
  obtain⟨adF,YF,rfl,-⟩:=jc Xv.out;have HSN:=ak (Od adF YF (.func (.func 44) #[] #[]) w2);have HP:Hid (IQ [] w (.returned (.slice adF 0 YF)) w2):=⟨⟨[],_,rfl,List.Perm.refl _,List.Pairwise.nil,Xv.out⟩,HB2.out⟩;clear Xv HB2;go_wp2_with fail;refine HSN.out.mono ?_;rintro e w3 ⟨rfl,rfl⟩;go_wp2;go_ret;rw[<-HL0.out];exact HP.out
 | cons x0 xs0 =>
  obtain⟨L1,hL1⟩:∃L1,L1=x0::xs0:=⟨_,rfl⟩;obtain⟨g,YF,rfl⟩:=ownsRow_succ (k:=xs0.length) Xv.out;have hgl:=(Xv.out.lt g rfl).1;have HSF:=ak (Oc w.heap.size g YF (x0::xs0) w2 HFF.out Xv.out (by simp) (by omega));rw[<-hL1]at HSF;have hlL:xs0.length+1=L1.length:=by rw[hL1];rfl
  rw[<-hL1]at HL0;rw[hlL];clear Xv HFF hll hL1 hlL;go_wp2_with fail;refine HSF.out.mono ?_;rintro e w3 ⟨rfl,ys,hp,hso,hrow,hcg⟩;have HP:Hid (IQ L1 w (.returned (.slice (some ⟨g,0,none⟩) L1.length YF)) w3):=⟨⟨ys,_,rfl,hp,hso,by rw[hp.length_eq];exact hrow⟩,HB2.out.trans (hcg.below (fun k hk=>by rw[hk];exact hgl) HB2.out.size)⟩;clear hp hso hrow hcg HB2 HSF;go_wp2;go_ret;rw[<-HL0.out];exact HP.out
end
def okF(x:Fc):Prop:=bz x.a x.b x.r x.c x.d ⟨#[]⟩=true
theorem Tm{a b:ByteArray}(h:a.toList=b.toList):a=b:=by
 rw[Go.ByteArray.toList_eq,Go.ByteArray.toList_eq]at h;cases a;cases b;congr;exact Array.toList_inj.1 h
theorem oh{x y:Fc}(hx:okF x)(hy:okF y):pu x y=Op.bytesLess (FX x) (FX y):=by
 unfold okF at hx hy;unfold pu fQ FX;rw[hx,hy];rfl
theorem LZ{x y:Fc}(hx:okF x)(hy:okF y)(h:FX x=FX y):x=y:=by
 obtain⟨h1,h2,h3,h4,h5,-⟩:=qL hx hy (Tm h);cases x;cases y;simp only at h1 h2 h3 h4 h5;subst h1 h2 h3 h4 h5;rfl
theorem VU{L:Q04}(h:∀x∈L,okF x):OrdO pu L where
 trans x hx y hy z hz h1 h2:=by
  rw[oh (h x hx) (h y hy)]at h1;rw[oh (h y hy) (h z hz)]at h2;rw[oh (h x hx) (h z hz)];exact Ls.lt_trans _ _ _ h1 h2
 asymm x hx y hy h1:=by
  rw[oh (h x hx) (h y hy)]at h1;rw[oh (h y hy) (h x hx)];exact Ls.lt_asymm _ _ h1
 total x hx y hy hne:=by
  rw[oh (h x hx) (h y hy),oh (h y hy) (h x hx)];exact Ls.lt_total _ _ fun e=>hne (LZ (h x hx) (h y hy) e)
theorem Tn{L L0:Q04}(hp:L.Perm L0)(hn:L0.Nodup)(hok:∀x∈L0,okF x)(hs:L.Pairwise (fun x y=>Op.bytesLess (FX y) (FX x)=false)):L=kS pu L0:=by
 refine(PN (VU hok) hn ?_ hp).symm;have hd:L.Nodup:=hp.nodup_iff.2 hn;refine(List.Pairwise.and hd hs).imp_of_mem fun {x y} hx hy h=>?_;have ox:=hok x (hp.mem_iff.1 hx);have oy:=hok y (hp.mem_iff.1 hy);rw[oh ox oy];rcases Ls.lt_total (FX x) (FX y) (fun e=>h.1 (LZ ox oy e)) with h1|h1
 ·exact h1
 rw[h.2]at h1;cases h1
theorem Tq{ts:Q05}(h:dG ts=true):∀t∈ts,t.ok=true:=fun t ht=>by
 unfold dG at h;have h:=(Bool.and_eq_true_iff.1 h).2;unfold vS at h;rw[Wq]at h;obtain⟨i,hi,rfl⟩:=WN.1 ht;have h1:=h i (List.mem_range.2 hi);unfold xx at h1;rw[Wm hi]at h1;exact(Bool.and_eq_true_iff.1 h1).1
theorem T9{ts:Q05}(hf:∀t∈ts,t.ok=true){o:Al}(h:∃t∈ts,o=⟨t.a,t.b⟩\/o=⟨t.c,t.d⟩):eX o.t o.s=true:=by
 obtain⟨t,ht,h⟩:=h;have h1:=hf t ht;unfold Tp.ok bz at h1;simp only[V9]at h1;rcases h with rfl|rfl
 ·exact h1.1.1.1
 exact h1.1.2
theorem Tt{rs:Q06}(hs:bF (ag rs)=true){k:Q01}(hk:k∈au (ag rs)):aR k.2=true:=by
 unfold au at hk;obtain⟨T,hT,hk⟩:=Wx.1 hk;unfold jT at hk;obtain⟨r,hr,rfl⟩:=Wp.1 hk;exact(JQ hs hT hr).1
section
variable  [DecidableEq Fc]
theorem Cj{st:Q00}{rs:Q06}{ts:Q05}{x:Fc}(hx:x∈fT st rs ts):∃o∈gP ts,∃k∈au (ag rs),∃u∈dN ts,x=⟨o.t,o.s,k.2,u.t,u.s⟩:=by
 cases hr:bu (jP rs) rs ts;case false=>rw[mo hr]at hx;cases hx
 rw[nA hr]at hx;have h1:=(nz st rs ts (gP ts) (dN ts) _).sub x hx;unfold FL at h1;obtain⟨o,ho,h1⟩:=Wx.1 h1;obtain⟨k,hk,h1⟩:=Wx.1 h1;unfold jO at h1;obtain⟨u,hu,rfl⟩:=Wp.1 h1;exact⟨o,ho,k,hk,u,hu,rfl⟩
theorem rX{st:Q00}{rs:Q06}{ts:Q05}:(fT st rs ts).Nodup:=by
 cases hr:bu (jP rs) rs ts;case false=>rw[mo hr];exact List.nodup_nil
 rw[nA hr];exact(nz st rs ts (gP ts) (dN ts) _).once
theorem Ot{st:Q00}{rs:Q06}{ts:Q05}:∀x∈fT st rs ts,okF x:=fun x hx=>by
 cases hr:bu (jP rs) rs ts;case false=>rw[mo hr]at hx;cases hx
 obtain⟨o,ho,k,hk,u,hu,rfl⟩:=Cj hx;unfold bu at hr;simp only[V9]at hr;have hts:=Tq hr.1.2;have ho1:eX o.t o.s=true:=by
  rcases Ch ts [] o ho with h|h
  ·cases h
  exact T9 hts h
 have hu1:eX u.t u.s=true:=by
  rcases Ci ts [] u hu with h|h
  ·cases h
  exact T9 hts h
 have hn:=Tt (bG.1 hr.1.1).1 hk;show bz o.t o.s k.2 u.t u.s ⟨#[]⟩=true;unfold bz;rw[ho1,hu1,hn];unfold uY;rw[Go.ByteArray.toList_eq];rfl
theorem yO{st:Q00}{rs:Q06}{ts:Q05}(hfr:∀r∈rs,r.fits)(hft:∀x∈ts,x.fits):∀x∈fT st rs ts,x.fits:=fun x hx=>by
 obtain⟨o,ho,k,hk,u,hu,rfl⟩:=Cj hx;have h1:=qy hft o ho;have h2:=og hft u hu;exact⟨h1.1,h1.2,xV hfr k hk,h2.1,h2.2⟩
def bH(st:Q00)(rs:Q06)(ts:Q05):List Fc:=kS pu (fT st rs ts)
theorem jg(st:Q00)(rs:Q06)(ts:Q05):(bH st rs ts).length=(fT st rs ts).length:=(gF _).length_eq
theorem kG{st:Q00}{rs:Q06}{ts:Q05}{w:ae}{e:Ending}{w':ae}(h:IQ (fT st rs ts) w e w'):(∃v,e=.returned v/\w'.ownsRow w.heap.size 43 5 v (bH st rs ts).length (aA (bH st rs ts)))/\af w w':=by
 obtain⟨⟨L,v,he,hp,hs,hown⟩,hb⟩:=h;obtain rfl:=Tn hp rX Ot hs;exact⟨⟨v,he,hown⟩,hb⟩
end
section
variable  [DecidableEq Fc]
end
section
variable  [DecidableEq Fc]
end
section
variable  [DecidableEq Fc]
theorem uh(st:Q00)(ad:Q02)(cap:Nat)(rs:Q06)(XB:Q02)(cap':Nat)(ts:Q05)(w:ae)(hlen:rs.length<=1048576)(hs:lc w ad rs)(hl:∀r∈rs,r.light)(hfr:∀r∈rs,r.fits)(hlt:ts.length<=1048576)(hst:Sl w XB ts)(hft:∀x∈ts,x.fits)(hle:aD (ag rs)=true->Least (ag rs) st):
  Calls prog 36 #[.slice ad rs.length cap,.slice XB ts.length cap'] w fun e w'=>(∃v,e=.returned v/\w'.ownsRow w.heap.size 43 5 v (bH st rs ts).length (aA (bH st rs ts)))/\af w w':=by
 have hLl:=iD st (rs:=rs) (ts:=ts);have HFQ:=ak (yO (st:=st) hfr hft);have HRC:=ak (IP ad cap rs XB cap' ts w hlen hs hl hfr hlt hst hft);have HAC:Hid (bu (jP rs) rs ts=true->∀W':World,af w W'->Calls prog 71 #[.slice ad rs.length cap,.slice XB ts.length cap'] W' fun e w'=>(∃v,e=.returned v/\w'.ownsRow W'.heap.size 43 5 v (fT st rs ts).length (aA (fT st rs ts)))/\af W' w'):=fun hr W' hb=>by
  have hsd:aD (ag rs)=true/\ts.length<=40:=by
   unfold bu dG at hr;simp only[V9,Wn]at hr;exact⟨hr.1.1,hr.1.2.1⟩
  have:=NS st ad cap rs XB cap' ts W' (bG.1 hsd.1) (hle hsd.1) (hs.below hb) hl hsd.2 (hst.below hb);rw[<-nA hr]at this;exact this
 clear hs hl hfr hst hft hle;go_enter func36,ntmps36;go_wp2_with fail;refine HRC.out.mono ?_;rintro e w1 ⟨rfl,hb1⟩;have HB1:=ak hb1;clear hb1 HRC;cases hr:bu (jP rs) rs ts;case false=>
  have HN:Hid (bH st rs ts=[]):=by show _=_;unfold bH;rw[mo hr];rfl
  clear hr HAC;obtain⟨W2,hW2⟩:∃W2,W2=w1.alloc (.cells #[] 43):=⟨_,rfl⟩;have Xv:Hid (W2.ownsRow w.heap.size 43 5 (.slice (some ⟨w1.heap.size,0,none⟩) 0 0) 0 []):=by
   show World.ownsRow _ _ _ _ _ _ _;rw[hW2];exact World.ownsRow_lit w1 #[] 0 HB1.out.size (by unfold maxLen;omega) (by simp)
  have HB2:Hid (af w W2):=by show Below _ _ _;rw[hW2];exact HB1.out.alloc HB1.out.size _
  go_wp2;rw[<-hW2];go_ret;exact⟨⟨_,rfl,by rw[HN.out];exact Xv.out⟩,HB2.out⟩
 have HA:=ak (HAC.out hr);clear HAC hr;obtain⟨L,hL⟩:∃L,fT st rs ts=L:=⟨_,rfl⟩;have ZZ:Hid (bH st rs ts=kS pu L):=by show _=_;unfold bH;rw[hL]
 rw[hL]at HA HFQ hLl;clear hL;go_wp2_with fail;refine(HA.out _ HB1.out).mono ?_;rintro e w2 ⟨⟨v,rfl,hown⟩,hb2⟩;obtain⟨adL,ZA,rfl,hsl⟩:=jc hown;have HSF:=ak hsl;have HB2:=kv HB1 hb2;clear hown hsl hb2 HB1 HA;have HLL:Hid (L.length<=1048576):=Wh hLl (by decide);clear hLl;go_wp2_with fail;refine(Ku adL ZA L _ HLL.out HSF.out HFQ.out).mono ?_;rintro e w3 ⟨⟨v,rfl,hown⟩,hb3⟩;have HB3:=kv HB2 hb3;have XG:Hid (w3.ownsRow w.heap.size 43 5 v (bH st rs ts).length (aA (bH st rs ts))):=by
  show World.ownsRow _ _ _ _ _ _ _;rw[ZZ.out,(gF L).length_eq];exact ma hown HB2.out.size
 clear hown hb3;go_wp2;go_ret;exact⟨⟨v,rfl,XG.out⟩,HB3.out⟩
end
theorem sW{rs:Q06}{ts:Q05}{k:Int}{t:Tp}(hf:∀x∈ts,x.fits)(ht:t.fits):∀x∈uQ rs ts k t,x.fits:=fun x hx=>by
 unfold uQ qp at hx;split at hx
 ·unfold nu at hx;split at hx
  ·unfold gm at hx;split at hx
   ·exact hf x ((xB ts t x).1 hx).1
   rcases (vX ts t x).1 hx with rfl|hx
   ·exact ht
   exact hf x hx
  exact hf x hx
 cases hx
section
variable  [DecidableEq Fc]
theorem yP{st:Q00}{rs:Q06}{ts:Q05}(hfr:∀r∈rs,r.fits)(hft:∀x∈ts,x.fits):∀x∈bH st rs ts,x.fits:=fun x hx=>yO hfr hft x ((gF _).mem_iff.1 hx)
def ui(st:Q00)(rs:Q06)(ts:Q05)(k:Int)(t:Tp):List Fc:=if Ov rs ts k t=0 then dZ (bH st rs (uQ rs ts k t)) (bH st rs ts) else []
def uj(st:Q00)(rs:Q06)(ts:Q05)(k:Int)(t:Tp):List Fc:=if Ov rs ts k t=0 then dZ (bH st rs ts) (bH st rs (uQ rs ts k t)) else []
def IR(w:World)(M L:Q04)(c:Int)(e:Ending)(w':World):Prop:=∃(v1 v2:Value) (m:Nat),e=.returned (.tuple #[v1,v2,.int .i64 c])/\w'.ownsRow w.heap.size 43 5 v1 M.length (aA M)/\w'.ownsRow m 43 5 v2 L.length (aA L)/\w.heap.size<=m/\(∀g,v1.ownBlock=some g->g<m)/\af w w'
theorem IU(st:Q00)(rs:Q06)(ts:Q05)(k:Int)(t:Tp):(ui st rs ts k t).length<=115200/\(uj st rs ts k t).length<=115200:=by
 have h0:∀us,(bH st rs us).length<=115200:=fun us=>by rw[jg];exact iD st
 unfold ui uj;split
 ·exact⟨Wh (wQ _ _) (h0 _),Wh (wQ _ _) (h0 _)⟩
 exact⟨by simp,by simp⟩
theorem CL(st:Q00)(ad:Q02)(cap:Nat)(rs:Q06)(b cap':Nat)(ts:Q05)(k:Int)(t:Tp)(w:ae)(hlen:rs.length<=1048576)(hs:lc w ad rs)(hl:∀r∈rs,r.light)(hfr:∀r∈rs,r.fits)(hlt:ts.length<=1048576)(hcp:ts.length<=cap')(hb:b<w.heap.size)(hr:dM w b 0 ts)(hf:∀x∈ts,x.fits)(ht:t.fits)(hle:aD (ag rs)=true->Least (ag rs) st):
  Calls prog 9 #[.slice ad rs.length cap,.slice (some ⟨b,0,none⟩) ts.length cap',.agg #[.int .i64 k,.string t.a,.string t.b,.string t.r,.string t.c,.string t.d,.string t.s]] w (IR w (ui st rs ts k t) (uj st rs ts k t) (Ov rs ts k t)):=by
 obtain⟨W0,hW0⟩:∃W0,W0=w.alloc (.cells #[.int .i64 k,.string t.a,.string t.b,.string t.r,.string t.c,.string t.d,.string t.s] 31):=⟨_,rfl⟩;have HB0:=nC hW0;have hx0:oC W0 w.heap.size k t:=by rw[hW0];refine⟨?_,?_,?_,?_,?_,?_,?_,?_⟩<;>simp
 have hr0:dM W0 b 0 ts:=fun i hi=>(hr i hi).same fun o=>HB0.out.cell (p:=⟨b,o,none⟩) hb;have HTL:Hid (Sl w (some ⟨b,0,none⟩) ts):=.inr ⟨b,0,rfl,hb,hr⟩;have HA:=ak (IK ad cap rs b cap' ts k t W0 hlen (hs.below HB0.out) hl hfr hlt hcp (VY hb HB0.out.size) hr0 hf ht);have Yc:Hid (∀W',af w W'->Calls prog 36 #[.slice ad rs.length cap,.slice (some ⟨b,0,none⟩) ts.length cap'] W' fun e w'=>(∃v,e=.returned v/\w'.ownsRow W'.heap.size 43 5 v (bH st rs ts).length (aA (bH st rs ts)))/\af W' w'):=fun W' hB=>uh st ad cap rs _ cap' ts W' hlen (hs.below hB) hl hfr hlt (HTL.out.below hB) hf hle;have Yd:Hid (∀(W':World) (ZH:Q02) (cap5:Nat),af w W'->Sl W' ZH (uQ rs ts k t)->Calls prog 36 #[.slice ad rs.length cap,.slice ZH (uQ rs ts k t).length cap5] W' fun e w'=>(∃v,e=.returned v/\w'.ownsRow W'.heap.size 43 5 v (bH st rs (uQ rs ts k t)).length (aA (bH st rs (uQ rs ts k t))))/\af W' w'):=fun W' ZH cap5 hB h5=>uh st ad cap rs ZH cap5 (uQ rs ts k t) W' hlen (hs.below hB) hl hfr (Wh (FR _ _ _ _) (by decide)) h5 (sW hf ht) hle;have hn0:(bH st rs ts).length<=115200:=by rw[jg];exact iD st
 have hn1:(bH st rs (uQ rs ts k t)).length<=115200:=by rw[jg];exact iD st
 obtain⟨M,hM⟩:∃M,ui st rs ts k t=M:=⟨_,rfl⟩;obtain⟨L,hL⟩:∃L,uj st rs ts k t=L:=⟨_,rfl⟩;rw[hM,hL];unfold ui at hM;unfold uj at hL;obtain⟨q,hQ⟩:∃q,Ov rs ts k t=q:=⟨_,rfl⟩;obtain⟨L0,hL0⟩:∃L,bH st rs ts=L:=⟨_,rfl⟩;obtain⟨L1,hL1⟩:∃L,bH st rs (uQ rs ts k t)=L:=⟨_,rfl⟩;obtain⟨N,hN⟩:∃N,uQ rs ts k t=N:=⟨_,rfl⟩;rw[hL0]at Yc hn0 hM hL;rw[hL1]at Yd hn1 hM hL;rw[hQ]at HA hM hL⊢;have HM:=ak hM.symm;have HL:=ak hL.symm;rw[hN]at HA Yd;obtain⟨x0,x1,x2,x3,x4,x5,x6,xl⟩:=hx0;clear hs hl hfr hr hf ht hle hQ hL0 hL1 hN hM hL hr0 HTL;go_enter func9,ntmps9;go_wp2_with fail;rw[<-hW0];clear hW0;refine HA.out.mono ?_;rintro e w1 ⟨ZH,cap5,rfl,hs5,hb1⟩;have HB1:=ak (HB0.out.trans (hb1.mono HB0.out.size));have HS5:=ak hs5;clear hs5 hb1 HA HB0 x0 x1 x2 x3 x4 x5 x6 xl;by_cases hq:q=0
 ·subst hq;obtain rfl:M=dZ L1 L0:=by rw[HM.out,if_pos rfl]
  obtain rfl:L=dZ L0 L1:=by rw[HL.out,if_pos rfl]
  clear HM HL;go_wp2_with fail;refine(Yc.out _ HB1.out).mono ?_;rintro e w2 ⟨⟨vA,rfl,hoA⟩,hb2⟩;obtain⟨adA,capA,rfl,hsA⟩:=jc hoA;have HB2:=ak (HB1.out.trans (hb2.mono HB1.out.size));have HS6:=ak (HS5.out.below hb2);have HSA:=ak hsA;clear hoA hsA hb2 HB1 HS5 Yc;go_wp2_with fail;refine(Yd.out _ _ _ HB2.out HS6.out).mono ?_;rintro e w3 ⟨⟨vB,rfl,hoB⟩,hb3⟩;obtain⟨adB,capB,rfl,hsB⟩:=jc hoB;have HB3:=ak (HB2.out.trans (hb3.mono HB2.out.size));have HSA3:=ak (HSA.out.below hb3);have HSB3:=ak hsB;clear hoB hsB hb3 HB2 HS6 HSA Yd;go_wp2_with fail;refine(wR adB capB L1 adA capA L0 w3 hn1 hn0 HSB3.out HSA3.out).mono ?_;rintro e w4 ⟨⟨v1,rfl,ho1⟩,hb4⟩;have XM:=ak (HB3.out.trans (hb4.mono HB3.out.size));have HSA4:=ak (HSA3.out.below hb4);have HSB4:=ak (HSB3.out.below hb4);have XD:=ak (ma ho1 HB3.out.size);clear ho1 hb4 HB3 HSA3 HSB3;go_wp2_with fail;refine(wR adA capA L0 adB capB L1 w4 hn0 hn1 HSA4.out HSB4.out).mono ?_;rintro e w5 ⟨⟨v2,rfl,ho2⟩,hb5⟩;have Yi:=ak (XM.out.trans (hb5.mono XM.out.size));have HE:Hid (IR w (dZ L1 L0) (dZ L0 L1) 0 (.returned (.tuple #[v1,v2,.int .i64 0])) w5):=⟨v1,v2,w4.heap.size,rfl,aH XD.out hb5,ho2,XM.out.size,fun g hg=>(XD.out.lt g hg).2,Yi.out⟩;clear ho2 hb5 XM HSA4 HSB4 XD;go_wp2;exact bodyPost_ret (v:=.tuple #[v1,v2,.int .i64 0]) (by simp[results,Tryz.results9,go_sem]) rfl HE.out
 have hq2:(q != 0)=true:=by simpa using hq
 obtain rfl:M=[]:=by rw[HM.out,if_neg hq]
 obtain rfl:L=[]:=by rw[HL.out,if_neg hq]
 have HE:Hid (IR w [] [] q (.returned (.tuple #[.slice none 0 0,.slice none 0 0,.int .i64 q])) w1):=by
  show IR _ _ _ _ _ _;exact⟨_,_,w.heap.size,rfl,World.ownsRow_nil _ _ _ _,World.ownsRow_nil _ _ _ _,V4 _,fun g hg=>by simp[Value.ownBlock]at hg,HB1.out⟩
 clear hq Yc Yd HM HL;go_wp2;exact bodyPost_ret (v:=.tuple #[.slice none 0 0,.slice none 0 0,.int .i64 q]) (by simp[results,Tryz.results9,go_sem]) rfl HE.out
theorem CO(st:Q00)(a:Nat->Addr)(ad:Q02)(cap:Nat)(rs:Q06)(b cap':Nat)(ts:Q05)(k:Int)(t:Tp)(w:ae)(hE:ErrsD w a)(hlen:rs.length<=1048576)(hs:lc w ad rs)(hl:∀r∈rs,r.light)(hfr:∀r∈rs,r.fits)(hcpT:∀r∈rs,r.caps)(hlt:ts.length<=1048576)(hcp:ts.length<=cap')(hb:b<w.heap.size)(hr:dM w b 0 ts)(hf:∀x∈ts,x.fits)(ht:t.fits)(hle:aD (ag rs)=true->Least (ag rs) st):
  Calls prog 8 #[.slice ad rs.length cap,.slice (some ⟨b,0,none⟩) ts.length cap',.agg #[.int .i64 k,.string t.a,.string t.b,.string t.r,.string t.c,.string t.d,.string t.s]] w (IR w (ui st rs ts k t) (uj st rs ts k t) (Ov rs ts k t)):=by
 obtain⟨W0,hW0⟩:∃W0,W0=w.alloc (.cells #[.int .i64 k,.string t.a,.string t.b,.string t.r,.string t.c,.string t.d,.string t.s] 31):=⟨_,rfl⟩;have HB0:=nC hW0;have hx0:oC W0 w.heap.size k t:=by rw[hW0];refine⟨?_,?_,?_,?_,?_,?_,?_,?_⟩<;>simp
 have hr0:dM W0 b 0 ts:=fun i hi=>(hr i hi).same fun o=>HB0.out.cell (p:=⟨b,o,none⟩) hb;have HTL:Hid (Sl w (some ⟨b,0,none⟩) ts):=.inr ⟨b,0,rfl,hb,hr⟩;have HA:=ak (yL a ad cap rs b cap' ts k t W0 (hE.below HB0.out) hlen (hs.below HB0.out) hl hfr hcpT hlt hcp (VY hb HB0.out.size) hr0 hf ht);have Yc:Hid (∀W',af w W'->Calls prog 12 #[.slice ad rs.length cap,.slice (some ⟨b,0,none⟩) ts.length cap'] W' fun e w'=>(∃v,e=.returned v/\w'.ownsRow W'.heap.size 43 5 v (bH st rs ts).length (aA (bH st rs ts)))/\af W' w'):=fun W' hB=>(kF st ad cap rs _ cap' ts W' hlen (hs.below hB) hl hfr hcpT hlt (HTL.out.below hB) hf hle).mono fun e w' h=>kG h;have Yd:Hid (∀(W':World) (ZH:Q02) (cap5:Nat),af w W'->Sl W' ZH (uQ rs ts k t)->Calls prog 12 #[.slice ad rs.length cap,.slice ZH (uQ rs ts k t).length cap5] W' fun e w'=>(∃v,e=.returned v/\w'.ownsRow W'.heap.size 43 5 v (bH st rs (uQ rs ts k t)).length (aA (bH st rs (uQ rs ts k t))))/\af W' w'):=fun W' ZH cap5 hB h5=>(kF st ad cap rs ZH cap5 (uQ rs ts k t) W' hlen (hs.below hB) hl hfr hcpT (Wh (FR _ _ _ _) (by decide)) h5 (sW hf ht) hle).mono fun e w' h=>kG h;have hn0:(bH st rs ts).length<=115200:=by rw[jg];exact iD st
 have hn1:(bH st rs (uQ rs ts k t)).length<=115200:=by rw[jg];exact iD st
 have HX0:=ak (yP (st:=st) hfr hf);have Yo:=ak (yP (st:=st) hfr (sW (rs:=rs) (k:=k) hf ht));obtain⟨M,hM⟩:∃M,ui st rs ts k t=M:=⟨_,rfl⟩;obtain⟨L,hL⟩:∃L,uj st rs ts k t=L:=⟨_,rfl⟩;rw[hM,hL];unfold ui at hM;unfold uj at hL;obtain⟨q,hQ⟩:∃q,Ov rs ts k t=q:=⟨_,rfl⟩;obtain⟨L0,hL0⟩:∃L,bH st rs ts=L:=⟨_,rfl⟩;obtain⟨L1,hL1⟩:∃L,bH st rs (uQ rs ts k t)=L:=⟨_,rfl⟩;obtain⟨N,hN⟩:∃N,uQ rs ts k t=N:=⟨_,rfl⟩;rw[hL0]at Yc hn0 HX0 hM hL;rw[hL1]at Yd hn1 Yo hM hL;rw[hQ]at HA hM hL⊢;have HM:=ak hM.symm;have HL:=ak hL.symm;rw[hN]at HA Yd;obtain⟨x0,x1,x2,x3,x4,x5,x6,xl⟩:=hx0;clear hs hl hfr hr hf ht hle hQ hL0 hL1 hN hM hL hr0 HTL hE hcpT;go_enter func8,ntmps8;go_wp2_with fail;rw[<-hW0];clear hW0;refine HA.out.mono ?_;rintro e w1 ⟨ZH,cap5,rfl,hs5,hb1⟩;have HB1:=ak (HB0.out.trans (hb1.mono HB0.out.size));have HS5:=ak hs5.1;clear hs5 hb1 HA HB0 x0 x1 x2 x3 x4 x5 x6 xl;by_cases hq:q=0
 ·subst hq;obtain rfl:M=dZ L1 L0:=by rw[HM.out,if_pos rfl]
  obtain rfl:L=dZ L0 L1:=by rw[HL.out,if_pos rfl]
  clear HM HL;go_wp2_with fail;refine(Yc.out _ HB1.out).mono ?_;rintro e w2 ⟨⟨vA,rfl,hoA⟩,hb2⟩;obtain⟨adA,capA,rfl,hsA⟩:=jc hoA;have HB2:=ak (HB1.out.trans (hb2.mono HB1.out.size));have HS6:=ak (HS5.out.below hb2);have HSA:=ak hsA;clear hoA hsA hb2 HB1 HS5 Yc;go_wp2_with fail;refine(Yd.out _ _ _ HB2.out HS6.out).mono ?_;rintro e w3 ⟨⟨vB,rfl,hoB⟩,hb3⟩;obtain⟨adB,capB,rfl,hsB⟩:=jc hoB;have HB3:=ak (HB2.out.trans (hb3.mono HB2.out.size));have HSA3:=ak (HSA.out.below hb3);have HSB3:=ak hsB;clear hoB hsB hb3 HB2 HS6 HSA Yd;go_wp2_with fail;refine(yN adB capB L1 adA capA L0 w3 hn1 hn0 HSB3.out HSA3.out Yo.out HX0.out).mono ?_;rintro e w4 ⟨⟨v1,rfl,ho1⟩,hb4⟩;have XM:=ak (HB3.out.trans (hb4.mono HB3.out.size));have HSA4:=ak (HSA3.out.below hb4);have HSB4:=ak (HSB3.out.below hb4);have XD:=ak (ma ho1 HB3.out.size);clear ho1 hb4 HB3 HSA3 HSB3;go_wp2_with fail;refine(yN adA capA L0 adB capB L1 w4 hn0 hn1 HSA4.out HSB4.out HX0.out Yo.out).mono ?_;rintro e w5 ⟨⟨v2,rfl,ho2⟩,hb5⟩;have Yi:=ak (XM.out.trans (hb5.mono XM.out.size));have HE:Hid (IR w (dZ L1 L0) (dZ L0 L1) 0 (.returned (.tuple #[v1,v2,.int .i64 0])) w5):=⟨v1,v2,w4.heap.size,rfl,aH XD.out hb5,ho2,XM.out.size,fun g hg=>(XD.out.lt g hg).2,Yi.out⟩;clear ho2 hb5 XM HSA4 HSB4 XD;go_wp2;exact bodyPost_ret (v:=.tuple #[v1,v2,.int .i64 0]) (by simp[results,Tryz.results8,go_sem]) rfl HE.out
 have hq2:(q != 0)=true:=by simpa using hq
 obtain rfl:M=[]:=by rw[HM.out,if_neg hq]
 obtain rfl:L=[]:=by rw[HL.out,if_neg hq]
 have HE:Hid (IR w [] [] q (.returned (.tuple #[.slice none 0 0,.slice none 0 0,.int .i64 q])) w1):=by
  show IR _ _ _ _ _ _;exact⟨_,_,w.heap.size,rfl,World.ownsRow_nil _ _ _ _,World.ownsRow_nil _ _ _ _,V4 _,fun g hg=>by simp[Value.ownBlock]at hg,HB1.out⟩
 clear hq Yc Yd HM HL;go_wp2;exact bodyPost_ret (v:=.tuple #[.slice none 0 0,.slice none 0 0,.int .i64 q]) (by simp[results,Tryz.results8,go_sem]) rfl HE.out
end
end Go.Proofs.YtcgdckphpjfmhaaGreatDoor
namespace Go.Proofs.YtcgdckphpjfmhaaGreatDoor.fnDelta
open Go.Sort
open ChangeShapes WideShapes ChangeAt RowKit
open Pl
set_option linter.unusedVariables false
structure St(w:World)(a:Nat->Addr)(Yt:Q02)(g n:Nat)(rs:Q06)(ts:Q05)(k:Int)(t:Tp)(W:World):Prop where
 bel:af w W
 sl:lc W Yt rs
 gl:g<W.heap.size
 row:dM W g 0 ts
 err:ErrsD W a
 lt:n<W.heap.size
 bx:W.cell? ⟨n,0,none⟩=some (.int .i64 k)/\W.cell? ⟨n,1,none⟩=some (.string t.a)/\W.cell? ⟨n,2,none⟩=some (.string t.b)/\W.cell? ⟨n,3,none⟩=some (.string t.r)/\W.cell? ⟨n,4,none⟩=some (.string t.c)/\W.cell? ⟨n,5,none⟩=some (.string t.d)/\W.cell? ⟨n,6,none⟩=some (.string t.s)
theorem St.later{w W W':ae}{a:Nat->Addr}{Yt:Q02}{g n:Nat}{rs:Q06}{ts:Q05}{k:Int}{t:Tp}(h:St w a Yt g n rs ts k t W)(hb:af W W'):St w a Yt g n rs ts k t W' :=
 ⟨h.bel.trans (hb.mono h.bel.size),h.sl.below hb,VY h.gl hb.size,fun i hi=>(h.row i hi).same fun o=>hb.cell (p:=⟨g,o,none⟩) h.gl,h.err.below hb,VY h.lt hb.size,by
  obtain⟨c0,c1,c2,c3,c4,c5,c6⟩:=h.bx;have hk:=fun o=>hb.cell (p:=⟨n,o,none⟩) h.lt;exact⟨(hk _).trans c0,(hk _).trans c1,(hk _).trans c2,(hk _).trans c3,(hk _).trans c4,(hk _).trans c5,(hk _).trans c6⟩⟩
theorem St.tu{w W:ae}{a:Nat->Addr}{Yt:Q02}{g n:Nat}{rs:Q06}{ts:Q05}{k:Int}{t:Tp}(h:St w a Yt g n rs ts k t W):Sl W (some ⟨g,0,none⟩) ts:=.inr ⟨g,0,rfl,h.gl,h.row⟩
set_option maxRecDepth 100000 in
theorem walk[DecidableEq Fc](ad:Q02)(len cap:Nat)(a:Nat->Addr)(w:ae)(hE:ErrsD w a)(h:Bytes w ad len):
  Calls prog 3 #[.slice ad len cap] w fun e w'=>e=.returned (.bool true)/\af w w':=by
 have H:=dm h;have HE:=dm hE;clear h hE;go_enter func3,ntmps3;go_wp2_with fail;refine(R6 ad len cap w).mono ?_;rintro e w0 ⟨rfl,rfl⟩;by_cases hbig:(1048576:Int)<(len:Int)
 ·go_wp2;go_ret;exact⟨rfl,V5 _ _⟩
 go_wp2_with fail;refine(CG ad len cap _ H.out).mono ?_;rintro e w1 ⟨v,rs,g,c,ts,k,t,rfl,hT,⟨hG1,hG2,hG3⟩,hl9,hsh,hts,hown,hb1⟩;obtain⟨Yt,Yu,rfl,hs1,hcp⟩:=hT.read;obtain⟨hrow,hg,hgc,-⟩:=nX hown rfl;obtain⟨W1,hW1⟩:∃W1,W1=w1.alloc (.cells #[.int .i64 k,.string t.a,.string t.b,.string t.r,.string t.c,.string t.d,.string t.s] 31):=⟨_,rfl⟩;have hba:af w1 W1:=by rw[hW1];exact(V5 _ _).alloc (V4 _) _
 have K1:Hid (St w0 a Yt g w1.heap.size rs ts k t W1):=by
  refine⟨hb1.trans (hba.mono hb1.size),hs1.below hba,VY hg hba.size,fun i hi=>(hrow i hi).same fun o=>hba.cell (p:=⟨g,o,none⟩) hg,(HE.out.below hb1).below hba,by rw[hW1];simp,?_⟩;refine⟨?_,?_,?_,?_,?_,?_,?_⟩<;>(rw[hW1];simp)
 have hlen:rs.length<=1048576:=by omega
 have hlt:ts.length<=1048576:=by omega
 obtain⟨st,hst0⟩:=VC (ag rs);have Yv:=dm hst0;have HL:=dm hG2;have HF:=dm hG3;have HC:=dm hcp;have XC:=dm hsh.fits;have HTF:=dm hts.fits;obtain⟨M,hM⟩:∃M,ui st rs ts k t=M:=⟨_,rfl⟩;obtain⟨L,hL⟩:∃L,uj st rs ts k t=L:=⟨_,rfl⟩;obtain⟨q,hQ⟩:∃q,Ov rs ts k t=q:=⟨_,rfl⟩;have hMl:M.length<=1048576:=by rw[<-hM];exact Wh (IU st rs ts k t).1 (by decide)
 have hLl:L.length<=1048576:=by rw[<-hL];exact Wh (IU st rs ts k t).2 (by decide)
 have HMM:=dm hM;have HLL:=dm hL;have HQQ:=dm hQ;clear hT hG2 hG3 hcp hb1 hs1 hbig hown hsh hts hrow hg hba hM hL hQ H HE hst0;obtain⟨x0,x1,x2,x3,x4,x5,x6⟩:=K1.out.bx;go_wp2_with fail;rw[<-hW1];clear hW1;refine(CO st a Yt Yu rs g c ts k t _ K1.out.err hlen K1.out.sl HL.out HF.out HC.out hlt hgc K1.out.gl K1.out.row XC.out HTF.out Yv.out).mono ?_;rintro e w2 ⟨v1,v2,m,he,ho1,ho2,-,-,hb2⟩;rw[HMM.out]at ho1;rw[HLL.out]at ho2;obtain⟨adM,capM,rfl,hsM⟩:=jc ho1;obtain⟨adL,ZA,rfl,hsL⟩:=jc ho2;rw[HQQ.out]at he;subst he;have K2:=dm (K1.out.later hb2);have X0:=dm hsM;have HL2:=dm hsL;clear hb2 K1 x0 x1 x2 x3 x4 x5 x6 ho1 ho2 hsM hsL;obtain⟨x0,x1,x2,x3,x4,x5,x6⟩:=K2.out.bx;go_wp2_with fail;refine(CL st Yt Yu rs g c ts k t _ hlen K2.out.sl HL.out HF.out hlt hgc K2.out.gl K2.out.row XC.out HTF.out Yv.out).mono ?_;rintro e w3 ⟨v1,v2,m2,he,ho1,ho2,-,-,hb3⟩;rw[HMM.out]at ho1;rw[HLL.out]at ho2;obtain⟨adA,capA,rfl,hsA⟩:=jc ho1;obtain⟨adB,capB,rfl,hsB⟩:=jc ho2;rw[HQQ.out]at he;subst he;have K3:=dm (K2.out.later hb3);have ZP:=dm (X0.out.below hb3);have HL3:=dm (HL2.out.below hb3);have HA3:=dm hsA;have HB3:=dm hsB;clear hb3 K2 X0 HL2 x0 x1 x2 x3 x4 x5 x6 ho1 ho2 hsA hsB;have hqn:(q != q)=false:=by simp
 have hqq:(q==q)=true:=by simp
 go_wp2_with fail;refine(kE adM adA capM capA M _ hMl ZP.out HA3.out).mono ?_;rintro e w4 ⟨rfl,hb4⟩;have K4:=dm (K3.out.later hb4);have HM4:=dm (ZP.out.below hb4);have HL4:=dm (HL3.out.below hb4);have HA4:=dm (HA3.out.below hb4);have XM:=dm (HB3.out.below hb4);clear hb4 K3 ZP HL3 HA3 HB3;go_wp2_with fail;refine(kE adL adB ZA capB L _ hLl HL4.out XM.out).mono ?_;rintro e w5 ⟨rfl,hb5⟩;have K5:=dm (K4.out.later hb5);have HM5:=dm (HM4.out.below hb5);have HL5:=dm (HL4.out.below hb5);have HA5:=dm (HA4.out.below hb5);have Yi:=dm (XM.out.below hb5);clear hb5 K4 HM4 HL4 HA4 XM;by_cases hq0:q=0;case neg =>
  have hq1:(q != 0)=true:=by simpa using hq0
  go_wp2_with fail;refine(kE adM adA capM capA M _ hMl HM5.out HA5.out).mono ?_;rintro e w6 ⟨rfl,hb6⟩;have K6:=dm (K5.out.later hb6);have HL6:=dm (HL5.out.below hb6);have YB:=dm (Yi.out.below hb6);clear hb6 K5 HM5 HL5 HA5 Yi;go_wp2_with fail;refine(kE adL adB ZA capB L _ hLl HL6.out YB.out).mono ?_;rintro e w7 ⟨rfl,ZB⟩;have HBe:=dm (K6.out.later ZB).bel;clear ZB;go_wp2;go_ret;exact⟨rfl,HBe.out⟩
 have HQ0:Hid (Ov rs ts k t=0):=HQQ.out.trans hq0;obtain rfl:q=0:=hq0;obtain⟨L0,hL0⟩:∃L,L=bH st rs ts:=⟨_,rfl⟩;obtain⟨L1,hL1⟩:∃L,L=bH st rs (uQ rs ts k t):=⟨_,rfl⟩;have HME:Hid (M=dZ L1 L0):=by show _=_;rw[<-HMM.out,hL0,hL1];unfold ui;rw[if_pos HQ0.out]
 have HLE2:Hid (L=dZ L0 L1):=by show _=_;rw[<-HLL.out,hL0,hL1];unfold uj;rw[if_pos HQ0.out]
 have hn0:L0.length<=115200:=by rw[hL0,jg];exact iD st
 have hn1:L1.length<=115200:=by rw[hL1,jg];exact iD st
 have HD0:Hid L0.Nodup:=by show L0.Nodup;rw[hL0];exact(gF _).nodup_iff.2 rX
 have HD1:Hid L1.Nodup:=by show L1.Nodup;rw[hL1];exact(gF _).nodup_iff.2 rX
 have Zm:=dm hL0;have HE1:=dm hL1;clear hL0 hL1 HMM HLL HA5 Yi;obtain⟨x0,x1,x2,x3,x4,x5,x6⟩:=K5.out.bx;go_wp2_with fail;refine(yL a Yt Yu rs g c ts k t _ K5.out.err hlen K5.out.sl HL.out HF.out HC.out hlt hgc K5.out.gl K5.out.row XC.out HTF.out).mono ?_;rintro e w6 ⟨adN,capN,rfl,hsN,hb6⟩;have K6:=dm (K5.out.later hb6);have HM6:=dm (HM5.out.below hb6);have HL6:=dm (HL5.out.below hb6);have HN6:=dm hsN.1;clear hb6 K5 HM5 HL5 hsN x0 x1 x2 x3 x4 x5 x6;go_wp2_with fail;refine(kF st Yt Yu rs _ c ts _ hlen K6.out.sl HL.out HF.out HC.out hlt K6.out.tu XC.out Yv.out).mono ?_;intro e w7 hp7;obtain⟨⟨v7,rfl,ho7⟩,ZB⟩:=kG hp7;rw[<-Zm.out]at ho7;obtain⟨ad0,cap0,rfl,hs0⟩:=jc ho7;have K7:=dm (K6.out.later ZB);have HM7:=dm (HM6.out.below ZB);have HL7:=dm (HL6.out.below ZB);have HN7:=dm (HN6.out.below ZB);have HW7:=dm hs0;clear ZB K6 HM6 HL6 HN6 hp7 ho7 hs0;go_wp2_with fail;refine(kF st Yt Yu rs adN capN (uQ rs ts k t) _ hlen K7.out.sl HL.out HF.out HC.out (Wh (FR _ _ _ _) (by decide)) HN7.out (sW XC.out HTF.out) Yv.out).mono ?_;intro e w8 hp8;obtain⟨⟨v8,rfl,ho8⟩,hb8⟩:=kG hp8;rw[<-HE1.out]at ho8;obtain⟨ad1,cap1,rfl,hs1⟩:=jc ho8;have K8:=dm (K7.out.later hb8);have HM8:=dm (HM7.out.below hb8);have HL8:=dm (HL7.out.below hb8);have HW8:=dm (HW7.out.below hb8);have HN8:=dm hs1;clear hb8 K7 HM7 HL7 HN7 HW7 hp8 ho8 hs1;go_wp2_with fail;go_loopw[16] (fun i wr=>∃k:Nat,k<=L1.length/\i=.int .i64 k/\Hid (af w8 wr)) (fun i _=>L1.length-(intOf i).toNat);case atStart=>exact⟨0,Wd _,rfl,V5 _ _⟩
 obtain⟨i,hi,rfl,HB⟩:=hrel;have hi1:=bC i;by_cases hil:i<L1.length
 ·have hi2:(i:Int)<(L1.length:Int):=by omega
  obtain⟨b,off,Xx,⟨t0,t1,t2,t3,t4⟩,hbl⟩:=tT.at0 (HN8.out.below HB.out) hil;obtain⟨x,hx⟩:∃x,x=L1[i]:=⟨_,rfl⟩;have HIX:=dm (Rv (R:=L0) (fF.2 (show x∈L1 by rw[hx];exact VZ hil)));rw[<-hx]at t0 t1 t2 t3 t4;replace t0:=cell_regrown t0;replace t1:=cell_regrown t1;replace t2:=cell_regrown t2;replace t3:=cell_regrown t3;replace t4:=cell_regrown t4;obtain⟨y,hy⟩:∃y,bY L0 x=y:=⟨_,rfl⟩;have HCM:Hid (∀d os,Calls prog 13 #[.slice adM M.length capM,.agg #[.string x.a,.string x.b,.string x.r,.string x.c,.string x.d]] (grow (redrawn wr d) os) fun e w2=>e=.returned (.bool (!y))/\∃p:Regrown,w2=grow (redrawn wr p.d) p.os):=by
   refine bq fun W' hb=>?_;refine(nY adM capM M x W' hMl ((HM8.out.below HB.out).below hb)).mono ?_;rintro e w' ⟨rfl,hb'⟩;exact⟨by rw[HME.out,HIX.out,hy],hb'⟩
  have HCW:Hid (∀d os,Calls prog 13 #[.slice ad0 L0.length cap0,.agg #[.string x.a,.string x.b,.string x.r,.string x.c,.string x.d]] (grow (redrawn wr d) os) fun e w2=>e=.returned (.bool y)/\∃p:Regrown,w2=grow (redrawn wr p.d) p.os):=by
   refine bq fun W' hb=>?_;refine(nY ad0 cap0 L0 x W' (by omega) ((HW8.out.below HB.out).below hb)).mono ?_;rintro e w' ⟨rfl,hb'⟩;exact⟨by rw[hy],hb'⟩
  have hne:((!y)==y)=false:=by cases y<;>rfl
  subst Xx;clear hx hy;go_wp2_with fail;refine wp_region_quiet_below (by kernel_rfl) (by kernel_rfl) ?_
  iterate 6 (go_big_quiet_step (exact HCM.out _ _))
  repeat(go_big_quiet_step (exact HCW.out _ _))
  refine wpQuiet_nil ?_;rintro _ ⟨⟨dq,osq⟩,rfl⟩;have HB2:=dm (HB.out.trans ((below_regrown wr dq osq).mono HB.out.size));clear t0 t1 t2 t3 t4 HCM HCW HIX;go_wp2;go_roundw;case rel=>exact⟨i+1,by omega,by go_num,HB2⟩
  simp[intOf]<;>omega
 obtain rfl:i=L1.length:=by omega
 have K9:=dm (K8.out.later HB.out);have HM9:=dm (HM8.out.below HB.out);have Zp:=dm (HL8.out.below HB.out);have HW9:=dm (HW8.out.below HB.out);have HN9:=dm (HN8.out.below HB.out);obtain⟨w9,hw9⟩:∃w9,w9=wr:=⟨_,rfl⟩;rw[<-hw9]at K9 HM9 Zp HW9 HN9 ⊢;clear hw9 HB K8 HM8 HL8 HW8 HN8;go_wp2_with fail;go_loopw[17] (fun i wr=>∃k:Nat,k<=L0.length/\i=.int .i64 k/\Hid (af w9 wr)) (fun i _=>L0.length-(intOf i).toNat);case atStart=>exact⟨0,Wd _,rfl,V5 _ _⟩
 obtain⟨i,hi,rfl,HB⟩:=hrel;have hi1:=bC i;by_cases hil:i<L0.length
 ·have hi2:(i:Int)<(L0.length:Int):=by omega
  obtain⟨b,off,Xx,⟨t0,t1,t2,t3,t4⟩,hbl⟩:=tT.at0 (HW9.out.below HB.out) hil;obtain⟨x,hx⟩:∃x,x=L0[i]:=⟨_,rfl⟩;have HIX:=dm (Rv (R:=L1) (fF.2 (show x∈L0 by rw[hx];exact VZ hil)));rw[<-hx]at t0 t1 t2 t3 t4;replace t0:=cell_regrown t0;replace t1:=cell_regrown t1;replace t2:=cell_regrown t2;replace t3:=cell_regrown t3;replace t4:=cell_regrown t4;obtain⟨y,hy⟩:∃y,bY L1 x=y:=⟨_,rfl⟩;have HCM:Hid (∀d os,Calls prog 13 #[.slice adL L.length ZA,.agg #[.string x.a,.string x.b,.string x.r,.string x.c,.string x.d]] (grow (redrawn wr d) os) fun e w2=>e=.returned (.bool (!y))/\∃p:Regrown,w2=grow (redrawn wr p.d) p.os):=by
   refine bq fun W' hb=>?_;refine(nY adL ZA L x W' hLl ((Zp.out.below HB.out).below hb)).mono ?_;rintro e w' ⟨rfl,hb'⟩;exact⟨by rw[HLE2.out,HIX.out,hy],hb'⟩
  have HCW:Hid (∀d os,Calls prog 13 #[.slice ad1 L1.length cap1,.agg #[.string x.a,.string x.b,.string x.r,.string x.c,.string x.d]] (grow (redrawn wr d) os) fun e w2=>e=.returned (.bool y)/\∃p:Regrown,w2=grow (redrawn wr p.d) p.os):=by
   refine bq fun W' hb=>?_;refine(nY ad1 cap1 L1 x W' (by omega) ((HN9.out.below HB.out).below hb)).mono ?_;rintro e w' ⟨rfl,hb'⟩;exact⟨by rw[hy],hb'⟩
  have hne:((!y)==y)=false:=by cases y<;>rfl
  subst Xx;clear hx hy;go_wp2_with fail;refine wp_region_quiet_below (by kernel_rfl) (by kernel_rfl) ?_
  iterate 6 (go_big_quiet_step (exact HCM.out _ _))
  repeat(go_big_quiet_step (exact HCW.out _ _))
  refine wpQuiet_nil ?_;rintro _ ⟨⟨dq,osq⟩,rfl⟩;have HB2:=dm (HB.out.trans ((below_regrown wr dq osq).mono HB.out.size));clear t0 t1 t2 t3 t4 HCM HCW HIX;go_wp2;go_roundw;case rel=>exact⟨i+1,by omega,by go_num,HB2⟩
  simp[intOf]<;>omega
 have hcnt:=Om HD0.out HD1.out;rw[<-HME.out,<-HLE2.out]at hcnt;have hw1:IntKind.i64.wrap ((L0.length:Int)+(M.length:Int))=(L0.length:Int)+(M.length:Int):=by rw[IntKind.wrap_i64]<;>omega
 have hw2:IntKind.i64.wrap ((L0.length:Int)+(M.length:Int)-(L.length:Int))=(L1.length:Int):=by rw[IntKind.wrap_i64]<;>omega
 have hw3:(L0.length:Int)+(M.length:Int)-(L.length:Int)=(L1.length:Int):=by omega
 have HBe:=dm (K9.out.later HB.out).bel;clear hcnt;go_wp2;go_ret;exact⟨by simp,HBe.out⟩
theorem own:ownKnob prog.godebug=none:=by kernel_rfl
theorem laidOut:laidOutB prog=true:=by kernel_rfl
abbrev nm (i:Nat):String:=(Rows.fnDeltaSpec.vars[i]?).getD default
theorem n0:prog.globalNamed (nm 0)=some 0:=by kernel_rfl
theorem n2:prog.globalNamed (nm 1)=some 2:=by kernel_rfl
theorem n3:prog.globalNamed (nm 3)=some 3:=by kernel_rfl
theorem n4:prog.globalNamed (nm 4)=some 4:=by kernel_rfl
theorem n5:prog.globalNamed (nm 2)=some 5:=by kernel_rfl
theorem n6:prog.globalNamed (nm 5)=some 6:=by kernel_rfl
theorem n1 : Tryz.prog.globalNamed "errors.errorType" = some 1 := by kernel_rfl
theorem t0:(prog.globals[0]?).map (·.type)=some 73:=by kernel_rfl
theorem t2:(prog.globals[2]?).map (·.type)=some 73:=by kernel_rfl
theorem t3:(prog.globals[3]?).map (·.type)=some 73:=by kernel_rfl
theorem t4:(prog.globals[4]?).map (·.type)=some 73:=by kernel_rfl
theorem t5:(prog.globals[5]?).map (·.type)=some 73:=by kernel_rfl
theorem t6:(prog.globals[6]?).map (·.type)=some 73:=by kernel_rfl
theorem star : "*" ++ "errors.errorString" = "*errors.errorString" := by decide
theorem Ou (u : TypeId) (h : Tryz.prog.typeName? 3 u = some "*errors.errorString") : u = 350 :=
 typeName_ptr_named (nm := "errors.errorString") (by rw [star]; kernel_rfl) (by kernel_rfl) (by decide) u (by rw [star]; exact h)
theorem cellsE:prog.cellsOf 369=1:=by kernel_rfl
theorem cellsS:prog.cellsOf 9=1:=by kernel_rfl
theorem rt : (Tryz.prog.cutTypes.find? (·.1 == "internal/reflectlite.rtype")).map (·.2) = some 204 := by kernel_rfl
theorem U4:((List.range prog.types.size).filter fun t=>prog.rowNamed t [101,114,114,111,114])=[73]:=by kernel_rfl
theorem hnd:typeHandle prog 73=.pointer (some ⟨8,73,none⟩):=by kernel_rfl
theorem parts {W : World} (h : laidMetH Tryz.prog Rows.fnDeltaRow.laid W) : laidMet Tryz.prog (Rows.fnDeltaRow.laid.drop 1) W ∧ handlesMet Tryz.prog [("errors.errorType", Rows.laid_errors_errorType)] W := h
theorem U5{W:ae}(h:laidMetH prog Rows.fnDeltaRow.laid W):1<W.heap.size/\W.cell? ⟨1,0,none⟩=some (.iface 204 (.agg #[.pointer (some ⟨8,73,none⟩)])):=by
 obtain⟨name,u,ty,e1,e2,e3,e4,e5⟩:=(parts h).2 _ (Wl.2 rfl);have en:name=[101,114,114,111,114]:=(Option.some.inj e1).symm;subst en;obtain rfl:=Option.some.inj (rt.symm.trans e2);have hm:ty∈(List.range prog.types.size).filter fun t=>prog.rowNamed t [101,114,114,111,114]:=WW.2 ⟨List.mem_range.2 e3,e4⟩;rw[U4]at hm;obtain rfl:=Wl.1 hm;rw[hnd]at e5;have hc:W.cell? ⟨1,0,none⟩=some (.iface 204 (.agg #[.pointer (some ⟨8,73,none⟩)])):=by simpa using World.var?_cell n1 e5 0
 exact⟨World.block_lt_of_cell? W ⟨1,0,none⟩ hc,hc⟩
set_option maxRecDepth 100000 in
theorem Tu{W:ae}(h:laidMetH prog Rows.fnDeltaRow.laid W):
  ∃a0 a2 a3 a4 a5 a6:Addr,[a0,a2,a3,a4,a5,a6].Nodup/\W.var? prog (nm 0)=some #[.iface 350 (.pointer (some a0))]/\W.var? prog (nm 1)=some #[.iface 350 (.pointer (some a2))]/\W.var? prog (nm 3)=some #[.iface 350 (.pointer (some a3))]/\W.var? prog (nm 4)=some #[.iface 350 (.pointer (some a4))]/\W.var? prog (nm 2)=some #[.iface 350 (.pointer (some a5))]/\W.var? prog (nm 5)=some #[.iface 350 (.pointer (some a6))]/\(∃c T,W.heap[a0.block]?=some (.cells c T (0,0)))/\(∃c T,W.heap[a2.block]?=some (.cells c T (0,0)))/\(∃c T,W.heap[a3.block]?=some (.cells c T (0,0)))/\(∃c T,W.heap[a4.block]?=some (.cells c T (0,0)))/\(∃c T,W.heap[a5.block]?=some (.cells c T (0,0)))/\(∃c T,W.heap[a6.block]?=some (.cells c T (0,0))):=by
 obtain⟨ps,⟨g0,k0,cs0,f0,p0,q0,hg0,ht0,hv0,hd0,⟨g2,k2,cs2,f2,p2,q2,hg2,ht2,hv2,hd2,⟨g3,k3,cs3,f3,p3,q3,hg3,ht3,hv3,hd3,⟨g4,k4,cs4,f4,p4,q4,hg4,ht4,hv4,hd4,⟨g5,k5,cs5,f5,p5,q5,hg5,ht5,hv5,hd5,⟨g6,k6,cs6,f6,p6,q6,Zn,ht6,hv6,hd6,hq6,e6⟩,e5⟩,e4⟩,e3⟩,e2⟩,e0⟩,hnd,hrows⟩:=(parts h).1;obtain rfl:=Option.some.inj (n0.symm.trans hg0);obtain rfl:=Option.some.inj (n2.symm.trans hg2);obtain rfl:=Option.some.inj (n3.symm.trans hg3);obtain rfl:=Option.some.inj (n4.symm.trans hg4);obtain rfl:=Option.some.inj (n5.symm.trans hg5);obtain rfl:=Option.some.inj (n6.symm.trans Zn);obtain rfl:=Option.some.inj (t0.symm.trans ht0);obtain rfl:=Option.some.inj (t2.symm.trans ht2);obtain rfl:=Option.some.inj (t3.symm.trans ht3);obtain rfl:=Option.some.inj (t4.symm.trans ht4);obtain rfl:=Option.some.inj (t5.symm.trans ht5);obtain rfl:=Option.some.inj (t6.symm.trans ht6);have hq6':q6=[]:=hq6;subst hq6';subst e6;subst e5;subst e4;subst e3;subst e2;subst e0;obtain⟨l0⟩:=cs0;obtain⟨l2⟩:=cs2;obtain⟨l3⟩:=cs3;obtain⟨l4⟩:=cs4;obtain⟨l5⟩:=cs5;obtain⟨l6⟩:=cs6;have ok0:∀u v,l0=[.iface u v]->Value.okWide prog W .any 0 u v:=fun u v e=>by
  subst e;exact(hrows 0 0 (by simp[MemPlace.row])).2 u v (by simpa using World.var?_cell hg0 hv0 0)
 have ok2:∀u v,l2=[.iface u v]->Value.okWide prog W .any 0 u v:=fun u v e=>by
  subst e;exact(hrows 2 0 (by simp[MemPlace.row])).2 u v (by simpa using World.var?_cell hg2 hv2 0)
 have ok3:∀u v,l3=[.iface u v]->Value.okWide prog W .any 0 u v:=fun u v e=>by
  subst e;exact(hrows 3 0 (by simp[MemPlace.row])).2 u v (by simpa using World.var?_cell hg3 hv3 0)
 have ok4:∀u v,l4=[.iface u v]->Value.okWide prog W .any 0 u v:=fun u v e=>by
  subst e;exact(hrows 4 0 (by simp[MemPlace.row])).2 u v (by simpa using World.var?_cell hg4 hv4 0)
 have ok5:∀u v,l5=[.iface u v]->Value.okWide prog W .any 0 u v:=fun u v e=>by
  subst e;exact(hrows 5 0 (by simp[MemPlace.row])).2 u v (by simpa using World.var?_cell hg5 hv5 0)
 have ok6:∀u v,l6=[.iface u v]->Value.okWide prog W .any 0 u v:=fun u v e=>by
  subst e;exact(hrows 6 0 (by simp[MemPlace.row])).2 u v (by simpa using World.var?_cell Zn hv6 0)
 obtain⟨a0,s0,rfl,-,-,-,rfl⟩:=errorString_of_trod underlying73 Ou underlying350 underlying369 rfl rfl underlying9 cellsE cellsS hd0 ok0;obtain⟨a2,s2,rfl,-,-,-,rfl⟩:=errorString_of_trod underlying73 Ou underlying350 underlying369 rfl rfl underlying9 cellsE cellsS hd2 ok2;obtain⟨a3,s3,rfl,-,-,-,rfl⟩:=errorString_of_trod underlying73 Ou underlying350 underlying369 rfl rfl underlying9 cellsE cellsS hd3 ok3;obtain⟨a4,s4,rfl,-,-,-,rfl⟩:=errorString_of_trod underlying73 Ou underlying350 underlying369 rfl rfl underlying9 cellsE cellsS hd4 ok4;obtain⟨a5,s5,rfl,-,-,-,rfl⟩:=errorString_of_trod underlying73 Ou underlying350 underlying369 rfl rfl underlying9 cellsE cellsS hd5 ok5;obtain⟨a6,s6,rfl,-,-,-,rfl⟩:=errorString_of_trod underlying73 Ou underlying350 underlying369 rfl rfl underlying9 cellsE cellsS hd6 ok6;have b0:=(hrows a0.block a0.off (by simp[MemPlace.row])).1;have b2:=(hrows a2.block a2.off (by simp[MemPlace.row])).1;have b3:=(hrows a3.block a3.off (by simp[MemPlace.row])).1;have b4:=(hrows a4.block a4.off (by simp[MemPlace.row])).1;have b5:=(hrows a5.block a5.off (by simp[MemPlace.row])).1;have b6:=(hrows a6.block a6.off (by simp[MemPlace.row])).1;refine⟨a0,a2,a3,a4,a5,a6,?_,hv0,hv2,hv3,hv4,hv5,hv6,b0,b2,b3,b4,b5,b6⟩;have x02:a0≠a2:=by rintro rfl;simp[MemPlace.row]at hnd
 have x03:a0≠a3:=by rintro rfl;simp[MemPlace.row]at hnd
 have x04:a0≠a4:=by rintro rfl;simp[MemPlace.row]at hnd
 have x05:a0≠a5:=by rintro rfl;simp[MemPlace.row]at hnd
 have x06:a0≠a6:=by rintro rfl;simp[MemPlace.row]at hnd
 have x23:a2≠a3:=by rintro rfl;simp[MemPlace.row]at hnd
 have x24:a2≠a4:=by rintro rfl;simp[MemPlace.row]at hnd
 have x25:a2≠a5:=by rintro rfl;simp[MemPlace.row]at hnd
 have x26:a2≠a6:=by rintro rfl;simp[MemPlace.row]at hnd
 have x34:a3≠a4:=by rintro rfl;simp[MemPlace.row]at hnd
 have x35:a3≠a5:=by rintro rfl;simp[MemPlace.row]at hnd
 have x36:a3≠a6:=by rintro rfl;simp[MemPlace.row]at hnd
 have x45:a4≠a5:=by rintro rfl;simp[MemPlace.row]at hnd
 have x46:a4≠a6:=by rintro rfl;simp[MemPlace.row]at hnd
 have x56:a5≠a6:=by rintro rfl;simp[MemPlace.row]at hnd
 simp[x02,x03,x04,x05,x06,x23,x24,x25,x26,x34,x35,x36,x45,x46,x56]
def pick(a0 a2 a3 a4 a5 a6:Addr)(g:Nat):Addr:=if g=0 then a0 else if g=2 then a2 else if g=3 then a3 else if g=4 then a4 else if g=5 then a5 else a6
end Go.Proofs.YtcgdckphpjfmhaaGreatDoor.fnDelta
