/- All facts as the program finds them: stratum by stratum, rounds over fewer and fewer users. -/
import Derived.Test.YtajkkeikihhejaaGreatSq
import Derived.Test.YtajkkeikihhejaaGreatJ32
import Derived.Test.YtajkkeikihhejaaGreatL4All
import Derived.Test.YtajkkeikihhejaaGreatJ29
import Derived.Test.YtajkkeikihhejaaGreatJ33
open Go.Proofs.Tryz
set_option maxHeartbeats 80000000
namespace Go.Proofs.YtajkkeikihhejaaGreat
set_option linter.unusedVariables false
set_option maxRecDepth 100000
open ChangeShapes WideShapes ChangeAt RowKit Maps Go.Shelf
open Pl
attribute [local go_sem] Oper.semAt_some
def FD(X:World)(B:Nat):Nat:=match X.cell? ⟨B,0,none⟩ with
 | some x=>TE x
 | none=>0
theorem FE{X:af}{B n c:Nat}{ad:Q02}{T:TypeId}(h:ik X B (.slice ad n c) T):FD X B=n:=by
 unfold FD;rw[h.c];rfl
section
variable  [DecidableEq Fc]
theorem Ei(w:af)(rs:Q06)(WQ:Q02)(D br bp bt:Nat)(N:Nat)(nr:Nat)(Mr:KL->Option Value)(st:Q00)(ts:Q05)(xo xu:Q0a)(np:Nat)(Mp:K3->Option Value)(vo vu:Value)(hD:DatA w rs D br bp bt (N:Int) nr Mr (dH st rs) (bn ts) xo xu np Mp vo vu)(hs:kU w WQ rs)(hN:N<=1000)(hol:xo.length<=80)(Zt:xu.length<=40)(hE:(au (ag rs)).length<=36)(hrl:∀k,(G.lookL (dH st rs) k).length<=1000)(hsh:bu (ag rs)=true)(hts:∀t∈ts,t.fits)(htl:ts.length<=1000)(hof:∀o∈xo,o.t.size<=maxLen/\o.s.size<=maxLen)(huf:∀o∈xu,o.t.size<=maxLen/\o.s.size<=maxLen)(hrf:∀k∈au (ag rs),k.2.size<=maxLen):
  Calls prog 59 #[.pointer (some ⟨D,0,none⟩)] w fun e w'=>(∃v,e=.returned v/\w'.ownsRow w.heap.size 29 5 v (lJ (ag rs) ts st xo xu N).length (aA (lJ (ag rs) ts st xo xu N)))/\ae w w':=by
 obtain⟨iF,z0,z1,z2,z3⟩:=pq;obtain⟨W0,hW0⟩:∃W0,W0=((w.alloc (.cells #[.slice none 0 0] 40)).alloc (.map #[] 0)).alloc (.cells #[.map (some (w.heap.size+1))] 107):=⟨_,rfl⟩;obtain⟨X7,XM,rfl,-⟩:=kK hD.dat.objs;have hlD:=hD.dat.lt;have d1:=hD.dat.c1;have h00:FoW w W0 (.slice none 0 0) []/\ik W0 (w.heap.size+1+1) (.map (some (w.heap.size+1))) 107:=by
  obtain⟨V1,e1⟩:∃V,V=w.alloc (.cells #[.slice none 0 0] 40):=⟨_,rfl⟩;obtain⟨V2,e2⟩:∃V,V=V1.alloc (.map #[] 0):=⟨_,rfl⟩;rw[<-e1,<-e2]at hW0;have t1:V1.heap.size=w.heap.size+1:=by rw[e1,World.size_alloc]
  have t2:V2.heap.size=w.heap.size+1+1:=by rw[e2,World.size_alloc,t1]
  have f1:ae w V1:=by rw[e1];exact(UV _ _).alloc (UU _) _
  have f2:ae V1 V2:=by rw[e2];exact(UV _ _).alloc (UU _) _
  have f3:ae V2 W0:=by rw[hW0];exact(UV _ _).alloc (UU _) _
  have f12:ae w V2:=f1.trans (f2.mono f1.size);have g1:ik V1 w.heap.size (.slice none 0 0) 40:=by rw[e1];exact World.alloc_heap_new w _
  have g2:aK jO prog 29 V2 (w.heap.size+1) 0 (fun _=>none):=by
   have:=lK jO prog 29 V1;rw[<-e2,t1]at this;exact this
  have g3:ik W0 (w.heap.size+1+1) (.map (some (w.heap.size+1))) 107:=by rw[hW0,<-t2];exact World.alloc_heap_new V2 _
  have ek:wL []=fun _=>none:=rfl;exact⟨⟨f12.trans (f3.mono f12.size),(g1.bel f2).bel f3,World.ownsRow_nil _ _ _ _,by rw[ek];exact g2.below f3⟩,g3⟩
 have hmm:=@run_makeMap prog;have hl1:D<w.heap.size+1:=by omega
 have hl2:D<w.heap.size+1+1:=by omega
 refine(callsIn_wide (n:=12)).1 ?_;refine callsIn_of_wp_marks func59 rfl trivial ?_ rfl;simp only[ntmps59,List.size_toArray,Vq,VT,Nat.reduceAdd,Nat.reduceSub,Array.replicate_succ,Array.replicate_zero,List.push_toArray,List.append_toArray,VU,VC];gi_wp2;rw[<-hW0];clear hW0 hmm;obtain⟨H,hH⟩:∃H,H=fT (ag rs) ts:=⟨_,rfl⟩;obtain⟨A,hA⟩:∃A:Nat->List Fc,A=lJ (ag rs) ts st xo xu:=⟨_,rfl⟩;obtain⟨Q,hQ⟩:∃Q:Nat->List Fc,Q=fun(n:Nat)=>df (ag rs) st xo xu (n:Int):=⟨_,rfl⟩;have hA1:∀n,A (n+1)=kH H (Q n) (A n):=fun n=>by rw[hA,hH,hQ];exact jy _ _ _ _ _ _
 have hAG:∀n,GoodO (ag rs) xo xu (A n):=fun n=>by rw[hA];exact kN _ _ _ _ _ n
 have hA0:A 0=[]:=by rw[hA];rfl
 have hAN:lJ (ag rs) ts st xo xu N=A N:=by rw[hA]
 refine wpIn_loop (fun a' X=>∃(q:Nat) (rl:List Nat) (v:Value) (u5 u6 u7 u8 u15 u16 u17 u18 u19 u20 u21 u22 u23 u24 u25 u26 u27 u28 u29 u30 u31 u32 u33 u34 u35 u36 u37 u38 u39 u40 u41 u42 u43 u44:Value),a'={ tmps:=List.toArray (.pointer (some ⟨D,0,none⟩)::undef::.slice none 0 0::.pointer (some ⟨w.heap.size,0,none⟩)::.pointer (some ⟨w.heap.size+1+1,0,none⟩)::u5::u6::u7::u8::.map (some (w.heap.size+1))::.pointer (some ⟨D,0,none⟩)::.pointer (some ⟨D,0,none⟩)::.pointer (some ⟨D,1,none⟩)::.int .i64 (N:Int)::.int .i64 (q:Int)::u15::u16::u17::u18::u19::u20::u21::u22::u23::u24::u25::u26::u27::u28::u29::u30::u31::u32::u33::u34::u35::u36::u37::u38::u39::u40::u41::u42::u43::u44::undef::[]),defers:=marks rl }/\q<=N/\FoW w X v (A q)/\ik X (w.heap.size+1+1) (.map (some (w.heap.size+1))) 107/\je X rl/\(∀r∈rl,w.heap.size+1+1<r)) (fun a' _=>N-(intOf (a'.tmps.getD 14 undef)).toNat) ⟨0,[],.slice none 0 0,_,_,_,_,_,_,_,_,_,_,_,_,_,_,_,_,_,_,_,_,_,_,_,_,_,_,_,_,_,_,_,_,_,_,rfl,UY _,by rw[hA0];exact h00.1,h00.2,⟨List.nodup_nil,fun r hr=>by cases hr⟩,fun r hr=>by cases hr⟩ ?_;rintro a1 X ⟨q,rl,v,u5,u6,u7,u8,u15,u16,u17,u18,u19,u20,u21,u22,u23,u24,u25,u26,u27,u28,u29,u30,u31,u32,u33,u34,u35,u36,u37,u38,u39,u40,u41,u42,u43,u44,rfl,hq,hF,hB,hMk,hMn⟩;clear h00;by_cases hlq:q<N
 ·have hDX:=hD.below hF.bel;have d5:=hDX.dat.c5;have d5l:=hDX.dat.lt;obtain⟨adV,Yc,rfl,-⟩:=kK hDX.dat.users;gi_wp2;refine wpIn_loop (fun a' X=>∃(us:Q0a) (Xc:Q02) (Wn:Nat) (out:Q04) (rl:List Nat) (v:Value) (base:Nat) (u7 u8 u21 u22 u23 u24 u25 u26 u27 u28 u29 u30 u31 u32 u33 u34 u35 u36 u37 u38 u39 u40 u41 u42 u43 u44:Value),a'={ tmps:=List.toArray (.pointer (some ⟨D,0,none⟩)::undef::.slice none 0 0::.pointer (some ⟨w.heap.size,0,none⟩)::.pointer (some ⟨w.heap.size+1+1,0,none⟩)::.int .i64 (q:Int)::.slice Xc us.length Wn::u7::u8::.map (some (w.heap.size+1))::.pointer (some ⟨D,0,none⟩)::.pointer (some ⟨D,0,none⟩)::.pointer (some ⟨D,1,none⟩)::.int .i64 (N:Int)::.int .i64 (q:Int)::.bool true::.int .i64 (q:Int)::.pointer (some ⟨D,0,none⟩)::.pointer (some ⟨D,0,none⟩)::.pointer (some ⟨D,5,none⟩)::.slice adV xu.length Yc::u21::u22::u23::u24::u25::u26::u27::u28::u29::u30::u31::u32::u33::u34::u35::u36::u37::u38::u39::u40::u41::u42::u43::u44::undef::[]),defers:=marks rl }/\FewA (ag rs) ts st xo xu (q:Int) us out/\kH H (Q q) out=A (q+1)/\GoodO (ag rs) xo xu out/\FoW w X v out/\ik X (w.heap.size+1+1) (.map (some (w.heap.size+1))) 107/\je X rl/\(∀r∈rl,w.heap.size+1+1<r)/\X.ownsRow base 27 2 (.slice Xc us.length Wn) us.length (pairs us)/\us.length<=40/\∀o∈us,o.t.size<=maxLen/\o.s.size<=maxLen) (fun a' Y=>2*(200000-FD Y w.heap.size)+min 1 (TE (a'.tmps.getD 6 undef))) ⟨xu,adV,Yc,A q,rl,v,bp+1,_,_,_,_,_,_,_,_,_,_,_,_,_,_,_,_,_,_,_,_,_,_,_,_,_,_,rfl,FewA.start _,(hA1 q).symm,hAG q,hF,hB,hMk,hMn,hDX.dat.users,Zt,huf⟩ ?_;clear hDX d5 d5l hF hB hMk hMn;rintro a2 X2 ⟨us,Xc,Wn,out,rl2,v2,base,u7,u8,u21,u22,u23,u24,u25,u26,u27,u28,u29,u30,u31,u32,u33,u34,u35,u36,u37,u38,u39,u40,u41,u42,u43,u44,rfl,hFew,hLim,hG,hF2,hB2,hMk2,hMn2,hU,hul2,huf2⟩;obtain⟨WX,Wi,rfl,-⟩:=iP hF2.row;have hmu:=FE hF2.box;have hout:=hG.len hol hE Zt;by_cases hne:us=[]
  ·subst hne;have hAq:A (q+1)=out:=by rw[<-hLim,hH,hQ];exact hFew.done
   have ZJ:FoW w X2 (.slice WX out.length Wi) (A (q+1)):=by rw[hAq];exact hF2
   gi_wp2;exact⟨⟨q+1,rl2,_,_,_,_,_,_,_,_,_,_,_,_,_,_,_,_,_,_,_,_,_,_,_,_,_,_,_,_,_,_,_,_,_,_,_,rfl,by omega,ZJ,hB2,hMk2,hMn2⟩,by simp[intOf];omega⟩
  have hpos:0<us.length:=by cases us with|nil=>exact absurd rfl hne|cons a l=>simp
  have hposI:(0:Int)<(us.length:Int):=by omega
  have bc:=hF2.box.c;have kc:=hB2.c
  gi_wp2_with fail
  refine⟨trivial,(callsIn_wide.2 (FB D (q:Int) Xc us.length Wn (w.heap.size+1) X2)).mono ?_⟩;rintro e X3 ⟨rfl,hX3⟩;obtain⟨hBX,ZB,hs3⟩:=R8 X2 D (q:Int) (.slice Xc us.length Wn) (w.heap.size+1) hX3;have ZJ:=hF2.below ZB;have hU3:=aY hU ZB;have hB3:=hB2.bel ZB;have hMk3:=hMk2.bel ZB;have hsB:w.heap.size+1+1<X2.heap.size:=(UZ.1 hB2).1;clear hX3 bc kc;gi_wp2
  refine qL (α:=Fc) rfl (by omega) (gf:=144) (lb:=#[.pointer (some ⟨X2.heap.size,0,none⟩),.pointer (some ⟨X2.heap.size+1,0,none⟩),.pointer (some ⟨X2.heap.size+1+1,0,none⟩),.pointer (some ⟨X2.heap.size+1+1+1,0,none⟩)]) rfl trivial (enters_of func144 (by kernel_rfl) rfl)
   (NE 11 (by omega) rs WQ D br bp bt (N:Int) nr Mr st ts X7 XM xo xu np Mp (.slice adV xu.length Yc) (w.heap.size+1) out X2.heap.size (X2.heap.size+1) (X2.heap.size+1+1) (X2.heap.size+1+1+1) (q:Int) Xc Wn us X3 (by omega) (by omega) (by omega) (by omega) hrl hsh hts htl hof huf2 hrf) (UV _ _) (fun _=>rfl) (fun h k=>h.trans k) (fun Y lx o o' h1 h2=>KpO.put h1 h2)
   (fun pre Y=>∃v',FoW w Y v' (out++pre)/\KpO (w.heap.size+1) X3.heap.size X3 Y/\GoodO (ag rs) xo xu (out++pre))
   ?own ?tell ⟨_,by rw[VK];exact ZJ,KpO.below (UV _ _),by rw[VK];exact hG⟩
   (fun x a' Y=>∃Bx,xO Y Bx x/\a'={ tmps:=List.toArray (.pointer (some ⟨D,0,none⟩)::undef::.slice none 0 0::.pointer (some ⟨w.heap.size,0,none⟩)::.pointer (some ⟨w.heap.size+1+1,0,none⟩)::.int .i64 (q:Int)::.slice Xc us.length Wn::.int .i64 (out.length:Int)::.pointer (some ⟨Bx,0,none⟩)::.map (some (w.heap.size+1))::.pointer (some ⟨D,0,none⟩)::.pointer (some ⟨D,0,none⟩)::.pointer (some ⟨D,1,none⟩)::.int .i64 (N:Int)::.int .i64 (q:Int)::.bool true::.int .i64 (q:Int)::.pointer (some ⟨D,0,none⟩)::.pointer (some ⟨D,0,none⟩)::.pointer (some ⟨D,5,none⟩)::.slice adV xu.length Yc::.slice Xc us.length Wn::.int .i64 (us.length:Int)::.bool true::.slice WX out.length Wi::.int .i64 (out.length:Int)::.pointer (some ⟨D,0,none⟩)::.int .i64 (q:Int)::.slice Xc us.length Wn::.map (some (w.heap.size+1))::.func (.func 144) #[] #[.pointer (some ⟨X2.heap.size,0,none⟩),.pointer (some ⟨X2.heap.size+1,0,none⟩),.pointer (some ⟨X2.heap.size+1+1,0,none⟩),.pointer (some ⟨X2.heap.size+1+1+1,0,none⟩)]::.agg #[.string x.a,.string x.b,.string x.r,.string x.c,.string x.d]::u32::u33::u34::u35::u36::u37::u38::u39::u40::u41::u42::u43::u44::undef::[]),defers:=[] })
   (fun x a' s Y Z row hs hg hr=>by obtain⟨Bx,h,e⟩:=hs;exact⟨Bx,Ig (B0:=X3.heap.size) (g:=Bx) (x:=x) () Y Z row h hg hr,e⟩) ?assign ?body ?done
  case own =>
   intro pre Y Z row hs hg hr;obtain⟨v',h1,h2,h3⟩:=hs;exact⟨v',h1.kept hg fun r e=>⟨by have:=(hr r e).1;omega,(hr r e).2⟩,R9 (β:=Unit) () Y Z row h2 hg hr,h3⟩
  case tell =>
   rintro pre Y ⟨v',h1,h2,h3⟩;have hb:=hBX.kp h2;obtain⟨ad2,cap2,e,hsa⟩:=kK (Li hU3 h2 (by decide) (by decide));injection e with ea eb ec;exact⟨hD.below h1.bel,hs.below h1.bel,⟨_,h1.map⟩,hb.d.c,hb.s.c,hb.u.c,hb.k.c,by rw[ea];exact hsa⟩
  case assign =>
   rintro l' pre x Y K ⟨v',h1,h2,h3⟩ hKK;unfold Ef;gi_wp2;have hbl:ae Y (Y.alloc (.cells #[.string x.a,.string x.b,.string x.r,.string x.c,.string x.d] 29)):=(UV _ _).alloc (UU _) _;exact hKK _ _ ((KeepsOthers.alloc _ _).from _) (KpO.below hbl) ⟨v',h1.below hbl,h2.trans (KpO.below hbl),h3⟩ ⟨Y.heap.size,World.alloc_heap_new Y _,rfl⟩
  case body =>
   rintro l' pre x a' Y hl ⟨hEx,hnew⟩ ⟨v',hFY,hKY,hGY⟩ ⟨Bx,bX,rfl⟩;obtain⟨hkey,hxf⟩:=Ih hof huf2 hrf hEx;obtain⟨kl,hkl⟩:=BG x hxf;obtain⟨c0,c1,c2,c3,c4,cl⟩:=bX.c;have hGX:GoodO (ag rs) xo xu (out++(pre++[x])):=by
    refine⟨?_,fun g hg=>?_⟩
    ·rw[<-Vm];exact List.nodup_append.2 ⟨hGY.once,by simp,fun a ha b hb e=>by
      rw[U4]at hb;rw[<-hb,<-e]at hnew;exact hnew ha⟩
    rw[<-Vm]at hg;rcases U6.1 hg with hg|hg
    ·exact hGY.sub g hg
    rw[U4]at hg;subst hg;unfold df vQ at hEx;obtain⟨o,ho,h1⟩:=U8.1 hEx;obtain⟨k,hk,h1⟩:=U8.1 h1;obtain⟨u,hu,e⟩:=U7.1 h1;have hux:u∈xu:=by rw[hFew.sub]at hu;exact(VM.1 hu).1
    exact U8.2 ⟨o,ho,U8.2 ⟨k,(VM.1 hk).1,U7.2 ⟨u,hux,e⟩⟩⟩
   have hlen:=hGX.len hol hE Zt;rw[<-Vm,U2,Vr]at hlen;obtain⟨os,hos⟩:∃os,os=out++pre:=⟨_,rfl⟩;rw[<-hos]at hFY hlen;have ZY:=aj hos;clear hos;have kc:=(hB3.kp hKY (by decide) (by decide)).c;have kl2:=aF kc;obtain⟨adY,capY,rfl,-⟩:=iP hFY.row;have hmap:=hFY.map;have bcY:=hFY.box.c;have hbxl:=aF bcY;have hblk:=hFY.box;obtain⟨es,cc,hmb⟩:=pu hFY.map;have hne1:Bx≠w.heap.size+1:=fun e=>by
    have h:=bX;unfold xO at h;rw[e,hmb]at h;cases h
   have hrow:=hFY.row;have hvB:(Value.slice adY os.length capY).ownBlock≠some w.heap.size:=fun e=>by have:=(hrow.lt _ e).1;omega
   have hvM:(Value.slice adY os.length capY).ownBlock≠some (w.heap.size+1):=fun e=>Fe hrow e hmb;have hbYs:=hFY.bel.size
   gi_wp2_with (first
    | (gi_at_mapUpdate;refine yX _ rfl _ _ _ 107 rfl 29 113 J3 Hl underlying107 (w.heap.size+1) _ _ rfl hmap (by unfold maxLen;omega) x kl rfl hkl (.agg #[]) rfl ?_;intro Y1 hM1 hg1;have q0:=(kJ hg1 ⟨cl,hne1⟩ 0).trans c0;have q1:=(kJ hg1 ⟨cl,hne1⟩ 1).trans c1;have q2:=(kJ hg1 ⟨cl,hne1⟩ 2).trans c2;have q3:=(kJ hg1 ⟨cl,hne1⟩ 3).trans c3;have q4:=(kJ hg1 ⟨cl,hne1⟩ 4).trans c4;have qb:=(kJ hg1 ⟨hbxl,Nat.ne_of_lt (Nat.lt_succ_self _)⟩ 0).trans bcY;have ql:=aF q0;have qbl:=aF qb;have hrow1:=hrow.kept hg1 (.inr hvM);have hYs1:=hg1.size)
    | (gi_at_builtin;refine wpListIn_append_own_at _ rfl _ _ 40 rfl (w.heap.size+1) 29 iF (.agg #[.string ⟨#[]⟩,.string ⟨#[]⟩,.string ⟨#[]⟩,.string ⟨#[]⟩,.string ⟨#[]⟩]) 5 80 underlying40 z0 z1 z2 z3 rfl (by decide) _ os.length (aA os) rfl (hrow1.alloc _) ⟨Y1.heap.size,0,none⟩ 1 1 x.row rfl rfl (wC Y1 x) (by simp[Fc.row,Value.oneCell']) (by unfold maxLen;omega) (by omega) (by simp;omega) ?_;intro v2 V hown hgr _ hat;obtain⟨g2,cap2,rfl⟩:=ownsRow_succ hown;have HAT:=aj hat;clear hat;have hY2:ae Y1 (Y1.alloc (.cells #[.string x.a,.string x.b,.string x.r,.string x.c,.string x.d] 29)):=(UV _ _).alloc (UU _) _;have hVb:=QD hblk hg1 hY2 hgr hvB;have vc:=hVb.c;have vf:=gX hVb 0;have vl:=aF vc)
    | gi_in)
   obtain⟨r1,r2,r3⟩:=FoW.step hFY hM1 hg1 hY2 hown hgr HAT.out l';have eos:out++(pre++[x])=os++[x]:=by rw[ZY.out,Vm]
   exact⟨QE r3 (by omega),r2,_,by rw[eos];exact r1,hKY.after r2 hl,hGX⟩
  case done =>
   rintro Dd xs X5 hDd hS ⟨v5,hF5,hK5,hG5⟩ hKd;have hl5:=hG5.len hol hE Zt;have hlx:(out++xs).length=out.length+xs.length:=U2;have hxs:(out++xs).drop out.length=xs:=List.drop_left;obtain⟨o5,ho5⟩:∃o5,o5=out++xs:=⟨_,rfl⟩;rw[<-ho5]at hF5 hG5 hl5 hlx hxs;have Wm:=aj ho5;have Zb:=aj hxs;have hFew5:=hFew.next (by rw[<-hH]at hS ⊢;exact hS);have hLim5:kH H (Q q) o5=A (q+1):=by
    rw[<-hLim,<-CW (H:=H) (Q q) out];congr 1;rw[ho5,<-hS,<-hH,hQ,hH];exact hFew.round
   rw[<-ho5]at hFew5;obtain⟨adP,capP,rfl,hsF5⟩:=iP hF5.row;have bc5:=hF5.box.c;have bl5:=aF bc5;have i1:(0:Int)<=(out.length:Int):=by omega
   have i2:(out.length:Int)<=(o5.length:Int):=by omega
   have hcap5:o5.length<=capP:=Lj hF5.row;have hU5:=Li hU3 hK5 (by decide) (by decide);obtain⟨ad2,cap2,eU,hsU5⟩:=kK hU5;injection eU with ea eb ec;rw[<-ea]at hsU5;have hMk5:je X5 (Dd::rl2):=by
    have h1:=hMk3.kp hK5 (fun hm=>by have:=hMk3.lt hm;omega) (fun hm=>by have:=hMn2 _ hm;omega);refine⟨List.nodup_cons.2 ⟨fun hm=>by have:=hMk3.lt hm;omega,h1.1⟩,fun r hr=>?_⟩;rcases U9.1 hr with rfl|hr
    ·exact hKd
    exact h1.2 r hr
   have hMn5:∀r∈Dd::rl2,w.heap.size+1+1<r:=fun r hr=>by
    rcases U9.1 hr with rfl|hr
    ·omega
    exact hMn2 r hr
   have hkl:(fC us xs).length<=us.length:=Ee us xs;have hkz:xs.length=0->(fC us xs).length=0:=fun h=>by rw[Vb.1 h,Ke];rfl
   have hsx:∀ad3,ad3=Option.map (fun x=>Addr.add x (out.length*5)) adP->o8 X5 ad3 xs:=fun ad3 e=>by
    rw[e,<-Zb.out];exact o8.dropF hsF5 out.length
   clear ho5 hxs ea eb ec hS
   gi_wp2_with fail
   ·refine⟨trivial,(callsIn_wide.2 (ry Xc Wn us adP 0 xs X5 (by omega) (by omega) hsU5 (.inl (Vb.1 (by omega))))).mono ?_⟩;rintro e X6 ⟨⟨v6,rfl,XL⟩,hb6⟩;have WH:FD X6 w.heap.size=o5.length:=FE (hF5.below hb6).box;have hF6:=hF5.below hb6;have ZP:=(hB3.kp hK5 (by decide) (by decide)).bel hb6;obtain⟨ad6,cap6,rfl,-⟩:=kK XL;gi_wp2;exact⟨⟨fC us xs,ad6,cap6,o5,Dd::rl2,_,X5.heap.size,_,_,_,_,_,_,_,_,_,_,_,_,_,_,_,_,_,_,_,_,_,_,_,_,_,_,rfl,hFew5,hLim5,hG5,hF6,ZP,hMk5.bel hb6,hMn5,XL,by omega,fun o ho=>huf2 o (VM.1 ho).1⟩,by
     show 2*(200000-FD X6 w.heap.size)+min 1 (fC us xs).length<2*(200000-FD X2 w.heap.size)+min 1 us.length;rw[WH,hmu];omega⟩
   refine⟨trivial,(callsIn_wide.2 (ry Xc Wn us _ _ xs X5 (by omega) (by omega) hsU5 (hsx _ rfl))).mono ?_⟩;rintro e X6 ⟨⟨v6,rfl,XL⟩,hb6⟩;have WH:FD X6 w.heap.size=o5.length:=FE (hF5.below hb6).box;have hF6:=hF5.below hb6;have ZP:=(hB3.kp hK5 (by decide) (by decide)).bel hb6;obtain⟨ad6,cap6,rfl,-⟩:=kK XL;gi_wp2;exact⟨⟨fC us xs,ad6,cap6,o5,Dd::rl2,_,X5.heap.size,_,_,_,_,_,_,_,_,_,_,_,_,_,_,_,_,_,_,_,_,_,_,_,_,_,_,rfl,hFew5,hLim5,hG5,hF6,ZP,hMk5.bel hb6,hMn5,XL,by omega,fun o ho=>huf2 o (VM.1 ho).1⟩,by
    show 2*(200000-FD X6 w.heap.size)+min 1 (fC us xs).length<2*(200000-FD X2 w.heap.size)+min 1 us.length;rw[WH,hmu];omega⟩
 have hqN:q=N:=by omega
 subst hqN;obtain⟨WX,Wi,rfl,-⟩:=iP hF.row;have bc:=hF.box.c;have hR:X.ownsRow (w.heap.size+1) 29 5 (.slice WX (A q).length Wi) (lJ (ag rs) ts st xo xu q).length (aA (lJ (ag rs) ts st xo xu q)):=by rw[hAN];exact hF.row
 have hBl:=hF.bel;have hsz:w.heap.size<X.heap.size:=aF bc;clear hF hB hD;gi_wp2;refine wR (w.heap.size+1+1) (fun Y=>Y.ownsRow w.heap.size 29 5 (.slice WX (A q).length Wi) (lJ (ag rs) ts st xo xu q).length (aA (lJ (ag rs) ts st xo xu q))/\ae w Y) (fun Y r hr hY hd=>⟨eB hY.1 fun g hg=>oq fun e=>?_,?_⟩) (fun Y hY=>⟨_,results_tmp rfl _ _ _,⟨_,rfl,hY.1⟩,hY.2⟩) rl X hMk hMn ⟨dI hR (Nat.le_succ _),hBl⟩
 ·obtain⟨cur,e2⟩:=jN hY.1 hg;rw[e,hd]at e2;cases e2
 exact hY.2.grown (grownBy_putObj' Y r _) hY.2.size (fun g e=>by injection e with e;omega)
end
end Go.Proofs.YtajkkeikihhejaaGreat
namespace Go.Proofs.YtajkkeikihhejaaGreat
set_option maxRecDepth 100000
set_option linter.unusedVariables false
set_option linter.unusedSectionVars false
open ChangeShapes WideShapes ChangeAt RowKit Maps
open Pl
theorem xQ{xs:Q0a}{o x:Al}(h:x∈bz xs o):x∈xs\/x=o:=by
 unfold bz at h;split at h
 ·exact .inl h
 rcases U6.1 h with h|h
 ·exact .inl h
 exact .inr (by simpa using h)
theorem Ik:∀(ts:Q05) (xs:Q0a) (o:Al),o∈ts.foldl fU xs->o∈xs \/ ∃t∈ts,o=⟨t.a,t.b⟩\/o=⟨t.c,t.d⟩
 | [],xs,o,h=>.inl h
 | t::ts,xs,o,h=>by
  rcases Ik ts (fU xs t) o h with h|⟨u,hu,h⟩
  ·unfold fU at h;rcases xQ h with h|h
   ·rcases xQ h with h|h
    ·exact .inl h
    exact .inr ⟨t,by simp,.inl h⟩
   exact .inr ⟨t,by simp,.inr h⟩
  exact .inr ⟨u,by simp[hu],h⟩
theorem Il:∀(ts:Q05) (xs:Q0a) (o:Al),o∈ts.foldl dh xs->o∈xs \/ ∃t∈ts,o=⟨t.a,t.b⟩\/o=⟨t.c,t.d⟩
 | [],xs,o,h=>.inl h
 | t::ts,xs,o,h=>by
  rcases Il ts (dh xs t) o h with h|⟨u,hu,h⟩
  ·unfold dh at h;split at h
   ·rcases xQ h with h|h
    ·exact .inl h
    exact .inr ⟨t,by simp,.inr h⟩
   exact .inl h
  exact .inr ⟨u,by simp[hu],h⟩
theorem Lr{ts:Q05}(hf:∀t∈ts,t.fits){o:Al}(h:∃t∈ts,o=⟨t.a,t.b⟩\/o=⟨t.c,t.d⟩):o.t.size<=maxLen/\o.s.size<=maxLen:=by
 obtain⟨t,ht,h⟩:=h;obtain⟨h0,h1,h2,h3,h4,h5⟩:=hf t ht;rcases h with rfl|rfl
 ·exact⟨h0,h1⟩
 exact⟨h3,h4⟩
theorem ji{ts:Q05}(hf:∀t∈ts,t.fits):∀o∈dM ts,o.t.size<=maxLen/\o.s.size<=maxLen:=fun o ho=>by
 rcases Ik ts [] o ho with h|h
 ·cases h
 exact Lr hf h
theorem iG{ts:Q05}(hf:∀t∈ts,t.fits):∀o∈bP ts,o.t.size<=maxLen/\o.s.size<=maxLen:=fun o ho=>by
 rcases Il ts [] o ho with h|h
 ·cases h
 exact Lr hf h
theorem wS:∀(E:List (KL×RR)) (m:Int),m<=E.foldl (fun m x=>max m (x.1.2+1)) m/\∀x∈E,x.1.2+1<=E.foldl (fun m x=>max m (x.1.2+1)) m
 | [],m=>⟨Int.le_refl _,fun x hx=>by cases hx⟩
 | y::E,m=>by
  obtain⟨h1,h2⟩:=wS E (max m (y.1.2+1));simp only[List.foldl_cons];refine⟨by omega,fun x hx=>?_⟩;rcases U9.1 hx with rfl|hx
  ·omega
  exact h2 x hx
theorem FH:∀(E:List (KL×RR)) (m B:Int),m<=B->(∀x∈E,x.1.2+1<=B)->E.foldl (fun m x=>max m (x.1.2+1)) m<=B
 | [],m,B,h,_=>h
 | y::E,m,B,h,hx=>FH E _ B (Int.max_le.2 ⟨h,hx y (by simp)⟩) fun x h2=>hx x (by simp[h2])
theorem Lt{f:Q00}{rs:Q06}{k:Q01}(hk:k∈au (ag rs)):∃x∈dH f rs,x.1.2=f k:=by
 unfold au at hk;obtain⟨T,hT,hk⟩:=U8.1 hk;obtain⟨t,ht,rfl⟩:=U7.1 hT;unfold jL at hk;obtain⟨r,hr,rfl⟩:=U7.1 hk;obtain⟨q,hq,rfl⟩:=U7.1 hr;exact⟨((t.name,f (t.name,q.name)),q),U8.2 ⟨t,ht,U7.2 ⟨q,hq,rfl⟩⟩,rfl⟩
theorem QI{f:Q00}{rs:Q06}{x:KL×RR}(hx:x∈dH f rs):∃k∈au (ag rs),x.1.2=f k/\∃t∈rs,∃q∈t.rows,k=(t.name,q.name):=by
 unfold dH at hx;obtain⟨t,ht,hx⟩:=U8.1 hx;obtain⟨q,hq,rfl⟩:=U7.1 hx;refine⟨(t.name,q.name),?_,rfl,t,ht,q,hq,rfl⟩;unfold au jL;exact U8.2 ⟨t.p,U7.2 ⟨t,ht,rfl⟩,U7.2 ⟨q.p,U7.2 ⟨q,hq,rfl⟩,rfl⟩⟩
theorem oD{rs:Q06}(hf:∀r∈rs,r.fits):∀k∈au (ag rs),k.2.size<=maxLen:=fun k hk=>by
 unfold au at hk;obtain⟨T,hT,hk⟩:=U8.1 hk;obtain⟨t,ht,rfl⟩:=U7.1 hT;unfold jL at hk;obtain⟨r,hr,rfl⟩:=U7.1 hk;obtain⟨q,hq,rfl⟩:=U7.1 hr;exact((hf t ht).2.2 q hq).1
theorem Lu(f:Q00)(rs:Q06):(dH f rs).length=(au (ag rs)).length:=by
 induction rs with
 | nil=>rfl
 | cons t rs ih =>
  have e1:au (ag (t::rs))=jL t.p++au (ag rs):=by simp[au,ag]
  have e2:dH f (t::rs)=(t.rows.map fun r=>((t.name,f (t.name,r.name)),r))++dH f rs:=rfl;have e3:(jL t.p).length=t.rows.length:=by unfold jL;rw[Vt];exact rE _
  rw[e1,e2,U2,U2,ih,e3,Vt]
theorem uC{w W w':af}{n:Nat}{x0 x1 x2 x3 x4:Value}(h:W.cell? ⟨n,0,none⟩=some x0/\W.cell? ⟨n,1,none⟩=some x1/\W.cell? ⟨n,2,none⟩=some x2/\W.cell? ⟨n,3,none⟩=some x3/\W.cell? ⟨n,4,none⟩=some x4/\ae w W)(hb:ae W w'):w'.cell? ⟨n,0,none⟩=some x0/\w'.cell? ⟨n,1,none⟩=some x1/\w'.cell? ⟨n,2,none⟩=some x2/\w'.cell? ⟨n,3,none⟩=some x3/\w'.cell? ⟨n,4,none⟩=some x4/\ae w w':=by
 obtain⟨h0,h1,h2,h3,h4,hB⟩:=h;exact⟨aJ hb (aF h0) h0,aJ hb (aF h1) h1,aJ hb (aF h2) h2,aJ hb (aF h3) h3,aJ hb (aF h4) h4,hB.trans (hb.mono hB.size)⟩
section
variable  [DecidableEq Fc]
def aO(st:Q00)(rs:Q06)(ts:Q05):List Fc:=if aV (gM rs) rs ts then pI st rs ts else []
theorem iH{st:Q00}{rs:Q06}{ts:Q05}(h:aV (gM rs) rs ts=true):aO st rs ts=pI st rs ts:=by unfold aO;rw[if_pos h]
theorem sw{st:Q00}{rs:Q06}{ts:Q05}(h:aV (gM rs) rs ts=false):aO st rs ts=[]:=by unfold aO;rw[if_neg (by rw[h];decide)]
theorem pJ(st:Q00){rs:Q06}{ts:Q05}:(aO st rs ts).length<=115200:=by
 cases hr:aV (gM rs) rs ts;case false=>rw[sw hr];simp
 rw[iH hr];have hsd:aM (ag rs)=true/\ts.length<=40:=by
  unfold aV dO at hr;simp only[UW,U3]at hr;exact⟨hr.1.1,hr.1.2.1⟩
 obtain⟨h6,X9,-⟩:=bF (bq.1 hsd.1).1;exact(kN st rs ts (dM ts) (bP ts) _).len (by have:=kr ts;omega) (wH h6 X9) (by have:=jh ts;omega)
end
section
variable  [DecidableEq Fc]
def Im(L0:Q04)(w:World)(e:Ending)(w':World):Prop:=(∃(L:Q04) (v:Value),e=.returned v/\L.Perm L0/\L.Pairwise (fun x y=>Op.bytesLess (Sc y) (Sc x)=false)/\w'.ownsRow w.heap.size 29 5 v L.length (aA L))/\ae w w'
theorem Cv(st:Q00)(ad:Q02)(cap:Nat)(rs:Q06)(We:Q02)(cap':Nat)(ts:Q05)(w:af)(hlen:rs.length<=1048576)(hs:kU w ad rs)(hl:∀r∈rs,r.light)(hfr:∀r∈rs,r.fits)(hcp:∀r∈rs,r.caps)(hlt:ts.length<=1048576)(hst:Sl w We ts)(hft:∀x∈ts,x.fits)(hle:aM (ag rs)=true->Least (ag rs) st):
  Calls prog 14 #[.slice ad rs.length cap,.slice We ts.length cap'] w (Im (aO st rs ts) w):=by
 have HC:=aj (BJ (gM rs) ad cap rs We cap' ts w hlen hs hl hfr (wK ad cap rs w hlen hs hl hfr hcp) (fun h t ht=>xN h ht) hlt hst hft);have HS:=aj hs;have Wl:=aj hft;have XP:=aj hfr;have WR:=aj hle;clear hs hl hfr hcp hst hft hle;go_enter func14,ntmps14;go_wp2_with fail;refine HC.out.mono ?_;rintro e w1 ⟨hb1,⟨hr,rfl⟩|⟨hr,D,br,bp,bt,nr,np,Mr,Mp,vo,vu,f,rfl,hbt,hLf,XC⟩⟩
 ·have HP:Hid (Im (aO st rs ts) w (.returned (.slice none 0 0)) w1):=⟨⟨[],_,rfl,by rw[sw hr],List.Pairwise.nil,World.ownsRow_nil _ _ _ _⟩,hb1⟩;clear hb1 HC hr;go_wp2;go_ret;exact HP.out
 have hsd:aM (ag rs)=true/\ts.length<=40:=by
  unfold aV dO at hr;simp only[UW,U3]at hr;exact⟨hr.1.1,hr.1.2.1⟩
 obtain⟨hsd,ht40⟩:=hsd;have hSP:=bq.1 hsd;obtain⟨h6,X9,-⟩:=bF hSP.1;have Yt:=wH h6 X9;have hfk:∀k∈au (ag rs),f k+1<=(au (ag rs)).length:=fun k hk=>by
  obtain⟨g,hg,hb⟩:=hLf.sol.few (jM hSP.2.1);have h1:=hLf.low k hk g hg;have h2:=hb k hk;omega
 have hc0:0<=gJ (dH f rs):=(wS (dH f rs) 0).1;have hcl:gJ (dH f rs)<=(au (ag rs)).length:=FH _ _ _ (by omega) fun x hx=>by
  obtain⟨k,hk,e,-⟩:=QI hx;rw[e];exact hfk k hk
 obtain⟨N,hN⟩:∃N:Nat,gJ (dH f rs)=N:=⟨(gJ (dH f rs)).toNat,by omega⟩;have hkN:∀k∈au (ag rs),f k<(N:Int):=fun k hk=>by
  obtain⟨x,hx,e⟩:=Lt (f:=f) hk;have h2:=(wS (dH f rs) 0).2 x hx;have h3:x.1.2+1<=gJ (dH f rs):=h2;rw[e,hN]at h3;omega
 have hLs:lJ (ag rs) ts f (dM ts) (bP ts) N=aO st rs ts:=by
  rw[iH hr];unfold pI;rw[<-si (fun k hk=>hLf.same (WR.out hsd) k hk)];exact(Dx hkN _ (by omega)).symm
 rw [hN]at XC;have Xk:=aj (Ei w1 rs ad D br bp bt N nr Mr f ts (dM ts) (bP ts) np Mp vo vu XC (HS.out.below hb1) (by omega) (by have:=kr ts;omega) (by have:=jh ts;omega) Yt (fun k=>by
  have:(G.lookL (dH f rs) k).length<=(dH f rs).length:=VS _ _;rw[Lu]at this;omega) hSP.1 Wl.out (by omega) (ji Wl.out) (iG Wl.out) (oD XP.out))
 rw[hLs]at Xk;have hGO:=kN f rs ts (dM ts) (bP ts) N;rw[hLs]at hGO;have HB1:=aj hb1;have hll:=hGO.len (by have:=kr ts;omega) Yt (by have:=jh ts;omega);have Yy:Hid (∀x∈aO st rs ts,x.fits):=fun x hx=>by
  have h1:=hGO.sub x hx;unfold BM at h1;obtain⟨o,ho,h1⟩:=U8.1 h1;obtain⟨k,hk,h1⟩:=U8.1 h1;obtain⟨u,hu,rfl⟩:=U7.1 h1;exact⟨(ji Wl.out o ho).1,(ji Wl.out o ho).2,oD XP.out k hk,(iG Wl.out u hu).1,(iG Wl.out u hu).2⟩
 obtain⟨L0,hL0⟩:∃L0,L0=aO st rs ts:=⟨_,rfl⟩;rw[<-hL0]at Xk hll Yy;have HL0:=aj hL0;clear HC hb1 XC hLf hfk hc0 hcl hN hkN hLs hGO hSP hsd h6 X9 Yt hr hbt hL0;go_wp2_with fail;refine Xk.out.mono ?_;rintro e w2 ⟨⟨v,rfl,hown⟩,hb2⟩;have HB2:=aj (HB1.out.trans (hb2.mono HB1.out.size));have V7:=aj (dI hown HB1.out.size);clear Xk hown hb2 HB1;cases L0 with
 | nil =>
  obtain⟨WX,Wi,rfl,-⟩:=iP V7.out;have HSN:=aj (NH WX Wi (.func (.func 61) #[] #[]) w2);have HP:Hid (Im [] w (.returned (.slice WX 0 Wi)) w2):=⟨⟨[],_,rfl,List.Perm.refl _,List.Pairwise.nil,V7.out⟩,HB2.out⟩;clear V7 HB2;go_wp2_with fail;refine HSN.out.mono ?_;rintro e w3 ⟨rfl,rfl⟩;go_wp2;go_ret;rw[<-HL0.out];exact HP.out
 | cons x0 xs0 =>
  obtain⟨L1,hL1⟩:∃L1,L1=x0::xs0:=⟨_,rfl⟩;obtain⟨g,Wi,rfl⟩:=ownsRow_succ (k:=xs0.length) V7.out;have hgl:=(V7.out.lt g rfl).1;have Ze:=aj (NG w.heap.size g Wi (x0::xs0) w2 Yy.out V7.out (by simp) (by omega));rw[<-hL1]at Ze;have hlL:xs0.length+1=L1.length:=by rw[hL1];rfl
  rw[<-hL1]at HL0;rw[hlL];clear V7 Yy hll hL1 hlL;go_wp2_with fail;refine Ze.out.mono ?_;rintro e w3 ⟨rfl,ys,hp,hso,hrow,hcg⟩;have HP:Hid (Im L1 w (.returned (.slice (some ⟨g,0,none⟩) L1.length Wi)) w3):=⟨⟨ys,_,rfl,hp,hso,by rw[hp.length_eq];exact hrow⟩,HB2.out.trans (hcg.below (fun k hk=>by rw[hk];exact hgl) HB2.out.size)⟩;clear hp hso hrow hcg HB2 Ze;go_wp2;go_ret;rw[<-HL0.out];exact HP.out
end
section
variable  [DecidableEq Fc]
theorem Ku{st:Q00}{rs:Q06}{ts:Q05}{x:Fc}(hx:x∈aO st rs ts):∃o∈dM ts,∃k∈au (ag rs),∃u∈bP ts,x=⟨o.t,o.s,k.2,u.t,u.s⟩:=by
 cases hr:aV (gM rs) rs ts;case false=>rw[sw hr]at hx;cases hx
 rw[iH hr]at hx;have h1:=(kN st rs ts (dM ts) (bP ts) _).sub x hx;unfold BM at h1;obtain⟨o,ho,h1⟩:=U8.1 h1;obtain⟨k,hk,h1⟩:=U8.1 h1;unfold jg at h1;obtain⟨u,hu,rfl⟩:=U7.1 h1;exact⟨o,ho,k,hk,u,hu,rfl⟩
theorem yJ{st:Q00}{rs:Q06}{ts:Q05}(hfr:∀r∈rs,r.fits)(hft:∀x∈ts,x.fits):∀x∈aO st rs ts,x.fits:=fun x hx=>by
 obtain⟨o,ho,k,hk,u,hu,rfl⟩:=Ku hx;have h1:=ji hft o ho;have h2:=iG hft u hu;exact⟨h1.1,h1.2,oD hfr k hk,h2.1,h2.2⟩
def kY(st:Q00)(rs:Q06)(ts:Q05):List Fc:=ni sJ (aO st rs ts)
theorem Kv(st:Q00)(rs:Q06)(ts:Q05):(kY st rs ts).length=(aO st rs ts).length:=(mi _).length_eq
end
section
variable  [DecidableEq Fc]
end
theorem Ej(x y:Fc):xA x y=xA y x:=by rw[Vd,vP,vP];exact⟨Eq.symm,Eq.symm⟩
theorem NI{x y:Q04}(h:x.Perm y)(f:Fc):bB x f=bB y f:=by rw[Vd,cZ,cZ];exact h.mem_iff
theorem Io(ad:Q02)(cap:Nat)(ts:Q04)(t:Fc)(w:af)(hlen:ts.length<=1048576)(hs:o8 w ad ts):
  Calls prog 76 #[.slice ad ts.length cap,.agg #[.string t.a,.string t.b,.string t.r,.string t.c,.string t.d]] w fun e w'=>(∃r:Int,e=.returned (.int .i64 r)/\decide (0<=r)=bB ts t)/\ae w w':=by
 have HS:=aj hs;clear hs;obtain⟨W0,hW0⟩:∃W0,W0=w.alloc (.cells #[.string t.a,.string t.b,.string t.r,.string t.c,.string t.d] 29):=⟨_,rfl⟩;have HB0:=mI hW0;have HX0:Hid (xO W0 w.heap.size t):=by show xO _ _ _;rw[hW0];exact World.alloc_heap_new w _
 go_enter func76,ntmps76;go_wp2_with fail;rw[<-hW0];clear hW0;go_loopw[8] (fun i wr=>∃k:Nat,k<=ts.length/\i=.int .i64 k/\Hid (bB (ts.drop k) t=bB ts t)/\Hid (ae W0 wr)) (fun i _=>ts.length-(intOf i).toNat);case atStart=>exact⟨0,UY _,rfl,rfl,UV _ _⟩
 obtain⟨k,hk,rfl,HP,HB⟩:=hrel;have V9:Hid (ae w wr):=HB0.out.trans (HB.out.mono HB0.out.size);by_cases hlt:k<ts.length
 ·obtain⟨b,off,V6,⟨t0,t1,t2,t3,t4⟩,hb⟩:=o8.at0 (HS.out.below V9.out) hlt;obtain⟨x0,x1,x2,x3,x4,xl⟩:=(HX0.out.bel HB.out).c;have hk1:=bG k;have hk2:(k:Int)<(ts.length:Int):=by omega
  have HD:Hid (bB ts t=(xA ts[k] t || bB (ts.drop (k+1)) t)):=by show _=_;rw[<-HP.out];exact Dz hlt
  subst V6;cases hq:xA ts[k] t;case true=>
   have heq:=ET t ts[k] (v:=true) (by rw[Ej];exact hq);have HN:Hid (bB ts t=true):=by show _=_;rw[HD.out,hq];rfl
   clear hq;go_wp2_with fail;go_quiet (fail);clear t0 t1 t2 t3 t4 x0 x1 x2 x3 x4 heq;go_wp2;go_ret;exact⟨⟨k,rfl,by rw[HN.out];simp⟩,below_drewN V9.out _⟩
  have heq:=ET t ts[k] (v:=false) (by rw[Ej];exact hq);have Wj:Hid (bB (ts.drop (k+1)) t=bB ts t):=by show _=_;rw[HD.out,hq];rfl
  clear hq;go_wp2_with fail;go_quiet (fail);clear t0 t1 t2 t3 t4 x0 x1 x2 x3 x4 heq;go_wp2;go_roundw;case rel=>exact⟨k+1,by omega,by go_num,Wj,below_drewN HB.out _⟩
  simp[intOf]<;>omega
 have HN:Hid (bB ts t=false):=by show _=_;rw[<-HP.out,Vf (by omega)];rfl
 go_wp2;go_ret;exact⟨⟨-1,rfl,by rw[HN.out];simp⟩,V9.out⟩
theorem BZ(ad:Q02)(cap:Nat)(ts:Q04)(t:Fc)(w:af)(hlen:ts.length<=1048576)(hs:o8 w ad ts):
  Calls prog 51 #[.slice ad ts.length cap,.agg #[.string t.a,.string t.b,.string t.r,.string t.c,.string t.d]] w fun e w'=>e=.returned (.bool (bB ts t))/\ae w w':=by
 obtain⟨W0,hW0⟩:∃W0,W0=w.alloc (.cells #[.string t.a,.string t.b,.string t.r,.string t.c,.string t.d] 29):=⟨_,rfl⟩;have HB0:=mI hW0;have HC:=aj (Io ad cap ts t W0 hlen (hs.below HB0.out));clear hs;go_enter func51,ntmps51;go_wp2_with fail;rw[<-hW0];clear hW0;refine HC.out.mono ?_;rintro e w' ⟨⟨r,rfl,hr⟩,hbx⟩;have HR:=aj hr;have Wx:=aj (HB0.out.trans (hbx.mono HB0.out.size));clear hr hbx;go_wp2;go_ret;exact⟨by rw[<-HR.out];rfl,Wx.out⟩
section
variable  [DecidableEq Fc]
theorem tq(st:Q00)(ad:Q02)(cap:Nat)(rs:Q06)(We:Q02)(cap':Nat)(ts:Q05)(f:Fc)(w:af)(hlen:rs.length<=1048576)(hs:kU w ad rs)(hl:∀r∈rs,r.light)(hfr:∀r∈rs,r.fits)(hcp:∀r∈rs,r.caps)(hlt:ts.length<=1048576)(hst:Sl w We ts)(hft:∀x∈ts,x.fits)(hle:aM (ag rs)=true->Least (ag rs) st):
  Calls prog 11 #[.slice ad rs.length cap,.slice We ts.length cap',.agg #[.string f.a,.string f.b,.string f.r,.string f.c,.string f.d]] w fun e w'=>e=.returned (.bool (bB (aO st rs ts) f))/\ae w w':=by
 obtain⟨W0,hW0⟩:∃W0,W0=w.alloc (.cells #[.string f.a,.string f.b,.string f.r,.string f.c,.string f.d] 29):=⟨_,rfl⟩;have HB0:ae w W0:=by rw[hW0];exact(UV _ _).alloc (UU _) _
 have hbx:xO W0 w.heap.size f:=by rw[hW0];exact World.alloc_heap_new w _
 obtain⟨c0,c1,c2,c3,c4,cl⟩:=hbx.c;have Xw:Hid (∀W':World,(W'.cell? ⟨w.heap.size,0,none⟩=some (.string f.a)/\W'.cell? ⟨w.heap.size,1,none⟩=some (.string f.b)/\W'.cell? ⟨w.heap.size,2,none⟩=some (.string f.r)/\W'.cell? ⟨w.heap.size,3,none⟩=some (.string f.c)/\W'.cell? ⟨w.heap.size,4,none⟩=some (.string f.d)/\ae w W')->Calls prog 14 #[.slice ad rs.length cap,.slice We ts.length cap'] W' (Im (aO st rs ts) W')):=fun W' h=>Cv st ad cap rs We cap' ts W' hlen (hs.below h.2.2.2.2.2) hl hfr hcp hlt (hst.below h.2.2.2.2.2) hft hle;have hLl:=pJ st (rs:=rs) (ts:=ts);clear hs hl hfr hcp hst hft hle hbx;go_enter func11,ntmps11;go_wp2_with fail;rw[<-hW0];clear hW0
 go_region_held3 (fun w'=>w'.cell? ⟨w.heap.size,0,none⟩=some (.string f.a)/\w'.cell? ⟨w.heap.size,1,none⟩=some (.string f.b)/\w'.cell? ⟨w.heap.size,2,none⟩=some (.string f.r)/\w'.cell? ⟨w.heap.size,3,none⟩=some (.string f.c)/\w'.cell? ⟨w.heap.size,4,none⟩=some (.string f.d)/\ae w w')
  (first|assumption|exact uC (by assumption) hbx|exact⟨c0,c1,c2,c3,c4,HB0.drew⟩)
  (first|(go_at_call 14;refine(Xw.out _ (by assumption)).mono ?_;rintro e w' ⟨⟨L,v,rfl,hp,-,hown⟩,hbx⟩;obtain⟨adL,Yb,rfl,hsl⟩:=iP hown;have HLL:Hid (L.length<=1048576):=(by show _<=_;rw[hp.length_eq];exact U0 hLl (by decide)))|(go_at_call 51;refine(BZ adL Yb L f _ HLL.out (by first|exact hsl|exact hsl.below (UV _ _))).mono ?_;rintro e w'' ⟨rfl,hbx⟩))
 rename_i hJ;have HG:=aj hJ.2.2.2.2.2;have HE:=aj (NI hp f);clear hJ hown hsl hp c0 c1 c2 c3 c4;go_wp2;go_ret;exact⟨by rw[HE.out];rfl,HG.out⟩
end
section
variable  [DecidableEq Fc]
theorem Cw(st:Q00)(ad:Q02)(cap:Nat)(rs:Q06)(We:Q02)(cap':Nat)(ts:Q05)(w:af)(hlen:rs.length<=1048576)(hs:kU w ad rs)(hl:∀r∈rs,r.light)(hfr:∀r∈rs,r.fits)(hlt:ts.length<=1048576)(hst:Sl w We ts)(hft:∀x∈ts,x.fits)(hle:aM (ag rs)=true->Least (ag rs) st):
  Calls prog 47 #[.slice ad rs.length cap,.slice We ts.length cap'] w fun e w'=>(∃v,e=.returned v/\w'.ownsRow w.heap.size 29 5 v (kY st rs ts).length (aA (kY st rs ts)))/\ae w w':=by
 have hLl:=pJ st (rs:=rs) (ts:=ts);have HFQ:=aj (yJ (st:=st) hfr hft);have HRC:=aj (yH ad cap rs We cap' ts w hlen hs hl hfr hlt hst hft);have HAC:Hid (aV (gM rs) rs ts=true->∀W':World,ae w W'->Calls prog 57 #[.slice ad rs.length cap,.slice We ts.length cap'] W' fun e w'=>(∃v,e=.returned v/\w'.ownsRow W'.heap.size 29 5 v (aO st rs ts).length (aA (aO st rs ts)))/\ae W' w'):=fun hr W' hb=>by
  have hsd:aM (ag rs)=true/\ts.length<=40:=by
   unfold aV dO at hr;simp only[UW,U3]at hr;exact⟨hr.1.1,hr.1.2.1⟩
  have:=Eg st ad cap rs We cap' ts W' (bq.1 hsd.1) (hle hsd.1) (hs.below hb) hl hsd.2 (hst.below hb);rw[<-iH hr]at this;exact this
 clear hs hl hfr hst hft hle;go_enter func47,ntmps47;go_wp2_with fail;refine HRC.out.mono ?_;rintro e w1 ⟨rfl,hb1⟩;have HB1:=aj hb1;clear hb1 HRC;cases hr:aV (gM rs) rs ts;case false=>
  have HN:Hid (kY st rs ts=[]):=by show _=_;unfold kY;rw[sw hr];rfl
  clear hr HAC;obtain⟨W2,hW2⟩:∃W2,W2=w1.alloc (.cells #[] 29):=⟨_,rfl⟩;have V7:Hid (W2.ownsRow w.heap.size 29 5 (.slice (some ⟨w1.heap.size,0,none⟩) 0 0) 0 []):=by
   show World.ownsRow _ _ _ _ _ _ _;rw[hW2];exact World.ownsRow_lit w1 #[] 0 HB1.out.size (by unfold maxLen;omega) (by simp)
  have HB2:Hid (ae w W2):=by show Below _ _ _;rw[hW2];exact HB1.out.alloc HB1.out.size _
  go_wp2;rw[<-hW2];go_ret;exact⟨⟨_,rfl,by rw[HN.out];exact V7.out⟩,HB2.out⟩
 have HA:=aj (HAC.out hr);clear HAC hr;obtain⟨L,hL⟩:∃L,aO st rs ts=L:=⟨_,rfl⟩;have Yu:Hid (kY st rs ts=ni sJ L):=by show _=_;unfold kY;rw[hL]
 rw[hL]at HA HFQ hLl;clear hL;go_wp2_with fail;refine(HA.out _ HB1.out).mono ?_;rintro e w2 ⟨⟨v,rfl,hown⟩,hb2⟩;obtain⟨adL,Yb,rfl,hsl⟩:=iP hown;have Ze:=aj hsl;have HB2:=jR HB1 hb2;clear hown hsl hb2 HB1 HA;have HLL:Hid (L.length<=1048576):=U0 hLl (by decide);clear hLl;go_wp2_with fail;refine(Kt adL Yb L _ HLL.out Ze.out HFQ.out).mono ?_;rintro e w3 ⟨⟨v,rfl,hown⟩,hb3⟩;have HB3:=jR HB2 hb3;have Ww:Hid (w3.ownsRow w.heap.size 29 5 v (kY st rs ts).length (aA (kY st rs ts))):=by
  show World.ownsRow _ _ _ _ _ _ _;rw[Yu.out,(mi L).length_eq];exact su hown HB2.out.size
 clear hown hb3;go_wp2;go_ret;exact⟨⟨v,rfl,Ww.out⟩,HB3.out⟩
end
end Go.Proofs.YtajkkeikihhejaaGreat
