/- All facts as the program finds them: stratum by stratum, rounds over fewer and fewer users. -/
import Derived.Test.YtdaoiceeidoehaaGreatL4All
open Go.Proofs.Tryz
set_option maxHeartbeats 80000000
namespace Go.Proofs.YtdaoiceeidoehaaGreat
set_option linter.unusedVariables false
set_option maxRecDepth 100000
open Go.ChangeShapes Go.WideShapes Go.ChangeAt Go.RowKit Go.Maps Go.Shelf
open Pl
attribute [local go_sem] Oper.semAt_some
def zL (X:World) (B:Nat):Nat:=match X.cell? ⟨B,0,none⟩ with
 | some x=>K4 x
 | none=>0
theorem zM {X:World} {B n c:Nat} {ad:Option Addr} {T:TypeId} (h:eX X B (.slice ad n c) T):zL X B=n:=by
 unfold zL; rw [h.c]; rfl
section
variable [DecidableEq Fc]
theorem Gv (w:World) (rs:List TR) (adS:Option Addr) (D br bp bt:Nat) (N:Nat) (nr:Nat) (Mr:KL→Option Value) (st:ByteArray × ByteArray→Int) (ts:List Tp) (xo xu:List Al) (np:Nat) (Mp:K3→Option Value) (vo vu:Value) (hD:DatA w rs D br bp bt (N:Int) nr Mr (dF st rs) (aN ts) xo xu np Mp vo vu) (hs:eY w adS rs) (hN:N≤1000) (hol:xo.length≤80) (hul:xu.length≤40) (hE:(aj (ae rs)).length≤36) (hrl:∀ k,(G.lookL (dF st rs) k).length≤1000) (hsh:aS (ae rs)=true) (hts:∀ t ∈ ts,t.fits) (htl:ts.length≤1000) (hof:∀ o ∈ xo,o.t.size≤maxLen∧o.s.size≤maxLen) (huf:∀ o ∈ xu,o.t.size≤maxLen∧o.s.size≤maxLen) (hrf:∀ k ∈ aj (ae rs),k.2.size≤maxLen) :
  Calls prog 64 #[.pointer (some ⟨D,0,none⟩)] w fun e w'=>(∃ v,e=.returned v∧w'.ownsRow w.heap.size 42 5 v (jw (ae rs) ts st xo xu N).length (bI (jw (ae rs) ts st xo xu N)))∧Below w.heap.size w w':=by
 obtain ⟨iF,z0,z1,z2,z3⟩:=pE;obtain ⟨W0,hW0⟩:∃ W0,W0=((w.alloc (.cells #[.slice none 0 0] 38)).alloc (.map #[] 0)).alloc (.cells #[.map (some (w.heap.size + 1))] 84):=⟨_,rfl⟩;obtain ⟨adO,capO,rfl,-⟩:=iL hD.dat.objs;have hlD:=hD.dat.lt;have d1:=hD.dat.c1;have h00:FoW w W0 (.slice none 0 0) []∧eX W0 (w.heap.size + 1 + 1) (.map (some (w.heap.size + 1))) 84:=by
  obtain ⟨V1,e1⟩:∃ V,V=w.alloc (.cells #[.slice none 0 0] 38):=⟨_,rfl⟩;obtain ⟨V2,e2⟩:∃ V,V=V1.alloc (.map #[] 0):=⟨_,rfl⟩;rw [← e1,← e2] at hW0;have t1:V1.heap.size=w.heap.size + 1:=by rw [e1,World.size_alloc]
  have t2:V2.heap.size=w.heap.size + 1 + 1:=by rw [e2,World.size_alloc,t1]
  have f1:Below w.heap.size w V1:=by rw [e1]; exact (Below.refl _ _).alloc (Nat.le_refl _) _
  have f2:Below V1.heap.size V1 V2:=by rw [e2]; exact (Below.refl _ _).alloc (Nat.le_refl _) _
  have f3:Below V2.heap.size V2 W0:=by rw [hW0]; exact (Below.refl _ _).alloc (Nat.le_refl _) _
  have f12:Below w.heap.size w V2:=f1.trans (f2.mono f1.size);have g1:eX V1 w.heap.size (.slice none 0 0) 38:=by rw [e1]; exact World.alloc_heap_new w _
  have g2:aB fT prog 42 V2 (w.heap.size + 1) 0 (fun _=>none):=by
   have:=iA fT prog 42 V1;rw [← e2,t1] at this; exact this
  have g3:eX W0 (w.heap.size + 1 + 1) (.map (some (w.heap.size + 1))) 84:=by rw [hW0,← t2]; exact World.alloc_heap_new V2 _
  have ek:oG []=fun _=>none:=rfl;exact ⟨⟨f12.trans (f3.mono f12.size),(g1.bel f2).bel f3,World.ownsRow_nil _ _ _ _,by rw [ek]; exact g2.below f3⟩,g3⟩
 have hmm:=@run_makeMap prog;have hl1:D < w.heap.size + 1:=by omega
 have hl2:D < w.heap.size + 1 + 1:=by omega
 refine (callsIn_wide (n:=12)).1 ?_;refine callsIn_of_wp_marks func64 rfl trivial ?_ rfl;simp only [ntmps64,List.size_toArray,List.length_cons,List.length_nil,Nat.reduceAdd,Nat.reduceSub,Array.replicate_succ,Array.replicate_zero,List.push_toArray,List.append_toArray,List.nil_append,List.cons_append];gi_wp2;rw [← hW0];clear hW0 hmm;obtain ⟨H,hH⟩:∃ H,H=fZ (ae rs) ts:=⟨_,rfl⟩;obtain ⟨A,hA⟩:∃ A:Nat→List Fc,A=jw (ae rs) ts st xo xu:=⟨_,rfl⟩;obtain ⟨Q,hQ⟩:∃ Q:Nat→List Fc,Q=fun (n:Nat)=>bF (ae rs) st xo xu (n:Int):=⟨_,rfl⟩;have hA1:∀ n,A (n + 1)=ko H (Q n) (A n):=fun n=>by rw [hA,hH,hQ]; exact iy _ _ _ _ _ _
 have hAG:∀ n,GoodO (ae rs) xo xu (A n):=fun n=>by rw [hA]; exact mr _ _ _ _ _ n
 have hA0:A 0=[]:=by rw [hA]; rfl
 have hAN:jw (ae rs) ts st xo xu N=A N:=by rw [hA]
 refine wpIn_loop (fun a' X=>∃ (q:Nat) (rl:List Nat) (v:Value) (u5 u6 u7 u8 u15 u16 u17 u18 u19 u20 u21 u22 u23 u24 u25 u26 u27 u28 u29 u30 u31 u32 u33 u34 u35 u36 u37 u38 u39 u40 u41 u42 u43 u44:Value),a'={ tmps:=List.toArray (.pointer (some ⟨D,0,none⟩)::undef::.slice none 0 0::.pointer (some ⟨w.heap.size,0,none⟩)::.pointer (some ⟨w.heap.size + 1 + 1,0,none⟩)::u5::u6::u7::u8::.map (some (w.heap.size + 1))::.pointer (some ⟨D,0,none⟩)::.pointer (some ⟨D,0,none⟩)::.pointer (some ⟨D,1,none⟩)::.int .i64 (N:Int)::.int .i64 (q:Int)::u15::u16::u17::u18::u19::u20::u21::u22::u23::u24::u25::u26::u27::u28::u29::u30::u31::u32::u33::u34::u35::u36::u37::u38::u39::u40::u41::u42::u43::u44::undef::[]),defers:=marks rl }∧q≤N∧FoW w X v (A q)∧eX X (w.heap.size + 1 + 1) (.map (some (w.heap.size + 1))) 84∧gG X rl∧(∀ r ∈ rl,w.heap.size + 1 + 1 < r)) (fun a' _=>N - (intOf (a'.tmps.getD 14 undef)).toNat) ⟨0,[],.slice none 0 0,_,_,_,_,_,_,_,_,_,_,_,_,_,_,_,_,_,_,_,_,_,_,_,_,_,_,_,_,_,_,_,_,_,_,rfl,Nat.zero_le _,by rw [hA0]; exact h00.1,h00.2,⟨List.nodup_nil,fun r hr=>by cases hr⟩,fun r hr=>by cases hr⟩ ?_;rintro a1 X ⟨q,rl,v,u5,u6,u7,u8,u15,u16,u17,u18,u19,u20,u21,u22,u23,u24,u25,u26,u27,u28,u29,u30,u31,u32,u33,u34,u35,u36,u37,u38,u39,u40,u41,u42,u43,u44,rfl,hq,hF,hB,hMk,hMn⟩;clear h00;by_cases hlq:q < N
 ·have hDX:=hD.below hF.bel;have d5:=hDX.dat.c5;have d5l:=hDX.dat.lt;obtain ⟨adV,capV,rfl,-⟩:=iL hDX.dat.users;gi_wp2;refine wpIn_loop (fun a' X=>∃ (us:List Al) (adU:Option Addr) (capU:Nat) (out:List Fc) (rl:List Nat) (v:Value) (base:Nat) (u7 u8 u21 u22 u23 u24 u25 u26 u27 u28 u29 u30 u31 u32 u33 u34 u35 u36 u37 u38 u39 u40 u41 u42 u43 u44:Value),a'={ tmps:=List.toArray (.pointer (some ⟨D,0,none⟩)::undef::.slice none 0 0::.pointer (some ⟨w.heap.size,0,none⟩)::.pointer (some ⟨w.heap.size + 1 + 1,0,none⟩)::.int .i64 (q:Int)::.slice adU us.length capU::u7::u8::.map (some (w.heap.size + 1))::.pointer (some ⟨D,0,none⟩)::.pointer (some ⟨D,0,none⟩)::.pointer (some ⟨D,1,none⟩)::.int .i64 (N:Int)::.int .i64 (q:Int)::.bool true::.int .i64 (q:Int)::.pointer (some ⟨D,0,none⟩)::.pointer (some ⟨D,0,none⟩)::.pointer (some ⟨D,5,none⟩)::.slice adV xu.length capV::u21::u22::u23::u24::u25::u26::u27::u28::u29::u30::u31::u32::u33::u34::u35::u36::u37::u38::u39::u40::u41::u42::u43::u44::undef::[]),defers:=marks rl }∧FewA (ae rs) ts st xo xu (q:Int) us out∧ko H (Q q) out=A (q + 1)∧GoodO (ae rs) xo xu out∧FoW w X v out∧eX X (w.heap.size + 1 + 1) (.map (some (w.heap.size + 1))) 84∧gG X rl∧(∀ r ∈ rl,w.heap.size + 1 + 1 < r)∧X.ownsRow base 40 2 (.slice adU us.length capU) us.length (pairs us)∧us.length≤40∧∀ o ∈ us,o.t.size≤maxLen∧o.s.size≤maxLen) (fun a' Y=>2 * (200000 - zL Y w.heap.size) + min 1 (K4 (a'.tmps.getD 6 undef))) ⟨xu,adV,capV,A q,rl,v,bp + 1,_,_,_,_,_,_,_,_,_,_,_,_,_,_,_,_,_,_,_,_,_,_,_,_,_,_,rfl,FewA.start _,(hA1 q).symm,hAG q,hF,hB,hMk,hMn,hDX.dat.users,hul,huf⟩ ?_;clear hDX d5 d5l hF hB hMk hMn;rintro a2 X2 ⟨us,adU,capU,out,rl2,v2,base,u7,u8,u21,u22,u23,u24,u25,u26,u27,u28,u29,u30,u31,u32,u33,u34,u35,u36,u37,u38,u39,u40,u41,u42,u43,u44,rfl,hFew,hLim,hG,hF2,hB2,hMk2,hMn2,hU,hul2,huf2⟩;obtain ⟨adF,capF,rfl,-⟩:=jG hF2.row;have hmu:=zM hF2.box;have hout:=hG.len hol hE hul;by_cases hne:us=[]
  ·subst hne;have hAq:A (q + 1)=out:=by rw [← hLim,hH,hQ]; exact hFew.done
   have hF3:FoW w X2 (.slice adF out.length capF) (A (q + 1)):=by rw [hAq]; exact hF2
   gi_wp2;exact ⟨⟨q + 1,rl2,_,_,_,_,_,_,_,_,_,_,_,_,_,_,_,_,_,_,_,_,_,_,_,_,_,_,_,_,_,_,_,_,_,_,_,rfl,by omega,hF3,hB2,hMk2,hMn2⟩,by simp [intOf]; omega⟩
  ·have hpos:0 < us.length:=by cases us with | nil=>exact absurd rfl hne | cons a l=>simp
   have hposI:(0:Int) < (us.length:Int):=by omega
   have bc:=hF2.box.c;have kc:=hB2.c
   gi_wp2_with fail
   refine ⟨trivial,(callsIn_wide.2 (zJ D (q:Int) adU us.length capU (w.heap.size + 1) X2)).mono ?_⟩;rintro e X3 ⟨rfl,hX3⟩;obtain ⟨hBX,hb23,hs3⟩:=Kk X2 D (q:Int) (.slice adU us.length capU) (w.heap.size + 1) hX3;have hF3:=hF2.below hb23;have hU3:=aK hU hb23;have hB3:=hB2.bel hb23;have hMk3:=hMk2.bel hb23;have hsB:w.heap.size + 1 + 1 < X2.heap.size:=(Array.getElem?_eq_some_iff.1 hB2).1;clear hX3 bc kc;gi_wp2
   refine ll (α:=Fc) rfl (by omega) (gf:=124) (lb:=#[.pointer (some ⟨X2.heap.size,0,none⟩),.pointer (some ⟨X2.heap.size + 1,0,none⟩),.pointer (some ⟨X2.heap.size + 1 + 1,0,none⟩),.pointer (some ⟨X2.heap.size + 1 + 1 + 1,0,none⟩)]) rfl trivial (enters_of func124 (by kernel_rfl) rfl)
    (Gr 11 (by omega) rs adS D br bp bt (N:Int) nr Mr st ts adO capO xo xu np Mp (.slice adV xu.length capV) (w.heap.size + 1) out X2.heap.size (X2.heap.size + 1) (X2.heap.size + 1 + 1) (X2.heap.size + 1 + 1 + 1) (q:Int) adU capU us X3 (by omega) (by omega) (by omega) (by omega) hrl hsh hts htl hof huf2 hrf) (Below.refl _ _) (fun _=>rfl) (fun h k=>h.trans k) (fun Y lx o o' h1 h2=>KpO.put h1 h2)
    (fun pre Y=>∃ v',FoW w Y v' (out ++ pre)∧KpO (w.heap.size + 1) X3.heap.size X3 Y∧GoodO (ae rs) xo xu (out ++ pre))
    ?own ?tell ⟨_,by rw [List.append_nil]; exact hF3,KpO.below (Below.refl _ _),by rw [List.append_nil]; exact hG⟩
    (fun x a' Y=>∃ Bx,wP Y Bx x∧a'={ tmps:=List.toArray (.pointer (some ⟨D,0,none⟩)::undef::.slice none 0 0::.pointer (some ⟨w.heap.size,0,none⟩)::.pointer (some ⟨w.heap.size + 1 + 1,0,none⟩)::.int .i64 (q:Int)::.slice adU us.length capU::.int .i64 (out.length:Int)::.pointer (some ⟨Bx,0,none⟩)::.map (some (w.heap.size + 1))::.pointer (some ⟨D,0,none⟩)::.pointer (some ⟨D,0,none⟩)::.pointer (some ⟨D,1,none⟩)::.int .i64 (N:Int)::.int .i64 (q:Int)::.bool true::.int .i64 (q:Int)::.pointer (some ⟨D,0,none⟩)::.pointer (some ⟨D,0,none⟩)::.pointer (some ⟨D,5,none⟩)::.slice adV xu.length capV::.slice adU us.length capU::.int .i64 (us.length:Int)::.bool true::.slice adF out.length capF::.int .i64 (out.length:Int)::.pointer (some ⟨D,0,none⟩)::.int .i64 (q:Int)::.slice adU us.length capU::.map (some (w.heap.size + 1))::.func (.func 124) #[] #[.pointer (some ⟨X2.heap.size,0,none⟩),.pointer (some ⟨X2.heap.size + 1,0,none⟩),.pointer (some ⟨X2.heap.size + 1 + 1,0,none⟩),.pointer (some ⟨X2.heap.size + 1 + 1 + 1,0,none⟩)]::.agg #[.string x.a,.string x.b,.string x.r,.string x.c,.string x.d]::u32::u33::u34::u35::u36::u37::u38::u39::u40::u41::u42::u43::u44::undef::[]),defers:=[] })
    (fun x a' s Y Z row hs hg hr=>by obtain ⟨Bx,h,e⟩:=hs; exact ⟨Bx,BC (B0:=X3.heap.size) (g:=Bx) (x:=x) () Y Z row h hg hr,e⟩) ?assign ?body ?done
   case own =>
    intro pre Y Z row hs hg hr;obtain ⟨v',h1,h2,h3⟩:=hs;exact ⟨v',h1.kept hg fun r e=>⟨by have:=(hr r e).1; omega,(hr r e).2⟩,Kl (β:=Unit) () Y Z row h2 hg hr,h3⟩
   case tell =>
    rintro pre Y ⟨v',h1,h2,h3⟩;have hb:=hBX.kp h2;obtain ⟨ad2,cap2,e,hsa⟩:=iL (EZ hU3 h2 (by decide) (by decide));injection e with ea eb ec;exact ⟨hD.below h1.bel,hs.below h1.bel,⟨_,h1.map⟩,hb.d.c,hb.s.c,hb.u.c,hb.k.c,by rw [ea]; exact hsa⟩
   case assign =>
    rintro l' pre x Y K ⟨v',h1,h2,h3⟩ hKK;unfold yf;gi_wp2;have hbl:Below Y.heap.size Y (Y.alloc (.cells #[.string x.a,.string x.b,.string x.r,.string x.c,.string x.d] 42)):=(Below.refl _ _).alloc (Nat.le_refl _) _;exact hKK _ _ ((KeepsOthers.alloc _ _).from _) (KpO.below hbl) ⟨v',h1.below hbl,h2.trans (KpO.below hbl),h3⟩ ⟨Y.heap.size,World.alloc_heap_new Y _,rfl⟩
   case body =>
    rintro l' pre x a' Y hl ⟨hEx,hnew⟩ ⟨v',hFY,hKY,hGY⟩ ⟨Bx,bX,rfl⟩;obtain ⟨hkey,hxf⟩:=BD hof huf2 hrf hEx;obtain ⟨kl,hkl⟩:=pF x hxf;obtain ⟨c0,c1,c2,c3,c4,cl⟩:=bX.c;have hGX:GoodO (ae rs) xo xu (out ++ (pre ++ [x])):=by
     refine ⟨?_,fun g hg=>?_⟩
     ·rw [← List.append_assoc];exact List.nodup_append.2 ⟨hGY.once,by simp,fun a ha b hb e=>by
       rw [List.mem_singleton] at hb;rw [← hb,← e] at hnew;exact hnew ha⟩
     ·rw [← List.append_assoc] at hg;rcases List.mem_append.1 hg with hg | hg
      ·exact hGY.sub g hg
      ·rw [List.mem_singleton] at hg;subst hg;unfold bF su at hEx;obtain ⟨o,ho,h1⟩:=List.mem_flatMap.1 hEx;obtain ⟨k,hk,h1⟩:=List.mem_flatMap.1 h1;obtain ⟨u,hu,e⟩:=List.mem_map.1 h1;have hux:u ∈ xu:=by rw [hFew.sub] at hu; exact (List.mem_filter.1 hu).1
       exact List.mem_flatMap.2 ⟨o,ho,List.mem_flatMap.2 ⟨k,(List.mem_filter.1 hk).1,List.mem_map.2 ⟨u,hux,e⟩⟩⟩
    have hlen:=hGX.len hol hE hul;rw [← List.append_assoc,List.length_append,List.length_singleton] at hlen;obtain ⟨os,hos⟩:∃ os,os=out ++ pre:=⟨_,rfl⟩;rw [← hos] at hFY hlen;have HOS:=ag hos;clear hos;have kc:=(hB3.kp hKY (by decide) (by decide)).c;have kl2:=ax kc;obtain ⟨adY,capY,rfl,-⟩:=jG hFY.row;have hmap:=hFY.map;have bcY:=hFY.box.c;have hbxl:=ax bcY;have hblk:=hFY.box;obtain ⟨es,cc,hmb⟩:=kG hFY.map;have hne1:Bx ≠ w.heap.size + 1:=fun e=>by
     have h:=bX;unfold wP at h;rw [e,hmb] at h; cases h
    have hrow:=hFY.row;have hvB:(Value.slice adY os.length capY).ownBlock ≠ some w.heap.size:=fun e=>by have:=(hrow.lt _ e).1; omega
    have hvM:(Value.slice adY os.length capY).ownBlock ≠ some (w.heap.size + 1):=fun e=>zf hrow e hmb;have hbYs:=hFY.bel.size
    gi_wp2_with (first
     | (gi_at_mapUpdate; refine sJ _ rfl _ _ _ 84 rfl 42 90 yZ uJ underlying84 (w.heap.size + 1) _ _ rfl hmap (by unfold maxLen; omega) x kl rfl hkl (.agg #[]) rfl ?_; intro Y1 hM1 hg1; have q0:=(iM hg1 ⟨cl,hne1⟩ 0).trans c0; have q1:=(iM hg1 ⟨cl,hne1⟩ 1).trans c1; have q2:=(iM hg1 ⟨cl,hne1⟩ 2).trans c2; have q3:=(iM hg1 ⟨cl,hne1⟩ 3).trans c3; have q4:=(iM hg1 ⟨cl,hne1⟩ 4).trans c4; have qb:=(iM hg1 ⟨hbxl,Nat.ne_of_lt (Nat.lt_succ_self _)⟩ 0).trans bcY; have ql:=ax q0; have qbl:=ax qb; have hrow1:=hrow.kept hg1 (.inr hvM); have hYs1:=hg1.size)
     | (gi_at_builtin; refine wpListIn_append_own_at _ rfl _ _ 38 rfl (w.heap.size + 1) 42 iF (.agg #[.string ⟨#[]⟩,.string ⟨#[]⟩,.string ⟨#[]⟩,.string ⟨#[]⟩,.string ⟨#[]⟩]) 5 80 underlying38 z0 z1 z2 z3 rfl (by decide) _ os.length (bI os) rfl (hrow1.alloc _) ⟨Y1.heap.size,0,none⟩ 1 1 x.row rfl rfl (AR Y1 x) (by simp [Fc.row,Value.oneCell']) (by unfold maxLen; omega) (by omega) (by simp; omega) ?_; intro v2 V hown hgr _ hat; obtain ⟨g2,cap2,rfl⟩:=ownsRow_succ hown; have HAT:=ag hat; clear hat; have hY2:Below Y1.heap.size Y1 (Y1.alloc (.cells #[.string x.a,.string x.b,.string x.r,.string x.c,.string x.d] 42)):=(Below.refl _ _).alloc (Nat.le_refl _) _; have hVb:=Jc hblk hg1 hY2 hgr hvB; have vc:=hVb.c; have vf:=eP hVb 0; have vl:=ax vc)
     | gi_in)
    obtain ⟨r1,r2,r3⟩:=FoW.step hFY hM1 hg1 hY2 hown hgr HAT.out l';have eos:out ++ (pre ++ [x])=os ++ [x]:=by rw [HOS.out,List.append_assoc]
    exact ⟨Jd r3 (by omega),r2,_,by rw [eos]; exact r1,hKY.after r2 hl,hGX⟩
   case done =>
    rintro Dd xs X5 hDd hS ⟨v5,hF5,hK5,hG5⟩ hKd;have hl5:=hG5.len hol hE hul;have hlx:(out ++ xs).length=out.length + xs.length:=List.length_append;have hxs:(out ++ xs).drop out.length=xs:=List.drop_left;obtain ⟨o5,ho5⟩:∃ o5,o5=out ++ xs:=⟨_,rfl⟩;rw [← ho5] at hF5 hG5 hl5 hlx hxs;have HO5:=ag ho5;have HXS:=ag hxs;have hFew5:=hFew.next (by rw [← hH] at hS ⊢; exact hS);have hLim5:ko H (Q q) o5=A (q + 1):=by
     rw [← hLim,← wW (H:=H) (Q q) out];congr 1;rw [ho5,← hS,← hH,hQ,hH];exact hFew.round
    rw [← ho5] at hFew5;obtain ⟨adP,capP,rfl,hsF5⟩:=jG hF5.row;have bc5:=hF5.box.c;have bl5:=ax bc5;have i1:(0:Int)≤(out.length:Int):=by omega
    have i2:(out.length:Int)≤(o5.length:Int):=by omega
    have hcap5:o5.length≤capP:=Km hF5.row;have hU5:=EZ hU3 hK5 (by decide) (by decide);obtain ⟨ad2,cap2,eU,hsU5⟩:=iL hU5;injection eU with ea eb ec;rw [← ea] at hsU5;have hMk5:gG X5 (Dd::rl2):=by
     have h1:=hMk3.kp hK5 (fun hm=>by have:=hMk3.lt hm; omega) (fun hm=>by have:=hMn2 _ hm; omega);refine ⟨List.nodup_cons.2 ⟨fun hm=>by have:=hMk3.lt hm; omega,h1.1⟩,fun r hr=>?_⟩;rcases List.mem_cons.1 hr with rfl | hr
     ·exact hKd
     ·exact h1.2 r hr
    have hMn5:∀ r ∈ Dd::rl2,w.heap.size + 1 + 1 < r:=fun r hr=>by
     rcases List.mem_cons.1 hr with rfl | hr
     ·omega
     ·exact hMn2 r hr
    have hkl:(dI us xs).length≤us.length:=ym us xs;have hkz:xs.length=0→(dI us xs).length=0:=fun h=>by rw [List.length_eq_zero_iff.1 h,DJ]; rfl
    have hsx:∀ ad3,ad3=Option.map (fun x=>Addr.add x (out.length * 5)) adP→jq X5 ad3 xs:=fun ad3 e=>by
     rw [e,← HXS.out];exact jq.dropF hsF5 out.length
    clear ho5 hxs ea eb ec hS
    gi_wp2_with fail
    ·refine ⟨trivial,(callsIn_wide.2 (mq adU capU us adP 0 xs X5 (by omega) (by omega) hsU5 (.inl (List.length_eq_zero_iff.1 (by omega))))).mono ?_⟩;rintro e X6 ⟨⟨v6,rfl,hO6⟩,hb6⟩;have hml:zL X6 w.heap.size=o5.length:=zM (hF5.below hb6).box;have hF6:=hF5.below hb6;have hB6:=(hB3.kp hK5 (by decide) (by decide)).bel hb6;obtain ⟨ad6,cap6,rfl,-⟩:=iL hO6;gi_wp2;exact ⟨⟨dI us xs,ad6,cap6,o5,Dd::rl2,_,X5.heap.size,_,_,_,_,_,_,_,_,_,_,_,_,_,_,_,_,_,_,_,_,_,_,_,_,_,_,rfl,hFew5,hLim5,hG5,hF6,hB6,hMk5.bel hb6,hMn5,hO6,by omega,fun o ho=>huf2 o (List.mem_filter.1 ho).1⟩,by
      show 2 * (200000 - zL X6 w.heap.size) + min 1 (dI us xs).length < 2 * (200000 - zL X2 w.heap.size) + min 1 us.length;rw [hml,hmu];omega⟩
    ·refine ⟨trivial,(callsIn_wide.2 (mq adU capU us _ _ xs X5 (by omega) (by omega) hsU5 (hsx _ rfl))).mono ?_⟩;rintro e X6 ⟨⟨v6,rfl,hO6⟩,hb6⟩;have hml:zL X6 w.heap.size=o5.length:=zM (hF5.below hb6).box;have hF6:=hF5.below hb6;have hB6:=(hB3.kp hK5 (by decide) (by decide)).bel hb6;obtain ⟨ad6,cap6,rfl,-⟩:=iL hO6;gi_wp2;exact ⟨⟨dI us xs,ad6,cap6,o5,Dd::rl2,_,X5.heap.size,_,_,_,_,_,_,_,_,_,_,_,_,_,_,_,_,_,_,_,_,_,_,_,_,_,_,rfl,hFew5,hLim5,hG5,hF6,hB6,hMk5.bel hb6,hMn5,hO6,by omega,fun o ho=>huf2 o (List.mem_filter.1 ho).1⟩,by
      show 2 * (200000 - zL X6 w.heap.size) + min 1 (dI us xs).length < 2 * (200000 - zL X2 w.heap.size) + min 1 us.length;rw [hml,hmu];omega⟩
 ·have hqN:q=N:=by omega
  subst hqN;obtain ⟨adF,capF,rfl,-⟩:=jG hF.row;have bc:=hF.box.c;have hR:X.ownsRow (w.heap.size + 1) 42 5 (.slice adF (A q).length capF) (jw (ae rs) ts st xo xu q).length (bI (jw (ae rs) ts st xo xu q)):=by rw [hAN]; exact hF.row
  have hBl:=hF.bel;have hsz:w.heap.size < X.heap.size:=ax bc;clear hF hB hD;gi_wp2;refine qi (w.heap.size + 1 + 1) (fun Y=>Y.ownsRow w.heap.size 42 5 (.slice adF (A q).length capF) (jw (ae rs) ts st xo xu q).length (bI (jw (ae rs) ts st xo xu q))∧Below w.heap.size w Y) (fun Y r hr hY hd=>⟨di hY.1 fun g hg=>jU fun e=>?_,?_⟩) (fun Y hY=>⟨_,results_tmp rfl _ _ _,⟨_,rfl,hY.1⟩,hY.2⟩) rl X hMk hMn ⟨kE hR (Nat.le_succ _),hBl⟩
  ·obtain ⟨cur,e2⟩:=gZ hY.1 hg;rw [e,hd] at e2; cases e2
  ·exact hY.2.grown (grownBy_putObj' Y r _) hY.2.size (fun g e=>by injection e with e; omega)
end
end Go.Proofs.YtdaoiceeidoehaaGreat
namespace Go.Proofs.YtdaoiceeidoehaaGreat
open Go.ChangeShapes Go.WideShapes Go.ChangeAt Go.RowKit
open Pl
theorem kM (rs:List ER) (n:Nat) (h:n < rs.length):lI (ah rs) n=rs[n].e.kids:=by simp [lI,ah,h]
theorem D5 (b off cap:Nat) (rs:List ER) (hlen:rs.length≤1048576) (hl:∀ r ∈ rs,r.e.light) (n:Nat):∀ (w:World),n < rs.length→b < w.heap.size→(∀ (i:Nat) (h:i < rs.length),wy w b (off + i * 5) rs[i])→(∀ r ∈ rs,r.ok w) →
  Calls prog 110 #[.slice (some ⟨b,off,none⟩) rs.length cap,.int .i64 (n:Int)] w fun e w'=>e=.returned (.int .i64 (aF (ah rs) n))∧Below w.heap.size w w':=by
 induction n using Nat.strongRecOn with
 | ind n ih =>
  intro w hn hb hr hok
  have IH:Hid (∀ m,m < n→∀ (w:World),m < rs.length→b < w.heap.size→(∀ (i:Nat) (h:i < rs.length),wy w b (off + i * 5) rs[i])→(∀ r ∈ rs,r.ok w) →
   Calls prog 110 #[.slice (some ⟨b,off,none⟩) rs.length cap,.int .i64 (m:Int)] w fun e w'=>e=.returned (.int .i64 (aF (ah rs) m))∧Below w.heap.size w w'):=ih
  have HR:Hid (∀ (i:Nat) (h:i < rs.length),wy w b (off + i * 5) rs[i]):=hr;have HO:Hid (∀ r ∈ rs,r.ok w):=hok;obtain ⟨t0,t1,t2,t3,t4⟩:=hr n hn;obtain ⟨l1,l2⟩:=hl rs[n] (List.getElem_mem hn);have hn1:=aY n;have hn2:(n:Int) < (rs.length:Int):=by omega
  have HT:Hid (aF (ah rs) n=dK (dO (ah rs) n) rs[n].e.kids.reverse ((n:Int) - 1)):=by show _=_; rw [jT,kM rs n hn]
  have HL:Hid (∀ r ∈ rs,r.e.light):=hl;clear ih hr hok hl l1;go_enter func110,ntmps110;go_wp2_with fail;go_loopw [5,6] (fun a i wr=>∃ (j:Nat) (x:Int),j≤rs[n].e.kids.length∧i=.int .i64 ((j:Int) - 1)∧a=.int .i64 x∧-1≤x∧x < n∧Hid (dK (dO (ah rs) n) (rs[n].e.kids.take j).reverse x=aF (ah rs) n)∧Below w.heap.size w wr) (fun _ i _=>(intOf i + 1).toNat);case atStart=>exact ⟨rs[n].e.kids.length,(n:Int) - 1,Nat.le_refl _,rfl,rfl,by omega,by omega,(by show _=_; rw [List.take_length]; exact HT.out.symm),Below.refl _ _⟩
  case round =>
   obtain ⟨j,x,hj,rfl,rfl,hx0,hx1,HG,hB⟩:=hrel;have s4:=kept hB hb t4;by_cases hj0:0 < j
   ·obtain ⟨j,rfl⟩:∃ i,j=i + 1:=⟨j - 1,by omega⟩;have hjl:j < rs[n].e.kids.length:=by omega
    rcases (HO.out rs[n] (List.getElem_mem hn)).2.below hB with hnil | ⟨bk,offk,hadk,hbk,hrk⟩
    ·rw [hnil] at hjl; simp at hjl
    rw [hadk] at s4;have k0:=hrk j hjl;clear hrk;have hji:((j + 1:Nat):Int) - 1=(j:Int):=by omega
    have hj1:=aY j;have hj2:(j:Int) < (rs[n].e.kids.length:Int):=by omega
    have HG2:Hid ((if x < 0 ∨ rs[n].e.kids[j] ≠ x then -1 else if dO (ah rs) n x < 0 then -1 else dK (dO (ah rs) n) (rs[n].e.kids.take j).reverse (dO (ah rs) n x - 1))=aF (ah rs) n):=by
     have:=HG.out;rw [List.take_succ_eq_append_getElem hjl,List.reverse_append] at this;exact this
    rw [hji];clear HG hadk t0 t1 t2 t3 t4;by_cases hxn:x < 0
    ·have HT1:Hid (aF (ah rs) n=-1):=by show _=_; rw [← HG2.out,if_pos (Or.inl hxn)]
     go_wp2;go_ret;exact ⟨by rw [HT1.out]; rfl,hB⟩
    by_cases hkx:rs[n].e.kids[j]=x
    ·obtain ⟨m,rfl⟩:∃ m:Nat,x=(m:Int):=⟨x.toNat,by omega⟩;have hF:dO (ah rs) n (m:Int)=aF (ah rs) m:=by unfold dO; rw [if_pos ⟨by omega,by simp; omega⟩]; simp
     have HF:Hid (dO (ah rs) n (m:Int)=aF (ah rs) m):=hF;have hle:=mP (ah rs) m;clear hF;go_wp2_with fail;refine (IH.out m (by omega) _ (by omega) (Nat.lt_of_lt_of_le hb hB.size) (fun i hi=>(HR.out i hi).same fun o=>hB.cell (p:=⟨b,o,none⟩) hb) (fun r hr=>(HO.out r hr).below hB)).mono ?_;rintro e w1 ⟨rfl,hb1⟩;have hB1:Below w.heap.size w w1:=hB.trans (hb1.mono hB.size);clear hb1;by_cases hneg:aF (ah rs) m < 0
     ·have HT1:Hid (aF (ah rs) n=-1):=by show _=_; rw [← HG2.out,if_neg (by omega),HF.out,if_pos hneg]
      go_wp2;go_ret;exact ⟨by rw [HT1.out]; rfl,hB1⟩
     ·have HG3:Hid (dK (dO (ah rs) n) (rs[n].e.kids.take j).reverse (aF (ah rs) m - 1)=aF (ah rs) n):=by
       show _=_;rw [← HG2.out,if_neg (by omega),HF.out,if_neg hneg]
      go_wp2;go_roundw;case rel=>exact ⟨j,aF (ah rs) m - 1,by omega,by go_num,rfl,by omega,by omega,HG3,hB1⟩
      case measure=>simp [intOf] <;> omega
    ·have HT1:Hid (aF (ah rs) n=-1):=by show _=_; rw [← HG2.out,if_pos (Or.inr hkx)]
     go_wp2;go_ret;exact ⟨by rw [HT1.out]; rfl,hB⟩
   ·obtain rfl:j=0:=by omega
    have HT1:Hid (aF (ah rs) n=x + 1):=by show _=_; have:=HG.out; simp [dK] at this; exact this.symm
    clear HG t0 t1 t2 t3 t4;go_wp2;go_ret;exact ⟨by rw [HT1.out]; rfl,hB⟩
theorem wy.later {w w':World} {b off:Nat} {r:ER} (h:wy w b off r) (hb:b < w.heap.size) (hB:Below w.heap.size w w'):wy w' b off r:=h.same fun o=>hB.cell (p:=⟨b,o,none⟩) hb
theorem yn {es:List Ex} (h:¬ (1≤es.length∧es.length≤15)):aR es=false:=by
 unfold aR;by_cases h1:1≤es.length
 ·have h2:¬ es.length≤15:=fun h2=>h ⟨h1,h2⟩;simp [h2]
 ·simp [h1]
theorem D6 {es:List Ex} (k:Nat) (h:k < es.length) (hb:ak es[k]=false):aR es=false:=by simp [aR,xm es k h hb]
theorem D7 {es:List Ex} (k:Nat) (h:k < es.length) (hb:jL es k=false):aR es=false:=by simp [aR,H6 es k h hb]
def kN (zs:List Int) (i j:Nat):Bool:=(zs.take j).all fun k=>decide (0≤k) && decide (k≤(i:Int) - 1)
theorem zP (zs:List Int) (i j:Nat) (h:j < zs.length):kN zs i (j + 1)=(kN zs i j && (decide (0≤zs[j]) && decide (zs[j]≤(i:Int) - 1))):=by
 unfold kN; rw [List.take_succ_eq_append_getElem h,List.all_append]; simp
theorem BG (zs:List Int) (i j:Nat) (h:j < zs.length) (hb:(decide (0≤zs[j]) && decide (zs[j]≤(i:Int) - 1))=false):(zs.all fun k=>decide (0≤k) && decide (k≤(i:Int) - 1))=false:=by
 rw [Bool.eq_false_iff]; intro h2; rw [List.all_eq_true] at h2; have:=h2 zs[j] (List.getElem_mem h); rw [hb] at this; cases this
set_option maxRecDepth 4000 in
theorem vO (b off cap:Nat) (rs:List ER) (w:World) (hlen:rs.length≤1048576) (hl:∀ r ∈ rs,r.e.light) (hf:∀ r ∈ rs,r.e.fits) (hb:b < w.heap.size) (hr:∀ (i:Nat) (h:i < rs.length),wy w b (off + i * 5) rs[i]) (hok:∀ r ∈ rs,r.ok w) :
  Calls prog 78 #[.slice (some ⟨b,off,none⟩) rs.length cap] w fun e w'=>e=.returned (.bool (aR (ah rs)))∧Below w.heap.size w w':=by
 have hel:=aI rs;have HEL:Hid ((ah rs).length=rs.length):=hel;have HL:Hid (∀ r ∈ rs,r.e.light):=hl;have HF:Hid (∀ r ∈ rs,r.e.fits):=hf;have HR:Hid (∀ (i:Nat) (h:i < rs.length),wy w b (off + i * 5) rs[i]):=hr;have HO:Hid (∀ r ∈ rs,r.ok w):=hok;clear hel hl hf hr hok;by_cases hn:1≤rs.length∧rs.length≤15
 ·obtain ⟨hn1,hn2⟩:=hn;go_enter func78,ntmps78;go_wp2_with fail;go_loopw [3,4] (fun o i wr=>∃ k:Nat,k≤rs.length∧i=.int .i64 k∧o=.int .i64 (eH (ah rs) k:Nat)∧Hid (gV (ah rs) k=true∧gW (ah rs) k=true)∧Below w.heap.size w wr) (fun _ i _=>rs.length - (intOf i).toNat);case atStart=>exact ⟨0,Nat.zero_le _,rfl,rfl,⟨by simp [gV],by simp [gW]⟩,Below.refl _ _⟩
  case round =>
   obtain ⟨k,hk,rfl,rfl,HU,hB⟩:=hrel;by_cases hlt:k < rs.length
   ·have hltE:k < (ah rs).length:=by rw [HEL.out]; exact hlt
    have hek:(ah rs)[k]=rs[k].e:=by simp [ah]
    have HEK:Hid ((ah rs)[k]=rs[k].e):=hek;obtain ⟨t0,t1,t2,t3,t4⟩:=(HR.out k hlt).later hb hB;clear hek;have hk1:=aY k;have hk2:(k:Int) < (rs.length:Int):=by omega
    have hol:=pg (ah rs) k;go_wp2_with fail;refine (yY rs[k] _ (HF.out _ (List.getElem_mem hlt)) ((HO.out _ (List.getElem_mem hlt)).below hB)).mono ?_;rintro e w1 ⟨rfl,hb1⟩;cases hnode:ak rs[k].e with
    | false =>
     have HN:Hid (aR (ah rs)=false):=D6 k hltE (by rw [HEK.out]; exact hnode);go_wp2;go_ret;exact ⟨by rw [HN.out]; rfl,hB.trans (hb1.mono hB.size)⟩
    | true =>
     have hB1:Below w.heap.size w w1:=hB.trans (hb1.mono hB.size);have hbw:b < wr.heap.size:=Nat.lt_of_lt_of_le hb hB.size;replace t0:=kept hb1 hbw t0;replace t4:=kept hb1 hbw t4;have hbw1:b < w1.heap.size:=Nat.lt_of_lt_of_le hbw hb1.size;clear t1 t2 t3 hb1 hB hbw;go_wp2_with fail;go_loopw [5] (fun i w2=>∃ j:Nat,j≤rs[k].e.kids.length∧i=.int .i64 j∧Hid (kN rs[k].e.kids k j=true)∧w2=w1) (fun i _=>rs[k].e.kids.length - (intOf i).toNat);case atStart=>exact ⟨0,Nat.zero_le _,rfl,(by show _=_; simp [kN]),rfl⟩
     case round =>
      obtain ⟨j,hj,rfl,HP,rfl⟩:=hrel;by_cases hjl:j < rs[k].e.kids.length
      ·rcases (HO.out rs[k] (List.getElem_mem hlt)).2.below hB1 with hnil | ⟨bk,offk,hadk,hbk,hrk⟩
       ·rw [hnil] at hjl; simp at hjl
       have t4':=t4;rw [hadk] at t4';have k0:=hrk j hjl;have hj1:=aY j;have hj2:(j:Int) < (rs[k].e.kids.length:Int):=by omega
       obtain ⟨-,lk⟩:=HL.out rs[k] (List.getElem_mem hlt);clear hrk hadk t4;go_wp2_with fail;refine (Ib _ _ _ _).mono ?_;rintro e w' ⟨rfl,rfl⟩;cases hin:(decide (0≤rs[k].e.kids[j]) && decide (rs[k].e.kids[j]≤(k:Int) - 1)) with
       | false =>
        have HN:Hid (aR (ah rs)=false):=D7 k hltE (by unfold jL; rw [kM rs k hlt]; exact BG _ k j hjl hin);go_wp2;go_ret;exact ⟨by rw [HN.out]; rfl,hB1⟩
       | true =>
        have HP2:Hid (kN rs[k].e.kids k (j + 1)=true):=by show _=_; rw [zP _ _ _ hjl,HP.out,hin]; rfl
        go_wp2;go_roundw;case rel=>exact ⟨j + 1,by omega,by go_num,HP2,by first | rfl | trivial⟩
        case measure=>simp [intOf] <;> omega
      ·obtain rfl:j=rs[k].e.kids.length:=by omega
       have HU2:Hid (gV (ah rs) (k + 1)=true∧gW (ah rs) (k + 1)=true):=by
        refine ⟨?_,?_⟩
        ·rw [pq _ _ hltE,HU.out.1,HEK.out,hnode]; rfl
        ·rw [Ao,HU.out.2];unfold jL;rw [kM rs k hlt];have:=HP.out;unfold kN at this;rw [List.take_length] at this;rw [this]; rfl
       have HOW:Hid (eH (ah rs) (k + 1)=eH (ah rs) k + (if rs[k].e.kind=1 then 1 else 0)):=by show _=_; rw [uu _ _ hltE,HEK.out]
       by_cases hk1':rs[k].e.kind=1
       ·have HOW2:Hid (eH (ah rs) (k + 1)=eH (ah rs) k + 1):=by show _=_; rw [HOW.out,if_pos hk1']
        clear HOW;go_wp2;go_roundw;case rel=>exact ⟨k + 1,by omega,by go_num,by rw [HOW2.out]; go_num,HU2,hB1⟩
        case measure=>simp [intOf] <;> omega
       ·have HOW2:Hid (eH (ah rs) (k + 1)=eH (ah rs) k):=by show _=_; rw [HOW.out,if_neg hk1']; rfl
        clear HOW;go_wp2;go_roundw;case rel=>exact ⟨k + 1,by omega,by go_num,by rw [HOW2.out],HU2,hB1⟩
        case measure=>simp [intOf] <;> omega
   ·obtain rfl:k=rs.length:=by omega
    have HN:Hid ((ah rs).all ak=true):=by
     have:=HU.out.1;unfold gV at this;rwa [← HEL.out,List.take_length] at this
    have HKU:Hid (gW (ah rs) rs.length=true):=HU.out.2;have HOW:Hid (eH (ah rs) rs.length=own (ah rs)):=by show _=_; unfold eH; rw [← HEL.out,List.take_length]
    have hol:=pg (ah rs) rs.length;by_cases ho:eH (ah rs) rs.length≤1
    ·have HS:Hid (aR (ah rs)=decide (aF (ah rs) (rs.length - 1)=0)):=by
      show _=_;have h1:own (ah rs)≤1:=by rw [← HOW.out]; exact ho
      have e1:=HEL.out;unfold aR;rw [e1,HN.out,HKU.out];simp [h1,hn1,hn2]
     have hcast:((rs.length:Int) - 1)=((rs.length - 1:Nat):Int):=by omega
     have HCA:Hid (((rs.length:Int) - 1)=((rs.length - 1:Nat):Int)):=hcast;clear hcast;go_wp2_with fail;rw [HCA.out];refine (D5 b off cap rs hlen HL.out (rs.length - 1) _ (by omega) (Nat.lt_of_lt_of_le hb hB.size) (fun i hi=>(HR.out i hi).later hb hB) (fun r hr=>(HO.out r hr).below hB)).mono ?_;rintro e w1 ⟨rfl,hb1⟩;go_wp2;go_ret;exact ⟨by rw [HS.out]; exact af (by rw [Bool.eq_iff_iff]; simp),hB.trans (hb1.mono hB.size)⟩
    ·have HS:Hid (aR (ah rs)=false):=by
      show _=_;have h1:¬ own (ah rs)≤1:=by rw [← HOW.out]; exact ho
      simp [aR,h1]
     go_wp2;go_ret;exact ⟨by rw [HS.out]; rfl,hB⟩
 ·have HN:Hid (aR (ah rs)=false):=yn (by rw [HEL.out]; exact hn);go_enter func78,ntmps78;go_wp2_with fail
  all_goals go_ret
  all_goals exact ⟨by rw [HN.out]; rfl,Below.refl _ _⟩
theorem mD (ad:Option Addr) (cap:Nat) (rs:List ER) (w:World) (hlen:rs.length≤1048576) (hl:∀ r ∈ rs,r.e.light) (hf:∀ r ∈ rs,r.e.fits) (hs:dw w ad rs) :
  Calls prog 78 #[.slice ad rs.length cap] w fun e w'=>e=.returned (.bool (aR (ah rs)))∧Below w.heap.size w w':=by
 rcases hs with rfl | ⟨b,off,rfl,hb,hr,hok⟩
 ·go_enter func78,ntmps78;go_wp2_with fail;go_ret;exact ⟨rfl,Below.refl _ _⟩
 ·exact vO b off cap rs w hlen hl hf hb hr hok
end Go.Proofs.YtdaoiceeidoehaaGreat
