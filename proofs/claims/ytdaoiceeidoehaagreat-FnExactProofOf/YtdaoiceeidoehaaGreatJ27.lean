/- All facts as the program finds them: stratum by stratum, rounds over fewer and fewer users. -/
import Derived.Test.YtdaoiceeidoehaaGreatJ25
import Derived.Test.YtdaoiceeidoehaaGreatJ26
open Go.Proofs.Tryz
set_option maxHeartbeats 80000000
namespace Go.Proofs.YtdaoiceeidoehaaGreat
set_option linter.unusedVariables false
set_option maxRecDepth 100000
open Go.ChangeShapes Go.WideShapes Go.ChangeAt Go.RowKit Go.Maps Go.Shelf
open Pl
attribute [local go_sem] Oper.semAt_some
def CZ (X:World) (B:Nat):Nat:=match X.cell? ⟨B,0,none⟩ with
 | some x=>Qs x
 | none=>0
theorem C8 {X:World} {B n c:Nat} {ad:Option Addr} {T:TypeId} (h:bZ X B (.slice ad n c) T):CZ X B=n:=by
 unfold CZ; rw [h.c]; rfl
section
variable [DecidableEq Fc]
theorem KI (w:World) (rs:List TR) (Uy:Option Addr) (D br bp bt:Nat) (N:Nat) (nr:Nat) (Mr:KL→Option Value) (st:ByteArray × ByteArray→Int) (ts:List Tp) (xo xu:List Al) (np:Nat) (Mp:K3→Option Value) (vo vu:Value) (hD:DatA w rs D br bp bt (N:Int) nr Mr (dY st rs) (aW ts) xo xu np Mp vo vu) (hs:jd w Uy rs) (hN:N≤1000) (hol:xo.length≤80) (Xo:xu.length≤40) (hE:(ai (ae rs)).length≤36) (hrl:∀ k,(G.lookL (dY st rs) k).length≤1000) (hsh:aV (ae rs)=true) (hts:∀ t ∈ ts,t.fits) (htl:ts.length≤1000) (hof:∀ o ∈ xo,o.t.size≤maxLen∧o.s.size≤maxLen) (huf:∀ o ∈ xu,o.t.size≤maxLen∧o.s.size≤maxLen) (hrf:∀ k ∈ ai (ae rs),k.2.size≤maxLen) :
  Calls prog 64 #[.pointer (some ⟨D,0,none⟩)] w fun e w'=>(∃ v,e=.returned v∧w'.ownsRow w.heap.size 42 5 v (gI (ae rs) ts st xo xu N).length (au (gI (ae rs) ts st xo xu N)))∧Below w.heap.size w w':=by
 obtain ⟨iF,z0,z1,z2,z3⟩:=mQ;obtain ⟨W0,hW0⟩:∃ W0,W0=((w.alloc (.cells #[.slice none 0 0] 38)).alloc (.map #[] 0)).alloc (.cells #[.map (some (w.heap.size + 1))] 84):=⟨_,rfl⟩;obtain ⟨Ua,TV,rfl,-⟩:=jG hD.dat.objs;have hlD:=hD.dat.lt;have d1:=hD.dat.c1;have h00:FoW w W0 (.slice none 0 0) []∧bZ W0 (w.heap.size + 1 + 1) (.map (some (w.heap.size + 1))) 84:=by
  obtain ⟨V1,e1⟩:∃ V,V=w.alloc (.cells #[.slice none 0 0] 38):=⟨_,rfl⟩;obtain ⟨V2,e2⟩:∃ V,V=V1.alloc (.map #[] 0):=⟨_,rfl⟩;rw [← e1,← e2] at hW0;have t1:V1.heap.size=w.heap.size + 1:=by rw [e1,World.size_alloc]
  have t2:V2.heap.size=w.heap.size + 1 + 1:=by rw [e2,World.size_alloc,t1]
  have f1:Below w.heap.size w V1:=by rw [e1]; exact (R3 _ _).alloc (R4 _) _
  have f2:Below V1.heap.size V1 V2:=by rw [e2]; exact (R3 _ _).alloc (R4 _) _
  have f3:Below V2.heap.size V2 W0:=by rw [hW0]; exact (R3 _ _).alloc (R4 _) _
  have f12:Below w.heap.size w V2:=f1.trans (f2.mono f1.size);have g1:bZ V1 w.heap.size (.slice none 0 0) 38:=by rw [e1]; exact World.alloc_heap_new w _
  have g2:aD dH prog 42 V2 (w.heap.size + 1) 0 (fun _=>none):=by
   have:=jl dH prog 42 V1;rw [← e2,t1] at this; exact this
  have g3:bZ W0 (w.heap.size + 1 + 1) (.map (some (w.heap.size + 1))) 84:=by rw [hW0,← t2]; exact World.alloc_heap_new V2 _
  have ek:uw []=fun _=>none:=rfl;exact ⟨⟨f12.trans (f3.mono f12.size),(g1.bel f2).bel f3,World.ownsRow_nil _ _ _ _,by rw [ek]; exact g2.below f3⟩,g3⟩
 have hmm:=@run_makeMap prog;have hl1:D < w.heap.size + 1:=by omega
 have hl2:D < w.heap.size + 1 + 1:=by omega
 refine (callsIn_wide (n:=12)).1 ?_;refine callsIn_of_wp_marks func64 rfl trivial ?_ rfl;simp only [ntmps64,List.size_toArray,List.length_cons,List.length_nil,Nat.reduceAdd,Nat.reduceSub,Array.replicate_succ,Array.replicate_zero,List.push_toArray,List.append_toArray,List.nil_append,List.cons_append];gi_wp2;rw [← hW0];clear hW0 hmm;obtain ⟨H,hH⟩:∃ H,H=fH (ae rs) ts:=⟨_,rfl⟩;obtain ⟨A,hA⟩:∃ A:Nat→List Fc,A=gI (ae rs) ts st xo xu:=⟨_,rfl⟩;obtain ⟨Q,hQ⟩:∃ Q:Nat→List Fc,Q=fun (n:Nat)=>bR (ae rs) st xo xu (n:Int):=⟨_,rfl⟩;have hA1:∀ n,A (n + 1)=kZ H (Q n) (A n):=fun n=>by rw [hA,hH,hQ]; exact iD _ _ _ _ _ _
 have hAG:∀ n,GoodO (ae rs) xo xu (A n):=fun n=>by rw [hA]; exact kN _ _ _ _ _ n
 have hA0:A 0=[]:=by rw [hA]; rfl
 have hAN:gI (ae rs) ts st xo xu N=A N:=by rw [hA]
 refine wpIn_loop (fun a' X=>∃ (q:Nat) (rl:List Nat) (v:Value) (u5 u6 u7 u8 u15 u16 u17 u18 u19 u20 u21 u22 u23 u24 u25 u26 u27 u28 u29 u30 u31 u32 u33 u34 u35 u36 u37 u38 u39 u40 u41 u42 u43 u44:Value),a'={ tmps:=List.toArray (.pointer (some ⟨D,0,none⟩)::undef::.slice none 0 0::.pointer (some ⟨w.heap.size,0,none⟩)::.pointer (some ⟨w.heap.size + 1 + 1,0,none⟩)::u5::u6::u7::u8::.map (some (w.heap.size + 1))::.pointer (some ⟨D,0,none⟩)::.pointer (some ⟨D,0,none⟩)::.pointer (some ⟨D,1,none⟩)::.int .i64 (N:Int)::.int .i64 (q:Int)::u15::u16::u17::u18::u19::u20::u21::u22::u23::u24::u25::u26::u27::u28::u29::u30::u31::u32::u33::u34::u35::u36::u37::u38::u39::u40::u41::u42::u43::u44::undef::[]),defers:=marks rl }∧q≤N∧FoW w X v (A q)∧bZ X (w.heap.size + 1 + 1) (.map (some (w.heap.size + 1))) 84∧iA X rl∧(∀ r ∈ rl,w.heap.size + 1 + 1 < r)) (fun a' _=>N - (intOf (a'.tmps.getD 14 undef)).toNat) ⟨0,[],.slice none 0 0,_,_,_,_,_,_,_,_,_,_,_,_,_,_,_,_,_,_,_,_,_,_,_,_,_,_,_,_,_,_,_,_,_,_,rfl,R6 _,by rw [hA0]; exact h00.1,h00.2,⟨List.nodup_nil,fun r hr=>by cases hr⟩,fun r hr=>by cases hr⟩ ?_;rintro a1 X ⟨q,rl,v,u5,u6,u7,u8,u15,u16,u17,u18,u19,u20,u21,u22,u23,u24,u25,u26,u27,u28,u29,u30,u31,u32,u33,u34,u35,u36,u37,u38,u39,u40,u41,u42,u43,u44,rfl,hq,hF,hB,hMk,hMn⟩;clear h00;by_cases hlq:q < N
 ·have hDX:=hD.below hF.bel;have d5:=hDX.dat.c5;have d5l:=hDX.dat.lt;obtain ⟨Yi,UT,rfl,-⟩:=jG hDX.dat.users;gi_wp2;refine wpIn_loop (fun a' X=>∃ (us:List Al) (TL:Option Addr) (Tf:Nat) (out:List Fc) (rl:List Nat) (v:Value) (base:Nat) (u7 u8 u21 u22 u23 u24 u25 u26 u27 u28 u29 u30 u31 u32 u33 u34 u35 u36 u37 u38 u39 u40 u41 u42 u43 u44:Value),a'={ tmps:=List.toArray (.pointer (some ⟨D,0,none⟩)::undef::.slice none 0 0::.pointer (some ⟨w.heap.size,0,none⟩)::.pointer (some ⟨w.heap.size + 1 + 1,0,none⟩)::.int .i64 (q:Int)::.slice TL us.length Tf::u7::u8::.map (some (w.heap.size + 1))::.pointer (some ⟨D,0,none⟩)::.pointer (some ⟨D,0,none⟩)::.pointer (some ⟨D,1,none⟩)::.int .i64 (N:Int)::.int .i64 (q:Int)::.bool true::.int .i64 (q:Int)::.pointer (some ⟨D,0,none⟩)::.pointer (some ⟨D,0,none⟩)::.pointer (some ⟨D,5,none⟩)::.slice Yi xu.length UT::u21::u22::u23::u24::u25::u26::u27::u28::u29::u30::u31::u32::u33::u34::u35::u36::u37::u38::u39::u40::u41::u42::u43::u44::undef::[]),defers:=marks rl }∧FewA (ae rs) ts st xo xu (q:Int) us out∧kZ H (Q q) out=A (q + 1)∧GoodO (ae rs) xo xu out∧FoW w X v out∧bZ X (w.heap.size + 1 + 1) (.map (some (w.heap.size + 1))) 84∧iA X rl∧(∀ r ∈ rl,w.heap.size + 1 + 1 < r)∧X.ownsRow base 40 2 (.slice TL us.length Tf) us.length (pairs us)∧us.length≤40∧∀ o ∈ us,o.t.size≤maxLen∧o.s.size≤maxLen) (fun a' Y=>2 * (200000 - CZ Y w.heap.size) + min 1 (Qs (a'.tmps.getD 6 undef))) ⟨xu,Yi,UT,A q,rl,v,bp + 1,_,_,_,_,_,_,_,_,_,_,_,_,_,_,_,_,_,_,_,_,_,_,_,_,_,_,rfl,FewA.start _,(hA1 q).symm,hAG q,hF,hB,hMk,hMn,hDX.dat.users,Xo,huf⟩ ?_;clear hDX d5 d5l hF hB hMk hMn;rintro a2 X2 ⟨us,TL,Tf,out,rl2,v2,base,u7,u8,u21,u22,u23,u24,u25,u26,u27,u28,u29,u30,u31,u32,u33,u34,u35,u36,u37,u38,u39,u40,u41,u42,u43,u44,rfl,hFew,hLim,hG,hF2,hB2,hMk2,hMn2,hU,hul2,huf2⟩;obtain ⟨TF,Te,rfl,-⟩:=iH hF2.row;have hmu:=C8 hF2.box;have hout:=hG.len hol hE Xo;by_cases hne:us=[]
  ·subst hne;have hAq:A (q + 1)=out:=by rw [← hLim,hH,hQ]; exact hFew.done
   have Yd:FoW w X2 (.slice TF out.length Te) (A (q + 1)):=by rw [hAq]; exact hF2
   gi_wp2;exact ⟨⟨q + 1,rl2,_,_,_,_,_,_,_,_,_,_,_,_,_,_,_,_,_,_,_,_,_,_,_,_,_,_,_,_,_,_,_,_,_,_,_,rfl,by omega,Yd,hB2,hMk2,hMn2⟩,by simp [intOf]; omega⟩
  ·have hpos:0 < us.length:=by cases us with | nil=>exact absurd rfl hne | cons a l=>simp
   have hposI:(0:Int) < (us.length:Int):=by omega
   have bc:=hF2.box.c;have kc:=hB2.c
   gi_wp2_with fail
   refine ⟨trivial,(callsIn_wide.2 (CY D (q:Int) TL us.length Tf (w.heap.size + 1) X2)).mono ?_⟩;rintro e X3 ⟨rfl,hX3⟩;obtain ⟨hBX,Vb,hs3⟩:=Pn X2 D (q:Int) (.slice TL us.length Tf) (w.heap.size + 1) hX3;have Yd:=hF2.below Vb;have hU3:=aM hU Vb;have hB3:=hB2.bel Vb;have hMk3:=hMk2.bel Vb;have hsB:w.heap.size + 1 + 1 < X2.heap.size:=(Array.getElem?_eq_some_iff.1 hB2).1;clear hX3 bc kc;gi_wp2
   refine kL (α:=Fc) rfl (by omega) (gf:=124) (lb:=#[.pointer (some ⟨X2.heap.size,0,none⟩),.pointer (some ⟨X2.heap.size + 1,0,none⟩),.pointer (some ⟨X2.heap.size + 1 + 1,0,none⟩),.pointer (some ⟨X2.heap.size + 1 + 1 + 1,0,none⟩)]) rfl trivial (enters_of func124 (by kernel_rfl) rfl)
    (KG 11 (by omega) rs Uy D br bp bt (N:Int) nr Mr st ts Ua TV xo xu np Mp (.slice Yi xu.length UT) (w.heap.size + 1) out X2.heap.size (X2.heap.size + 1) (X2.heap.size + 1 + 1) (X2.heap.size + 1 + 1 + 1) (q:Int) TL Tf us X3 (by omega) (by omega) (by omega) (by omega) hrl hsh hts htl hof huf2 hrf) (R3 _ _) (fun _=>rfl) (fun h k=>h.trans k) (fun Y lx o o' h1 h2=>KpO.put h1 h2)
    (fun pre Y=>∃ v',FoW w Y v' (out ++ pre)∧KpO (w.heap.size + 1) X3.heap.size X3 Y∧GoodO (ae rs) xo xu (out ++ pre))
    ?own ?tell ⟨_,by rw [List.append_nil]; exact Yd,KpO.below (R3 _ _),by rw [List.append_nil]; exact hG⟩
    (fun x a' Y=>∃ Bx,jI Y Bx x∧a'={ tmps:=List.toArray (.pointer (some ⟨D,0,none⟩)::undef::.slice none 0 0::.pointer (some ⟨w.heap.size,0,none⟩)::.pointer (some ⟨w.heap.size + 1 + 1,0,none⟩)::.int .i64 (q:Int)::.slice TL us.length Tf::.int .i64 (out.length:Int)::.pointer (some ⟨Bx,0,none⟩)::.map (some (w.heap.size + 1))::.pointer (some ⟨D,0,none⟩)::.pointer (some ⟨D,0,none⟩)::.pointer (some ⟨D,1,none⟩)::.int .i64 (N:Int)::.int .i64 (q:Int)::.bool true::.int .i64 (q:Int)::.pointer (some ⟨D,0,none⟩)::.pointer (some ⟨D,0,none⟩)::.pointer (some ⟨D,5,none⟩)::.slice Yi xu.length UT::.slice TL us.length Tf::.int .i64 (us.length:Int)::.bool true::.slice TF out.length Te::.int .i64 (out.length:Int)::.pointer (some ⟨D,0,none⟩)::.int .i64 (q:Int)::.slice TL us.length Tf::.map (some (w.heap.size + 1))::.func (.func 124) #[] #[.pointer (some ⟨X2.heap.size,0,none⟩),.pointer (some ⟨X2.heap.size + 1,0,none⟩),.pointer (some ⟨X2.heap.size + 1 + 1,0,none⟩),.pointer (some ⟨X2.heap.size + 1 + 1 + 1,0,none⟩)]::.agg #[.string x.a,.string x.b,.string x.r,.string x.c,.string x.d]::u32::u33::u34::u35::u36::u37::u38::u39::u40::u41::u42::u43::u44::undef::[]),defers:=[] })
    (fun x a' s Y Z row hs hg hr=>by obtain ⟨Bx,h,e⟩:=hs; exact ⟨Bx,yU (B0:=X3.heap.size) (g:=Bx) (x:=x) () Y Z row h hg hr,e⟩) ?assign ?body ?done
   case own =>
    intro pre Y Z row hs hg hr;obtain ⟨v',h1,h2,h3⟩:=hs;exact ⟨v',h1.kept hg fun r e=>⟨by have:=(hr r e).1; omega,(hr r e).2⟩,Po (β:=Unit) () Y Z row h2 hg hr,h3⟩
   case tell =>
    rintro pre Y ⟨v',h1,h2,h3⟩;have hb:=hBX.kp h2;obtain ⟨ad2,cap2,e,hsa⟩:=jG (Jn hU3 h2 (by decide) (by decide));injection e with ea eb ec;exact ⟨hD.below h1.bel,hs.below h1.bel,⟨_,h1.map⟩,hb.d.c,hb.s.c,hb.u.c,hb.k.c,by rw [ea]; exact hsa⟩
   case assign =>
    rintro l' pre x Y K ⟨v',h1,h2,h3⟩ hKK;unfold Bq;gi_wp2;have hbl:Below Y.heap.size Y (Y.alloc (.cells #[.string x.a,.string x.b,.string x.r,.string x.c,.string x.d] 42)):=(R3 _ _).alloc (R4 _) _;exact hKK _ _ ((KeepsOthers.alloc _ _).from _) (KpO.below hbl) ⟨v',h1.below hbl,h2.trans (KpO.below hbl),h3⟩ ⟨Y.heap.size,World.alloc_heap_new Y _,rfl⟩
   case body =>
    rintro l' pre x a' Y hl ⟨hEx,hnew⟩ ⟨v',hFY,hKY,hGY⟩ ⟨Bx,bX,rfl⟩;obtain ⟨hkey,XI⟩:=Fe hof huf2 hrf hEx;obtain ⟨kl,hkl⟩:=kM x XI;obtain ⟨c0,c1,c2,c3,c4,cl⟩:=bX.c;have hGX:GoodO (ae rs) xo xu (out ++ (pre ++ [x])):=by
     refine ⟨?_,fun g hg=>?_⟩
     ·rw [← List.append_assoc];exact List.nodup_append.2 ⟨hGY.once,by simp,fun a ha b hb e=>by
       rw [Sm] at hb;rw [← hb,← e] at hnew;exact hnew ha⟩
     ·rw [← List.append_assoc] at hg;rcases Sd.1 hg with hg | hg
      ·exact hGY.sub g hg
      ·rw [Sm] at hg;subst hg;unfold bR sZ at hEx;obtain ⟨o,ho,h1⟩:=Sk.1 hEx;obtain ⟨k,hk,h1⟩:=Sk.1 h1;obtain ⟨u,hu,e⟩:=Sa.1 h1;have hux:u ∈ xu:=by rw [hFew.sub] at hu; exact (SH.1 hu).1
       exact Sk.2 ⟨o,ho,Sk.2 ⟨k,(SH.1 hk).1,Sa.2 ⟨u,hux,e⟩⟩⟩
    have hlen:=hGX.len hol hE Xo;rw [← List.append_assoc,R9,List.length_singleton] at hlen;obtain ⟨os,hos⟩:∃ os,os=out ++ pre:=⟨_,rfl⟩;rw [← hos] at hFY hlen;have HOS:=ag hos;clear hos;have kc:=(hB3.kp hKY (by decide) (by decide)).c;have kl2:=ay kc;obtain ⟨adY,capY,rfl,-⟩:=iH hFY.row;have hmap:=hFY.map;have bcY:=hFY.box.c;have hbxl:=ay bcY;have hblk:=hFY.box;obtain ⟨es,cc,hmb⟩:=dR hFY.map;have hne1:Bx ≠ w.heap.size + 1:=fun e=>by
     have h:=bX;unfold jI at h;rw [e,hmb] at h; cases h
    have hrow:=hFY.row;have hvB:(Value.slice adY os.length capY).ownBlock ≠ some w.heap.size:=fun e=>by have:=(hrow.lt _ e).1; omega
    have hvM:(Value.slice adY os.length capY).ownBlock ≠ some (w.heap.size + 1):=fun e=>Cq hrow e hmb;have hbYs:=hFY.bel.size
    gi_wp2_with (first
     | (gi_at_mapUpdate; refine jM _ rfl _ _ _ 84 rfl 42 90 mR lY underlying84 (w.heap.size + 1) _ _ rfl hmap (by unfold maxLen; omega) x kl rfl hkl (.agg #[]) rfl ?_; intro Y1 hM1 hg1; have q0:=(jg hg1 ⟨cl,hne1⟩ 0).trans c0; have q1:=(jg hg1 ⟨cl,hne1⟩ 1).trans c1; have q2:=(jg hg1 ⟨cl,hne1⟩ 2).trans c2; have q3:=(jg hg1 ⟨cl,hne1⟩ 3).trans c3; have q4:=(jg hg1 ⟨cl,hne1⟩ 4).trans c4; have qb:=(jg hg1 ⟨hbxl,Nat.ne_of_lt (Nat.lt_succ_self _)⟩ 0).trans bcY; have ql:=ay q0; have qbl:=ay qb; have hrow1:=hrow.kept hg1 (.inr hvM); have hYs1:=hg1.size)
     | (gi_at_builtin; refine wpListIn_append_own_at _ rfl _ _ 38 rfl (w.heap.size + 1) 42 iF (.agg #[.string ⟨#[]⟩,.string ⟨#[]⟩,.string ⟨#[]⟩,.string ⟨#[]⟩,.string ⟨#[]⟩]) 5 80 underlying38 z0 z1 z2 z3 rfl (by decide) _ os.length (au os) rfl (hrow1.alloc _) ⟨Y1.heap.size,0,none⟩ 1 1 x.row rfl rfl (yL Y1 x) (by simp [Fc.row,Value.oneCell']) (by unfold maxLen; omega) (by omega) (by simp; omega) ?_; intro v2 V hown hgr _ hat; obtain ⟨g2,cap2,rfl⟩:=ownsRow_succ hown; have HAT:=ag hat; clear hat; have hY2:Below Y1.heap.size Y1 (Y1.alloc (.cells #[.string x.a,.string x.b,.string x.r,.string x.c,.string x.d] 42)):=(R3 _ _).alloc (R4 _) _; have hVb:=Nt hblk hg1 hY2 hgr hvB; have vc:=hVb.c; have vf:=eD hVb 0; have vl:=ay vc)
     | gi_in)
    obtain ⟨r1,r2,r3⟩:=FoW.step hFY hM1 hg1 hY2 hown hgr HAT.out l';have eos:out ++ (pre ++ [x])=os ++ [x]:=by rw [HOS.out,List.append_assoc]
    exact ⟨Nu r3 (by omega),r2,_,by rw [eos]; exact r1,hKY.after r2 hl,hGX⟩
   case done =>
    rintro Dd xs X5 hDd hS ⟨v5,hF5,hK5,hG5⟩ ZZ;have hl5:=hG5.len hol hE Xo;have hlx:(out ++ xs).length=out.length + xs.length:=R9;have hxs:(out ++ xs).drop out.length=xs:=List.drop_left;obtain ⟨o5,ho5⟩:∃ o5,o5=out ++ xs:=⟨_,rfl⟩;rw [← ho5] at hF5 hG5 hl5 hlx hxs;have TA:=ag ho5;have Wh:=ag hxs;have YS:=hFew.next (by rw [← hH] at hS ⊢; exact hS);have hLim5:kZ H (Q q) o5=A (q + 1):=by
     rw [← hLim,← Ak (H:=H) (Q q) out];congr 1;rw [ho5,← hS,← hH,hQ,hH];exact hFew.round
    rw [← ho5] at YS;obtain ⟨adP,YT,rfl,hsF5⟩:=iH hF5.row;have bc5:=hF5.box.c;have bl5:=ay bc5;have i1:(0:Int)≤(out.length:Int):=by omega
    have i2:(out.length:Int)≤(o5.length:Int):=by omega
    have hcap5:o5.length≤YT:=Jo hF5.row;have hU5:=Jn hU3 hK5 (by decide) (by decide);obtain ⟨ad2,cap2,eU,hsU5⟩:=jG hU5;injection eU with ea eb ec;rw [← ea] at hsU5;have hMk5:iA X5 (Dd::rl2):=by
     have h1:=hMk3.kp hK5 (fun hm=>by have:=hMk3.lt hm; omega) (fun hm=>by have:=hMn2 _ hm; omega);refine ⟨List.nodup_cons.2 ⟨fun hm=>by have:=hMk3.lt hm; omega,h1.1⟩,fun r hr=>?_⟩;rcases List.mem_cons.1 hr with rfl | hr
     ·exact ZZ
     ·exact h1.2 r hr
    have hMn5:∀ r ∈ Dd::rl2,w.heap.size + 1 + 1 < r:=fun r hr=>by
     rcases List.mem_cons.1 hr with rfl | hr
     ·omega
     ·exact hMn2 r hr
    have hkl:(eu us xs).length≤us.length:=Bv us xs;have hkz:xs.length=0→(eu us xs).length=0:=fun h=>by rw [Si.1 h,Hd]; rfl
    have hsx:∀ Xz,Xz=Option.map (fun x=>Addr.add x (out.length * 5)) adP→gX X5 Xz xs:=fun Xz e=>by
     rw [e,← Wh.out];exact gX.dropF hsF5 out.length
    clear ho5 hxs ea eb ec hS
    gi_wp2_with fail
    ·refine ⟨trivial,(callsIn_wide.2 (oZ TL Tf us adP 0 xs X5 (by omega) (by omega) hsU5 (.inl (Si.1 (by omega))))).mono ?_⟩;rintro e X6 ⟨⟨v6,rfl,hO6⟩,hb6⟩;have Tv:CZ X6 w.heap.size=o5.length:=C8 (hF5.below hb6).box;have hF6:=hF5.below hb6;have hB6:=(hB3.kp hK5 (by decide) (by decide)).bel hb6;obtain ⟨ad6,cap6,rfl,-⟩:=jG hO6;gi_wp2;exact ⟨⟨eu us xs,ad6,cap6,o5,Dd::rl2,_,X5.heap.size,_,_,_,_,_,_,_,_,_,_,_,_,_,_,_,_,_,_,_,_,_,_,_,_,_,_,rfl,YS,hLim5,hG5,hF6,hB6,hMk5.bel hb6,hMn5,hO6,by omega,fun o ho=>huf2 o (SH.1 ho).1⟩,by
      show 2 * (200000 - CZ X6 w.heap.size) + min 1 (eu us xs).length < 2 * (200000 - CZ X2 w.heap.size) + min 1 us.length;rw [Tv,hmu];omega⟩
    ·refine ⟨trivial,(callsIn_wide.2 (oZ TL Tf us _ _ xs X5 (by omega) (by omega) hsU5 (hsx _ rfl))).mono ?_⟩;rintro e X6 ⟨⟨v6,rfl,hO6⟩,hb6⟩;have Tv:CZ X6 w.heap.size=o5.length:=C8 (hF5.below hb6).box;have hF6:=hF5.below hb6;have hB6:=(hB3.kp hK5 (by decide) (by decide)).bel hb6;obtain ⟨ad6,cap6,rfl,-⟩:=jG hO6;gi_wp2;exact ⟨⟨eu us xs,ad6,cap6,o5,Dd::rl2,_,X5.heap.size,_,_,_,_,_,_,_,_,_,_,_,_,_,_,_,_,_,_,_,_,_,_,_,_,_,_,rfl,YS,hLim5,hG5,hF6,hB6,hMk5.bel hb6,hMn5,hO6,by omega,fun o ho=>huf2 o (SH.1 ho).1⟩,by
      show 2 * (200000 - CZ X6 w.heap.size) + min 1 (eu us xs).length < 2 * (200000 - CZ X2 w.heap.size) + min 1 us.length;rw [Tv,hmu];omega⟩
 ·have hqN:q=N:=by omega
  subst hqN;obtain ⟨TF,Te,rfl,-⟩:=iH hF.row;have bc:=hF.box.c;have hR:X.ownsRow (w.heap.size + 1) 42 5 (.slice TF (A q).length Te) (gI (ae rs) ts st xo xu q).length (au (gI (ae rs) ts st xo xu q)):=by rw [hAN]; exact hF.row
  have hBl:=hF.bel;have hsz:w.heap.size < X.heap.size:=ay bc;clear hF hB hD;gi_wp2;refine mX (w.heap.size + 1 + 1) (fun Y=>Y.ownsRow w.heap.size 42 5 (.slice TF (A q).length Te) (gI (ae rs) ts st xo xu q).length (au (gI (ae rs) ts st xo xu q))∧Below w.heap.size w Y) (fun Y r hr hY hd=>⟨bz hY.1 fun g hg=>ko fun e=>?_,?_⟩) (fun Y hY=>⟨_,results_tmp rfl _ _ _,⟨_,rfl,hY.1⟩,hY.2⟩) rl X hMk hMn ⟨iZ hR (Nat.le_succ _),hBl⟩
  ·obtain ⟨cur,e2⟩:=dV hY.1 hg;rw [e,hd] at e2; cases e2
  ·exact hY.2.grown (grownBy_putObj' Y r _) hY.2.size (fun g e=>by injection e with e; omega)
end
end Go.Proofs.YtdaoiceeidoehaaGreat
namespace Go.Proofs.YtdaoiceeidoehaaGreat
open Go.ChangeShapes Go.WideShapes Go.ChangeAt Go.RowKit
open Pl
theorem mZ (rs:List ER) (n:Nat) (h:n < rs.length):cZ (ah rs) n=rs[n].e.kids:=by simp [cZ,ah,h]
theorem Ia (b off cap:Nat) (rs:List ER) (hlen:rs.length≤1048576) (hl:∀ r ∈ rs,r.e.light) (n:Nat):∀ (w:World),n < rs.length→b < w.heap.size→(∀ (i:Nat) (h:i < rs.length),sP w b (off + i * 5) rs[i])→(∀ r ∈ rs,r.ok w) →
  Calls prog 110 #[.slice (some ⟨b,off,none⟩) rs.length cap,.int .i64 (n:Int)] w fun e w'=>e=.returned (.int .i64 (ak (ah rs) n))∧Below w.heap.size w w':=by
 induction n using Nat.strongRecOn with
 | ind n ih =>
  intro w hn hb hr hok
  have IH:Hid (∀ m,m < n→∀ (w:World),m < rs.length→b < w.heap.size→(∀ (i:Nat) (h:i < rs.length),sP w b (off + i * 5) rs[i])→(∀ r ∈ rs,r.ok w) →
   Calls prog 110 #[.slice (some ⟨b,off,none⟩) rs.length cap,.int .i64 (m:Int)] w fun e w'=>e=.returned (.int .i64 (ak (ah rs) m))∧Below w.heap.size w w'):=ih
  have HR:Hid (∀ (i:Nat) (h:i < rs.length),sP w b (off + i * 5) rs[i]):=hr;have HO:=aC hok;obtain ⟨t0,t1,t2,t3,t4⟩:=hr n hn;obtain ⟨l1,l2⟩:=hl rs[n] (RY hn);have hn1:=bn n;have hn2:(n:Int) < (rs.length:Int):=by omega
  have HT:Hid (ak (ah rs) n=dA (dI (ah rs) n) rs[n].e.kids.reverse ((n:Int) - 1)):=by show _=_; rw [j5,mZ rs n hn]
  have HL:=aC hl;clear ih hr hok hl l1;go_enter func110,ntmps110;go_wp2_with fail;go_loopw [5,6] (fun a i wr=>∃ (j:Nat) (x:Int),j≤rs[n].e.kids.length∧i=.int .i64 ((j:Int) - 1)∧a=.int .i64 x∧-1≤x∧x < n∧Hid (dA (dI (ah rs) n) (rs[n].e.kids.take j).reverse x=ak (ah rs) n)∧Below w.heap.size w wr) (fun _ i _=>(intOf i + 1).toNat);case atStart=>exact ⟨rs[n].e.kids.length,(n:Int) - 1,R4 _,rfl,rfl,by omega,by omega,(by show _=_; rw [Sc]; exact HT.out.symm),R3 _ _⟩
  case round =>
   obtain ⟨j,x,hj,rfl,rfl,hx0,hx1,HG,hB⟩:=hrel;have s4:=kept hB hb t4;by_cases hj0:0 < j
   ·obtain ⟨j,rfl⟩:∃ i,j=i + 1:=⟨j - 1,by omega⟩;have hjl:j < rs[n].e.kids.length:=by omega
    rcases (HO.out rs[n] (RY hn)).2.below hB with hnil | ⟨bk,offk,Wz,hbk,Xg⟩
    ·rw [hnil] at hjl; simp at hjl
    rw [Wz] at s4;have k0:=Xg j hjl;clear Xg;have hji:((j + 1:Nat):Int) - 1=(j:Int):=by omega
    have hj1:=bn j;have hj2:(j:Int) < (rs[n].e.kids.length:Int):=by omega
    have HG2:Hid ((if x < 0 ∨ rs[n].e.kids[j] ≠ x then -1 else if dI (ah rs) n x < 0 then -1 else dA (dI (ah rs) n) (rs[n].e.kids.take j).reverse (dI (ah rs) n x - 1))=ak (ah rs) n):=by
     have:=HG.out;rw [R5 hjl,List.reverse_append] at this;exact this
    rw [hji];clear HG Wz t0 t1 t2 t3 t4;by_cases hxn:x < 0
    ·have HT1:Hid (ak (ah rs) n=-1):=by show _=_; rw [← HG2.out,if_pos (Or.inl hxn)]
     go_wp2;go_ret;exact ⟨by rw [HT1.out]; rfl,hB⟩
    by_cases hkx:rs[n].e.kids[j]=x
    ·obtain ⟨m,rfl⟩:∃ m:Nat,x=(m:Int):=⟨x.toNat,by omega⟩;have hF:dI (ah rs) n (m:Int)=ak (ah rs) m:=by unfold dI; rw [if_pos ⟨by omega,by simp; omega⟩]; simp
     have HF:Hid (dI (ah rs) n (m:Int)=ak (ah rs) m):=hF;have hle:=fJ (ah rs) m;clear hF;go_wp2_with fail;refine (IH.out m (by omega) _ (by omega) (RZ hb hB.size) (fun i hi=>(HR.out i hi).same fun o=>hB.cell (p:=⟨b,o,none⟩) hb) (fun r hr=>(HO.out r hr).below hB)).mono ?_;rintro e w1 ⟨rfl,hb1⟩;have hB1:Below w.heap.size w w1:=hB.trans (hb1.mono hB.size);clear hb1;by_cases hneg:ak (ah rs) m < 0
     ·have HT1:Hid (ak (ah rs) n=-1):=by show _=_; rw [← HG2.out,if_neg (by omega),HF.out,if_pos hneg]
      go_wp2;go_ret;exact ⟨by rw [HT1.out]; rfl,hB1⟩
     ·have UZ:Hid (dA (dI (ah rs) n) (rs[n].e.kids.take j).reverse (ak (ah rs) m - 1)=ak (ah rs) n):=by
       show _=_;rw [← HG2.out,if_neg (by omega),HF.out,if_neg hneg]
      go_wp2;go_roundw;case rel=>exact ⟨j,ak (ah rs) m - 1,by omega,by go_num,rfl,by omega,by omega,UZ,hB1⟩
      case measure=>simp [intOf] <;> omega
    ·have HT1:Hid (ak (ah rs) n=-1):=by show _=_; rw [← HG2.out,if_pos (Or.inr hkx)]
     go_wp2;go_ret;exact ⟨by rw [HT1.out]; rfl,hB⟩
   ·obtain rfl:j=0:=by omega
    have HT1:Hid (ak (ah rs) n=x + 1):=by show _=_; have:=HG.out; simp [dA] at this; exact this.symm
    clear HG t0 t1 t2 t3 t4;go_wp2;go_ret;exact ⟨by rw [HT1.out]; rfl,hB⟩
theorem sP.later {w w':World} {b off:Nat} {r:ER} (h:sP w b off r) (hb:b < w.heap.size) (hB:Below w.heap.size w w'):sP w' b off r:=h.same fun o=>hB.cell (p:=⟨b,o,none⟩) hb
theorem Bz {es:List Ex} (h:¬ (1≤es.length∧es.length≤15)):aU es=false:=by
 unfold aU;by_cases h1:1≤es.length
 ·have h2:¬ es.length≤15:=fun h2=>h ⟨h1,h2⟩;simp [h2]
 ·simp [h1]
theorem Ib {es:List Ex} (k:Nat) (h:k < es.length) (hb:az es[k]=false):aU es=false:=by simp [aU,Az es k h hb]
theorem Ic {es:List Ex} (k:Nat) (h:k < es.length) (hb:ll es k=false):aU es=false:=by simp [aU,LZ es k h hb]
def ni (zs:List Int) (i j:Nat):Bool:=(zs.take j).all fun k=>decide (0≤k) && decide (k≤(i:Int) - 1)
theorem C9 (zs:List Int) (i j:Nat) (h:j < zs.length):ni zs i (j + 1)=(ni zs i j && (decide (0≤zs[j]) && decide (zs[j]≤(i:Int) - 1))):=by
 unfold ni; rw [R5 h,List.all_append]; simp
theorem Fh (zs:List Int) (i j:Nat) (h:j < zs.length) (hb:(decide (0≤zs[j]) && decide (zs[j]≤(i:Int) - 1))=false):(zs.all fun k=>decide (0≤k) && decide (k≤(i:Int) - 1))=false:=by
 rw [Bool.eq_false_iff]; intro h2; rw [Sg] at h2; have:=h2 zs[j] (RY h); rw [hb] at this; cases this
set_option maxRecDepth 4000 in
theorem yV (b off cap:Nat) (rs:List ER) (w:World) (hlen:rs.length≤1048576) (hl:∀ r ∈ rs,r.e.light) (hf:∀ r ∈ rs,r.e.fits) (hb:b < w.heap.size) (hr:∀ (i:Nat) (h:i < rs.length),sP w b (off + i * 5) rs[i]) (hok:∀ r ∈ rs,r.ok w) :
  Calls prog 78 #[.slice (some ⟨b,off,none⟩) rs.length cap] w fun e w'=>e=.returned (.bool (aU (ah rs)))∧Below w.heap.size w w':=by
 have hel:=aJ rs;have UO:Hid ((ah rs).length=rs.length):=hel;have HL:=aC hl;have HF:=aC hf;have HR:Hid (∀ (i:Nat) (h:i < rs.length),sP w b (off + i * 5) rs[i]):=hr;have HO:=aC hok;clear hel hl hf hr hok;by_cases hn:1≤rs.length∧rs.length≤15
 ·obtain ⟨hn1,hn2⟩:=hn;go_enter func78,ntmps78;go_wp2_with fail;go_loopw [3,4] (fun o i wr=>∃ k:Nat,k≤rs.length∧i=.int .i64 k∧o=.int .i64 (fF (ah rs) k:Nat)∧Hid (iV (ah rs) k=true∧iW (ah rs) k=true)∧Below w.heap.size w wr) (fun _ i _=>rs.length - (intOf i).toNat);case atStart=>exact ⟨0,R6 _,rfl,rfl,⟨by simp [iV],by simp [iW]⟩,R3 _ _⟩
  case round =>
   obtain ⟨k,hk,rfl,rfl,HU,hB⟩:=hrel;by_cases hlt:k < rs.length
   ·have Vd:k < (ah rs).length:=by rw [UO.out]; exact hlt
    have hek:(ah rs)[k]=rs[k].e:=by simp [ah]
    have HEK:Hid ((ah rs)[k]=rs[k].e):=hek;obtain ⟨t0,t1,t2,t3,t4⟩:=(HR.out k hlt).later hb hB;clear hek;have hk1:=bn k;have hk2:(k:Int) < (rs.length:Int):=by omega
    have hol:=qY (ah rs) k;go_wp2_with fail;refine (Co rs[k] _ (HF.out _ (RY hlt)) ((HO.out _ (RY hlt)).below hB)).mono ?_;rintro e w1 ⟨rfl,hb1⟩;cases UN:az rs[k].e with
    | false =>
     have HN:Hid (aU (ah rs)=false):=Ib k Vd (by rw [HEK.out]; exact UN);go_wp2;go_ret;exact ⟨by rw [HN.out]; rfl,hB.trans (hb1.mono hB.size)⟩
    | true =>
     have hB1:Below w.heap.size w w1:=hB.trans (hb1.mono hB.size);have hbw:b < wr.heap.size:=RZ hb hB.size;replace t0:=kept hb1 hbw t0;replace t4:=kept hb1 hbw t4;have hbw1:b < w1.heap.size:=RZ hbw hb1.size;clear t1 t2 t3 hb1 hB hbw;go_wp2_with fail;go_loopw [5] (fun i w2=>∃ j:Nat,j≤rs[k].e.kids.length∧i=.int .i64 j∧Hid (ni rs[k].e.kids k j=true)∧w2=w1) (fun i _=>rs[k].e.kids.length - (intOf i).toNat);case atStart=>exact ⟨0,R6 _,rfl,(by show _=_; simp [ni]),rfl⟩
     case round =>
      obtain ⟨j,hj,rfl,HP,rfl⟩:=hrel;by_cases hjl:j < rs[k].e.kids.length
      ·rcases (HO.out rs[k] (RY hlt)).2.below hB1 with hnil | ⟨bk,offk,Wz,hbk,Xg⟩
       ·rw [hnil] at hjl; simp at hjl
       have t4':=t4;rw [Wz] at t4';have k0:=Xg j hjl;have hj1:=bn j;have hj2:(j:Int) < (rs[k].e.kids.length:Int):=by omega
       obtain ⟨-,lk⟩:=HL.out rs[k] (RY hlt);clear Xg Wz t4;go_wp2_with fail;refine (Mv _ _ _ _).mono ?_;rintro e w' ⟨rfl,rfl⟩;cases hin:(decide (0≤rs[k].e.kids[j]) && decide (rs[k].e.kids[j]≤(k:Int) - 1)) with
       | false =>
        have HN:Hid (aU (ah rs)=false):=Ic k Vd (by unfold ll; rw [mZ rs k hlt]; exact Fh _ k j hjl hin);go_wp2;go_ret;exact ⟨by rw [HN.out]; rfl,hB1⟩
       | true =>
        have Td:Hid (ni rs[k].e.kids k (j + 1)=true):=by show _=_; rw [C9 _ _ _ hjl,HP.out,hin]; rfl
        go_wp2;go_roundw;case rel=>exact ⟨j + 1,by omega,by go_num,Td,by first | rfl | trivial⟩
        case measure=>simp [intOf] <;> omega
      ·obtain rfl:j=rs[k].e.kids.length:=by omega
       have Xh:Hid (iV (ah rs) (k + 1)=true∧iW (ah rs) (k + 1)=true):=by
        refine ⟨?_,?_⟩
        ·rw [qZ _ _ Vd,HU.out.1,HEK.out,UN]; rfl
        ·rw [DU,HU.out.2];unfold ll;rw [mZ rs k hlt];have:=HP.out;unfold ni at this;rw [Sc] at this;rw [this]; rfl
       have HOW:Hid (fF (ah rs) (k + 1)=fF (ah rs) k + (if rs[k].e.kind=1 then 1 else 0)):=by show _=_; rw [xJ _ _ Vd,HEK.out]
       by_cases YU:rs[k].e.kind=1
       ·have WU:Hid (fF (ah rs) (k + 1)=fF (ah rs) k + 1):=by show _=_; rw [HOW.out,if_pos YU]
        clear HOW;go_wp2;go_roundw;case rel=>exact ⟨k + 1,by omega,by go_num,by rw [WU.out]; go_num,Xh,hB1⟩
        case measure=>simp [intOf] <;> omega
       ·have WU:Hid (fF (ah rs) (k + 1)=fF (ah rs) k):=by show _=_; rw [HOW.out,if_neg YU]; rfl
        clear HOW;go_wp2;go_roundw;case rel=>exact ⟨k + 1,by omega,by go_num,by rw [WU.out],Xh,hB1⟩
        case measure=>simp [intOf] <;> omega
   ·obtain rfl:k=rs.length:=by omega
    have HN:Hid ((ah rs).all az=true):=by
     have:=HU.out.1;unfold iV at this;rwa [← UO.out,Sc] at this
    have HKU:Hid (iW (ah rs) rs.length=true):=HU.out.2;have HOW:Hid (fF (ah rs) rs.length=own (ah rs)):=by show _=_; unfold fF; rw [← UO.out,Sc]
    have hol:=qY (ah rs) rs.length;by_cases ho:fF (ah rs) rs.length≤1
    ·have HS:Hid (aU (ah rs)=decide (ak (ah rs) (rs.length - 1)=0)):=by
      show _=_;have h1:own (ah rs)≤1:=by rw [← HOW.out]; exact ho
      have e1:=UO.out;unfold aU;rw [e1,HN.out,HKU.out];simp [h1,hn1,hn2]
     have hcast:((rs.length:Int) - 1)=((rs.length - 1:Nat):Int):=by omega
     have Yu:Hid (((rs.length:Int) - 1)=((rs.length - 1:Nat):Int)):=hcast;clear hcast;go_wp2_with fail;rw [Yu.out];refine (Ia b off cap rs hlen HL.out (rs.length - 1) _ (by omega) (RZ hb hB.size) (fun i hi=>(HR.out i hi).later hb hB) (fun r hr=>(HO.out r hr).below hB)).mono ?_;rintro e w1 ⟨rfl,hb1⟩;go_wp2;go_ret;exact ⟨by rw [HS.out]; exact af (by rw [Bool.eq_iff_iff]; simp),hB.trans (hb1.mono hB.size)⟩
    ·have HS:Hid (aU (ah rs)=false):=by
      show _=_;have h1:¬ own (ah rs)≤1:=by rw [← HOW.out]; exact ho
      simp [aU,h1]
     go_wp2;go_ret;exact ⟨by rw [HS.out]; rfl,hB⟩
 ·have HN:Hid (aU (ah rs)=false):=Bz (by rw [UO.out]; exact hn);go_enter func78,ntmps78;go_wp2_with fail
  all_goals go_ret
  all_goals exact ⟨by rw [HN.out]; rfl,R3 _ _⟩
theorem yX (ad:Option Addr) (cap:Nat) (rs:List ER) (w:World) (hlen:rs.length≤1048576) (hl:∀ r ∈ rs,r.e.light) (hf:∀ r ∈ rs,r.e.fits) (hs:eX w ad rs) :
  Calls prog 78 #[.slice ad rs.length cap] w fun e w'=>e=.returned (.bool (aU (ah rs)))∧Below w.heap.size w w':=by
 rcases hs with rfl | ⟨b,off,rfl,hb,hr,hok⟩
 ·go_enter func78,ntmps78;go_wp2_with fail;go_ret;exact ⟨rfl,R3 _ _⟩
 ·exact yV b off cap rs w hlen hl hf hb hr hok
end Go.Proofs.YtdaoiceeidoehaaGreat
