/- All facts as the program finds them: stratum by stratum, rounds over fewer and fewer users. -/
import Derived.Test.YtdmniljjnaebbaaGreatDoorJ33
import Derived.Sort.Grow
open Go.Proofs.Tryz
set_option maxHeartbeats 80000000
namespace Go.Proofs.YtdmniljjnaebbaaGreatDoor
set_option linter.unusedVariables false
set_option maxRecDepth 100000
open Go.ChangeShapes Go.WideShapes Go.ChangeAt Go.RowKit Go.Maps Go.Shelf
open Pl
attribute [local go_sem] Oper.semAt_some
def Bz (X:World) (B:Nat):Nat:=match X.cell? ⟨B,0,none⟩ with
 | some x=>M4 x
 | none=>0
theorem BA {X:World} {B n c:Nat} {ad:Option Addr} {T:TypeId} (h:fw X B (.slice ad n c) T):Bz X B=n:=by
 unfold Bz; rw [h.c]; rfl
section
variable [DecidableEq Fc]
theorem IP (w:World) (rs:List TR) (adS:Option Addr) (D br bp bt:Nat) (N:Nat) (nr:Nat) (Mr:KL→Option Value) (st:ByteArray × ByteArray→Int) (ts:List Tp) (xo xu:List Al) (np:Nat) (Mp:K3→Option Value) (vo vu:Value) (hD:DatA w rs D br bp bt (N:Int) nr Mr (dG st rs) (cZ ts) xo xu np Mp vo vu) (hs:fo w adS rs) (hN:N≤1000) (hol:xo.length≤80) (hul:xu.length≤40) (hE:(ai (af rs)).length≤36) (hrl:∀ k,(G.lookL (dG st rs) k).length≤1000) (hsh:aY (af rs)=true) (hts:∀ t ∈ ts,t.fits) (htl:ts.length≤1000) (hof:∀ o ∈ xo,o.t.size≤maxLen∧o.s.size≤maxLen) (huf:∀ o ∈ xu,o.t.size≤maxLen∧o.s.size≤maxLen) (hrf:∀ k ∈ ai (af rs),k.2.size≤maxLen) :
  Calls prog 60 #[.pointer (some ⟨D,0,none⟩)] w fun e w'=>(∃ v,e=.returned v∧w'.ownsRow w.heap.size 63 5 v (jR (af rs) ts st xo xu N).length (dQ (jR (af rs) ts st xo xu N)))∧Below w.heap.size w w':=by
 obtain ⟨iF,z0,z1,z2,z3⟩:=Gj;obtain ⟨W0,hW0⟩:∃ W0,W0=((w.alloc (.cells #[.slice none 0 0] 33)).alloc (.map #[] 0)).alloc (.cells #[.map (some (w.heap.size + 1))] 114):=⟨_,rfl⟩;obtain ⟨adO,capO,rfl,-⟩:=jg hD.dat.objs;have hlD:=hD.dat.lt;have d1:=hD.dat.c1;have h00:FoW w W0 (.slice none 0 0) []∧fw W0 (w.heap.size + 1 + 1) (.map (some (w.heap.size + 1))) 114:=by
  obtain ⟨V1,e1⟩:∃ V,V=w.alloc (.cells #[.slice none 0 0] 33):=⟨_,rfl⟩;obtain ⟨V2,e2⟩:∃ V,V=V1.alloc (.map #[] 0):=⟨_,rfl⟩;rw [← e1,← e2] at hW0;have t1:V1.heap.size=w.heap.size + 1:=by rw [e1,World.size_alloc]
  have t2:V2.heap.size=w.heap.size + 1 + 1:=by rw [e2,World.size_alloc,t1]
  have f1:Below w.heap.size w V1:=by rw [e1]; exact (Below.refl _ _).alloc (Nat.le_refl _) _
  have f2:Below V1.heap.size V1 V2:=by rw [e2]; exact (Below.refl _ _).alloc (Nat.le_refl _) _
  have f3:Below V2.heap.size V2 W0:=by rw [hW0]; exact (Below.refl _ _).alloc (Nat.le_refl _) _
  have f12:Below w.heap.size w V2:=f1.trans (f2.mono f1.size);have g1:fw V1 w.heap.size (.slice none 0 0) 33:=by rw [e1]; exact World.alloc_heap_new w _
  have g2:aD kD prog 63 V2 (w.heap.size + 1) 0 (fun _=>none):=by
   have:=kJ kD prog 63 V1;rw [← e2,t1] at this; exact this
  have g3:fw W0 (w.heap.size + 1 + 1) (.map (some (w.heap.size + 1))) 114:=by rw [hW0,← t2]; exact World.alloc_heap_new V2 _
  have ek:yH []=fun _=>none:=rfl;exact ⟨⟨f12.trans (f3.mono f12.size),(g1.bel f2).bel f3,World.ownsRow_nil _ _ _ _,by rw [ek]; exact g2.below f3⟩,g3⟩
 have hmm:=@run_makeMap prog;have hl1:D < w.heap.size + 1:=by omega
 have hl2:D < w.heap.size + 1 + 1:=by omega
 refine (callsIn_wide (n:=12)).1 ?_;refine callsIn_of_wp_marks func60 rfl trivial ?_ rfl;simp only [ntmps60,List.size_toArray,List.length_cons,List.length_nil,Nat.reduceAdd,Nat.reduceSub,Array.replicate_succ,Array.replicate_zero,List.push_toArray,List.append_toArray,List.nil_append,List.cons_append];gi_wp2;rw [← hW0];clear hW0 hmm;obtain ⟨H,hH⟩:∃ H,H=gI (af rs) ts:=⟨_,rfl⟩;obtain ⟨A,hA⟩:∃ A:Nat→List Fc,A=jR (af rs) ts st xo xu:=⟨_,rfl⟩;obtain ⟨Q,hQ⟩:∃ Q:Nat→List Fc,Q=fun (n:Nat)=>bQ (af rs) st xo xu (n:Int):=⟨_,rfl⟩;have hA1:∀ n,A (n + 1)=lW H (Q n) (A n):=fun n=>by rw [hA,hH,hQ]; exact iU _ _ _ _ _ _
 have hAG:∀ n,GoodO (af rs) xo xu (A n):=fun n=>by rw [hA]; exact nH _ _ _ _ _ n
 have hA0:A 0=[]:=by rw [hA]; rfl
 have hAN:jR (af rs) ts st xo xu N=A N:=by rw [hA]
 refine wpIn_loop (fun a' X=>∃ (q:Nat) (rl:List Nat) (v:Value) (u5 u6 u7 u8 u15 u16 u17 u18 u19 u20 u21 u22 u23 u24 u25 u26 u27 u28 u29 u30 u31 u32 u33 u34 u35 u36 u37 u38 u39 u40 u41 u42 u43 u44:Value),a'={ tmps:=List.toArray (.pointer (some ⟨D,0,none⟩)::undef::.slice none 0 0::.pointer (some ⟨w.heap.size,0,none⟩)::.pointer (some ⟨w.heap.size + 1 + 1,0,none⟩)::u5::u6::u7::u8::.map (some (w.heap.size + 1))::.pointer (some ⟨D,0,none⟩)::.pointer (some ⟨D,0,none⟩)::.pointer (some ⟨D,1,none⟩)::.int .i64 (N:Int)::.int .i64 (q:Int)::u15::u16::u17::u18::u19::u20::u21::u22::u23::u24::u25::u26::u27::u28::u29::u30::u31::u32::u33::u34::u35::u36::u37::u38::u39::u40::u41::u42::u43::u44::undef::[]),defers:=marks rl }∧q≤N∧FoW w X v (A q)∧fw X (w.heap.size + 1 + 1) (.map (some (w.heap.size + 1))) 114∧gJ X rl∧(∀ r ∈ rl,w.heap.size + 1 + 1 < r)) (fun a' _=>N - (intOf (a'.tmps.getD 14 undef)).toNat) ⟨0,[],.slice none 0 0,_,_,_,_,_,_,_,_,_,_,_,_,_,_,_,_,_,_,_,_,_,_,_,_,_,_,_,_,_,_,_,_,_,_,rfl,Nat.zero_le _,by rw [hA0]; exact h00.1,h00.2,⟨List.nodup_nil,fun r hr=>by cases hr⟩,fun r hr=>by cases hr⟩ ?_;rintro a1 X ⟨q,rl,v,u5,u6,u7,u8,u15,u16,u17,u18,u19,u20,u21,u22,u23,u24,u25,u26,u27,u28,u29,u30,u31,u32,u33,u34,u35,u36,u37,u38,u39,u40,u41,u42,u43,u44,rfl,hq,hF,hB,hMk,hMn⟩;clear h00;by_cases hlq:q < N
 ·have hDX:=hD.below hF.bel;have d5:=hDX.dat.c5;have d5l:=hDX.dat.lt;obtain ⟨adV,capV,rfl,-⟩:=jg hDX.dat.users;gi_wp2;refine wpIn_loop (fun a' X=>∃ (us:List Al) (adU:Option Addr) (capU:Nat) (out:List Fc) (rl:List Nat) (v:Value) (base:Nat) (u7 u8 u21 u22 u23 u24 u25 u26 u27 u28 u29 u30 u31 u32 u33 u34 u35 u36 u37 u38 u39 u40 u41 u42 u43 u44:Value),a'={ tmps:=List.toArray (.pointer (some ⟨D,0,none⟩)::undef::.slice none 0 0::.pointer (some ⟨w.heap.size,0,none⟩)::.pointer (some ⟨w.heap.size + 1 + 1,0,none⟩)::.int .i64 (q:Int)::.slice adU us.length capU::u7::u8::.map (some (w.heap.size + 1))::.pointer (some ⟨D,0,none⟩)::.pointer (some ⟨D,0,none⟩)::.pointer (some ⟨D,1,none⟩)::.int .i64 (N:Int)::.int .i64 (q:Int)::.bool true::.int .i64 (q:Int)::.pointer (some ⟨D,0,none⟩)::.pointer (some ⟨D,0,none⟩)::.pointer (some ⟨D,5,none⟩)::.slice adV xu.length capV::u21::u22::u23::u24::u25::u26::u27::u28::u29::u30::u31::u32::u33::u34::u35::u36::u37::u38::u39::u40::u41::u42::u43::u44::undef::[]),defers:=marks rl }∧FewA (af rs) ts st xo xu (q:Int) us out∧lW H (Q q) out=A (q + 1)∧GoodO (af rs) xo xu out∧FoW w X v out∧fw X (w.heap.size + 1 + 1) (.map (some (w.heap.size + 1))) 114∧gJ X rl∧(∀ r ∈ rl,w.heap.size + 1 + 1 < r)∧X.ownsRow base 40 2 (.slice adU us.length capU) us.length (pairs us)∧us.length≤40∧∀ o ∈ us,o.t.size≤maxLen∧o.s.size≤maxLen) (fun a' Y=>2 * (200000 - Bz Y w.heap.size) + min 1 (M4 (a'.tmps.getD 6 undef))) ⟨xu,adV,capV,A q,rl,v,bp + 1,_,_,_,_,_,_,_,_,_,_,_,_,_,_,_,_,_,_,_,_,_,_,_,_,_,_,rfl,FewA.start _,(hA1 q).symm,hAG q,hF,hB,hMk,hMn,hDX.dat.users,hul,huf⟩ ?_;clear hDX d5 d5l hF hB hMk hMn;rintro a2 X2 ⟨us,adU,capU,out,rl2,v2,base,u7,u8,u21,u22,u23,u24,u25,u26,u27,u28,u29,u30,u31,u32,u33,u34,u35,u36,u37,u38,u39,u40,u41,u42,u43,u44,rfl,hFew,hLim,hG,hF2,hB2,hMk2,hMn2,hU,hul2,huf2⟩;obtain ⟨adF,capF,rfl,-⟩:=oW hF2.row;have hmu:=BA hF2.box;have hout:=hG.len hol hE hul;by_cases hne:us=[]
  ·subst hne;have hAq:A (q + 1)=out:=by rw [← hLim,hH,hQ]; exact hFew.done
   have hF3:FoW w X2 (.slice adF out.length capF) (A (q + 1)):=by rw [hAq]; exact hF2
   gi_wp2;exact ⟨⟨q + 1,rl2,_,_,_,_,_,_,_,_,_,_,_,_,_,_,_,_,_,_,_,_,_,_,_,_,_,_,_,_,_,_,_,_,_,_,_,rfl,by omega,hF3,hB2,hMk2,hMn2⟩,by simp [intOf]; omega⟩
  ·have hpos:0 < us.length:=by cases us with | nil=>exact absurd rfl hne | cons a l=>simp
   have hposI:(0:Int) < (us.length:Int):=by omega
   have bc:=hF2.box.c;have kc:=hB2.c
   gi_wp2_with fail
   refine ⟨trivial,(callsIn_wide.2 (Bw D (q:Int) adU us.length capU (w.heap.size + 1) X2)).mono ?_⟩;rintro e X3 ⟨rfl,hX3⟩;obtain ⟨hBX,hb23,hs3⟩:=Ma X2 D (q:Int) (.slice adU us.length capU) (w.heap.size + 1) hX3;have hF3:=hF2.below hb23;have hU3:=aH hU hb23;have hB3:=hB2.bel hb23;have hMk3:=hMk2.bel hb23;have hsB:w.heap.size + 1 + 1 < X2.heap.size:=(Array.getElem?_eq_some_iff.1 hB2).1;clear hX3 bc kc;gi_wp2
   refine nA (α:=Fc) rfl (by omega) (gf:=132) (lb:=#[.pointer (some ⟨X2.heap.size,0,none⟩),.pointer (some ⟨X2.heap.size + 1,0,none⟩),.pointer (some ⟨X2.heap.size + 1 + 1,0,none⟩),.pointer (some ⟨X2.heap.size + 1 + 1 + 1,0,none⟩)]) rfl trivial (enters_of func132 (by kernel_rfl) rfl)
    (IK 11 (by omega) rs adS D br bp bt (N:Int) nr Mr st ts adO capO xo xu np Mp (.slice adV xu.length capV) (w.heap.size + 1) out X2.heap.size (X2.heap.size + 1) (X2.heap.size + 1 + 1) (X2.heap.size + 1 + 1 + 1) (q:Int) adU capU us X3 (by omega) (by omega) (by omega) (by omega) hrl hsh hts htl hof huf2 hrf) (Below.refl _ _) (fun _=>rfl) (fun h k=>h.trans k) (fun Y lx o o' h1 h2=>KpO.put h1 h2)
    (fun pre Y=>∃ v',FoW w Y v' (out ++ pre)∧KpO (w.heap.size + 1) X3.heap.size X3 Y∧GoodO (af rs) xo xu (out ++ pre))
    ?own ?tell ⟨_,by rw [List.append_nil]; exact hF3,KpO.below (Below.refl _ _),by rw [List.append_nil]; exact hG⟩
    (fun x a' Y=>∃ Bx,oG Y Bx x∧a'={ tmps:=List.toArray (.pointer (some ⟨D,0,none⟩)::undef::.slice none 0 0::.pointer (some ⟨w.heap.size,0,none⟩)::.pointer (some ⟨w.heap.size + 1 + 1,0,none⟩)::.int .i64 (q:Int)::.slice adU us.length capU::.int .i64 (out.length:Int)::.pointer (some ⟨Bx,0,none⟩)::.map (some (w.heap.size + 1))::.pointer (some ⟨D,0,none⟩)::.pointer (some ⟨D,0,none⟩)::.pointer (some ⟨D,1,none⟩)::.int .i64 (N:Int)::.int .i64 (q:Int)::.bool true::.int .i64 (q:Int)::.pointer (some ⟨D,0,none⟩)::.pointer (some ⟨D,0,none⟩)::.pointer (some ⟨D,5,none⟩)::.slice adV xu.length capV::.slice adU us.length capU::.int .i64 (us.length:Int)::.bool true::.slice adF out.length capF::.int .i64 (out.length:Int)::.pointer (some ⟨D,0,none⟩)::.int .i64 (q:Int)::.slice adU us.length capU::.map (some (w.heap.size + 1))::.func (.func 132) #[] #[.pointer (some ⟨X2.heap.size,0,none⟩),.pointer (some ⟨X2.heap.size + 1,0,none⟩),.pointer (some ⟨X2.heap.size + 1 + 1,0,none⟩),.pointer (some ⟨X2.heap.size + 1 + 1 + 1,0,none⟩)]::.agg #[.string x.a,.string x.b,.string x.r,.string x.c,.string x.d]::u32::u33::u34::u35::u36::u37::u38::u39::u40::u41::u42::u43::u44::undef::[]),defers:=[] })
    (fun x a' s Y Z row hs hg hr=>by obtain ⟨Bx,h,e⟩:=hs; exact ⟨Bx,DD (B0:=X3.heap.size) (g:=Bx) (x:=x) () Y Z row h hg hr,e⟩) ?assign ?body ?done
   case own =>
    intro pre Y Z row hs hg hr;obtain ⟨v',h1,h2,h3⟩:=hs;exact ⟨v',h1.kept hg fun r e=>⟨by have:=(hr r e).1; omega,(hr r e).2⟩,Mc (β:=Unit) () Y Z row h2 hg hr,h3⟩
   case tell =>
    rintro pre Y ⟨v',h1,h2,h3⟩;have hb:=hBX.kp h2;obtain ⟨ad2,cap2,e,hsa⟩:=jg (Gt hU3 h2 (by decide) (by decide));injection e with ea eb ec;exact ⟨hD.below h1.bel,hs.below h1.bel,⟨_,h1.map⟩,hb.d.c,hb.s.c,hb.u.c,hb.k.c,by rw [ea]; exact hsa⟩
   case assign =>
    rintro l' pre x Y K ⟨v',h1,h2,h3⟩ hKK;unfold zY;gi_wp2;have hbl:Below Y.heap.size Y (Y.alloc (.cells #[.string x.a,.string x.b,.string x.r,.string x.c,.string x.d] 63)):=(Below.refl _ _).alloc (Nat.le_refl _) _;exact hKK _ _ ((KeepsOthers.alloc _ _).from _) (KpO.below hbl) ⟨v',h1.below hbl,h2.trans (KpO.below hbl),h3⟩ ⟨Y.heap.size,World.alloc_heap_new Y _,rfl⟩
   case body =>
    rintro l' pre x a' Y hl ⟨hEx,hnew⟩ ⟨v',hFY,hKY,hGY⟩ ⟨Bx,bX,rfl⟩;obtain ⟨hkey,hxf⟩:=DF hof huf2 hrf hEx;obtain ⟨kl,hkl⟩:=De x hxf;obtain ⟨c0,c1,c2,c3,c4,cl⟩:=bX.c;have hGX:GoodO (af rs) xo xu (out ++ (pre ++ [x])):=by
     refine ⟨?_,fun g hg=>?_⟩
     ·rw [← List.append_assoc];exact List.nodup_append.2 ⟨hGY.once,by simp,fun a ha b hb e=>by
       rw [List.mem_singleton] at hb;rw [← hb,← e] at hnew;exact hnew ha⟩
     ·rw [← List.append_assoc] at hg;rcases List.mem_append.1 hg with hg | hg
      ·exact hGY.sub g hg
      ·rw [List.mem_singleton] at hg;subst hg;unfold bQ uH at hEx;obtain ⟨o,ho,h1⟩:=List.mem_flatMap.1 hEx;obtain ⟨k,hk,h1⟩:=List.mem_flatMap.1 h1;obtain ⟨u,hu,e⟩:=List.mem_map.1 h1;have hux:u ∈ xu:=by rw [hFew.sub] at hu; exact (List.mem_filter.1 hu).1
       exact List.mem_flatMap.2 ⟨o,ho,List.mem_flatMap.2 ⟨k,(List.mem_filter.1 hk).1,List.mem_map.2 ⟨u,hux,e⟩⟩⟩
    have hlen:=hGX.len hol hE hul;rw [← List.append_assoc,List.length_append,List.length_singleton] at hlen;obtain ⟨os,hos⟩:∃ os,os=out ++ pre:=⟨_,rfl⟩;rw [← hos] at hFY hlen;have HOS:=ay hos;clear hos;have kc:=(hB3.kp hKY (by decide) (by decide)).c;have kl2:=aA kc;obtain ⟨adY,capY,rfl,-⟩:=oW hFY.row;have hmap:=hFY.map;have bcY:=hFY.box.c;have hbxl:=aA bcY;have hblk:=hFY.box;obtain ⟨es,cc,hmb⟩:=lX hFY.map;have hne1:Bx ≠ w.heap.size + 1:=fun e=>by
     have h:=bX;unfold oG at h;rw [e,hmb] at h; cases h
    have hrow:=hFY.row;have hvB:(Value.slice adY os.length capY).ownBlock ≠ some w.heap.size:=fun e=>by have:=(hrow.lt _ e).1; omega
    have hvM:(Value.slice adY os.length capY).ownBlock ≠ some (w.heap.size + 1):=fun e=>Bo hrow e hmb;have hbYs:=hFY.bel.size
    gi_wp2_with (first
     | (gi_at_mapUpdate; refine uK _ rfl _ _ _ 114 rfl 63 178 Ki Kg underlying114 (w.heap.size + 1) _ _ rfl hmap (by unfold maxLen; omega) x kl rfl hkl (.agg #[]) rfl ?_; intro Y1 hM1 hg1; have q0:=(je hg1 ⟨cl,hne1⟩ 0).trans c0; have q1:=(je hg1 ⟨cl,hne1⟩ 1).trans c1; have q2:=(je hg1 ⟨cl,hne1⟩ 2).trans c2; have q3:=(je hg1 ⟨cl,hne1⟩ 3).trans c3; have q4:=(je hg1 ⟨cl,hne1⟩ 4).trans c4; have qb:=(je hg1 ⟨hbxl,Nat.ne_of_lt (Nat.lt_succ_self _)⟩ 0).trans bcY; have ql:=aA q0; have qbl:=aA qb; have hrow1:=hrow.kept hg1 (.inr hvM); have hYs1:=hg1.size)
     | (gi_at_builtin; refine wpListIn_append_own_at _ rfl _ _ 33 rfl (w.heap.size + 1) 63 iF (.agg #[.string ⟨#[]⟩,.string ⟨#[]⟩,.string ⟨#[]⟩,.string ⟨#[]⟩,.string ⟨#[]⟩]) 5 80 underlying33 z0 z1 z2 z3 rfl (by decide) _ os.length (dQ os) rfl (hrow1.alloc _) ⟨Y1.heap.size,0,none⟩ 1 1 x.row rfl rfl (MK Y1 x) (by simp [Fc.row,Value.oneCell']) (by unfold maxLen; omega) (by omega) (by simp; omega) ?_; intro v2 V hown hgr _ hat; obtain ⟨g2,cap2,rfl⟩:=ownsRow_succ hown; have HAT:=ay hat; clear hat; have hY2:Below Y1.heap.size Y1 (Y1.alloc (.cells #[.string x.a,.string x.b,.string x.r,.string x.c,.string x.d] 63)):=(Below.refl _ _).alloc (Nat.le_refl _) _; have hVb:=KP hblk hg1 hY2 hgr hvB; have vc:=hVb.c; have vf:=eZ hVb 0; have vl:=aA vc)
     | gi_in)
    obtain ⟨r1,r2,r3⟩:=FoW.step hFY hM1 hg1 hY2 hown hgr HAT.out l';have eos:out ++ (pre ++ [x])=os ++ [x]:=by rw [HOS.out,List.append_assoc]
    exact ⟨KQ r3 (by omega),r2,_,by rw [eos]; exact r1,hKY.after r2 hl,hGX⟩
   case done =>
    rintro Dd xs X5 hDd hS ⟨v5,hF5,hK5,hG5⟩ hKd;have hl5:=hG5.len hol hE hul;have hlx:(out ++ xs).length=out.length + xs.length:=List.length_append;have hxs:(out ++ xs).drop out.length=xs:=List.drop_left;obtain ⟨o5,ho5⟩:∃ o5,o5=out ++ xs:=⟨_,rfl⟩;rw [← ho5] at hF5 hG5 hl5 hlx hxs;have HO5:=ay ho5;have HXS:=ay hxs;have hFew5:=hFew.next (by rw [← hH] at hS ⊢; exact hS);have hLim5:lW H (Q q) o5=A (q + 1):=by
     rw [← hLim,← zJ (H:=H) (Q q) out];congr 1;rw [ho5,← hS,← hH,hQ,hH];exact hFew.round
    rw [← ho5] at hFew5;obtain ⟨adP,capP,rfl,hsF5⟩:=oW hF5.row;have bc5:=hF5.box.c;have bl5:=aA bc5;have i1:(0:Int)≤(out.length:Int):=by omega
    have i2:(out.length:Int)≤(o5.length:Int):=by omega
    have hcap5:o5.length≤capP:=Md hF5.row;have hU5:=Gt hU3 hK5 (by decide) (by decide);obtain ⟨ad2,cap2,eU,hsU5⟩:=jg hU5;injection eU with ea eb ec;rw [← ea] at hsU5;have hMk5:gJ X5 (Dd::rl2):=by
     have h1:=hMk3.kp hK5 (fun hm=>by have:=hMk3.lt hm; omega) (fun hm=>by have:=hMn2 _ hm; omega);refine ⟨List.nodup_cons.2 ⟨fun hm=>by have:=hMk3.lt hm; omega,h1.1⟩,fun r hr=>?_⟩;rcases List.mem_cons.1 hr with rfl | hr
     ·exact hKd
     ·exact h1.2 r hr
    have hMn5:∀ r ∈ Dd::rl2,w.heap.size + 1 + 1 < r:=fun r hr=>by
     rcases List.mem_cons.1 hr with rfl | hr
     ·omega
     ·exact hMn2 r hr
    have hkl:(dH us xs).length≤us.length:=z8 us xs;have hkz:xs.length=0→(dH us xs).length=0:=fun h=>by rw [List.length_eq_zero_iff.1 h,Fw]; rfl
    have hsx:∀ ad3,ad3=Option.map (fun x=>Addr.add x (out.length * 5)) adP→yh X5 ad3 xs:=fun ad3 e=>by
     rw [e,← HXS.out];exact yh.dropF hsF5 out.length
    clear ho5 hxs ea eb ec hS
    gi_wp2_with fail
    ·refine ⟨trivial,(callsIn_wide.2 (nG adU capU us adP 0 xs X5 (by omega) (by omega) hsU5 (.inl (List.length_eq_zero_iff.1 (by omega))))).mono ?_⟩;rintro e X6 ⟨⟨v6,rfl,hO6⟩,hb6⟩;have hml:Bz X6 w.heap.size=o5.length:=BA (hF5.below hb6).box;have hF6:=hF5.below hb6;have hB6:=(hB3.kp hK5 (by decide) (by decide)).bel hb6;obtain ⟨ad6,cap6,rfl,-⟩:=jg hO6;gi_wp2;exact ⟨⟨dH us xs,ad6,cap6,o5,Dd::rl2,_,X5.heap.size,_,_,_,_,_,_,_,_,_,_,_,_,_,_,_,_,_,_,_,_,_,_,_,_,_,_,rfl,hFew5,hLim5,hG5,hF6,hB6,hMk5.bel hb6,hMn5,hO6,by omega,fun o ho=>huf2 o (List.mem_filter.1 ho).1⟩,by
      show 2 * (200000 - Bz X6 w.heap.size) + min 1 (dH us xs).length < 2 * (200000 - Bz X2 w.heap.size) + min 1 us.length;rw [hml,hmu];omega⟩
    ·refine ⟨trivial,(callsIn_wide.2 (nG adU capU us _ _ xs X5 (by omega) (by omega) hsU5 (hsx _ rfl))).mono ?_⟩;rintro e X6 ⟨⟨v6,rfl,hO6⟩,hb6⟩;have hml:Bz X6 w.heap.size=o5.length:=BA (hF5.below hb6).box;have hF6:=hF5.below hb6;have hB6:=(hB3.kp hK5 (by decide) (by decide)).bel hb6;obtain ⟨ad6,cap6,rfl,-⟩:=jg hO6;gi_wp2;exact ⟨⟨dH us xs,ad6,cap6,o5,Dd::rl2,_,X5.heap.size,_,_,_,_,_,_,_,_,_,_,_,_,_,_,_,_,_,_,_,_,_,_,_,_,_,_,rfl,hFew5,hLim5,hG5,hF6,hB6,hMk5.bel hb6,hMn5,hO6,by omega,fun o ho=>huf2 o (List.mem_filter.1 ho).1⟩,by
      show 2 * (200000 - Bz X6 w.heap.size) + min 1 (dH us xs).length < 2 * (200000 - Bz X2 w.heap.size) + min 1 us.length;rw [hml,hmu];omega⟩
 ·have hqN:q=N:=by omega
  subst hqN;obtain ⟨adF,capF,rfl,-⟩:=oW hF.row;have bc:=hF.box.c;have hR:X.ownsRow (w.heap.size + 1) 63 5 (.slice adF (A q).length capF) (jR (af rs) ts st xo xu q).length (dQ (jR (af rs) ts st xo xu q)):=by rw [hAN]; exact hF.row
  have hBl:=hF.bel;have hsz:w.heap.size < X.heap.size:=aA bc;clear hF hB hD;gi_wp2;refine rD (w.heap.size + 1 + 1) (fun Y=>Y.ownsRow w.heap.size 63 5 (.slice adF (A q).length capF) (jR (af rs) ts st xo xu q).length (dQ (jR (af rs) ts st xo xu q))∧Below w.heap.size w Y) (fun Y r hr hY hd=>⟨dz hY.1 fun g hg=>kU fun e=>?_,?_⟩) (fun Y hY=>⟨_,results_tmp rfl _ _ _,⟨_,rfl,hY.1⟩,hY.2⟩) rl X hMk hMn ⟨jB hR (Nat.le_succ _),hBl⟩
  ·obtain ⟨cur,e2⟩:=iD hY.1 hg;rw [e,hd] at e2; cases e2
  ·exact hY.2.grown (grownBy_putObj' Y r _) hY.2.size (fun g e=>by injection e with e; omega)
end
end Go.Proofs.YtdmniljjnaebbaaGreatDoor
namespace Go.Proofs.YtdmniljjnaebbaaGreatDoor
open Go.ChangeShapes Go.WideShapes Go.ChangeAt Go.RowKit
open Pl
attribute [local go_sem ↓] Go.wp_at_zero Go.wp_at_succ
structure BelowD (B:Nat) (w w':World):Prop where
 b:Below B w w'
 d:w.drawn≤w'.drawn
theorem BelowD.size {B:Nat} {w w':World} (h:BelowD B w w'):w.heap.size≤w'.heap.size:=h.b.size
theorem BelowD.refl (B:Nat) (w:World):BelowD B w w:=⟨Below.refl B w,Nat.le_refl _⟩
theorem BelowD.trans {B:Nat} {a b c:World} (h:BelowD B a b) (k:BelowD B b c):BelowD B a c:=⟨h.b.trans k.b,Nat.le_trans h.d k.d⟩
theorem BelowD.mono {B B':Nat} {w w':World} (h:BelowD B w w') (hB:B'≤B):BelowD B' w w':=⟨h.b.mono hB,h.d⟩
theorem BelowD.drew {B:Nat} {a w:World} (h:BelowD B a w):BelowD B a w.drew:=⟨h.b.drew,Nat.le_trans h.d (Nat.le_succ _)⟩
theorem BelowD.alloc {B:Nat} {a w:World} (h:BelowD B a w) (hB:B≤w.heap.size) (o:Obj):BelowD B a (w.alloc o):=⟨h.b.alloc hB o,h.d⟩
theorem BelowD.cell {B:Nat} {w w':World} (h:BelowD B w w') {p:Addr} (hp:p.block < B):w'.cell? p=w.cell? p:=h.b.cell hp
theorem BelowD.frozen {B:Nat} {w w':World} (h:BelowD B w w') {p:Addr} (hp:p.block < B):w'.frozen? p=w.frozen? p:=h.b.frozen hp
theorem BelowD.grew {w w':World} (h:BelowD w.heap.size w w'):∃ q os,w'=Go.Sort.grow (w.drewN q) os:=by
 obtain ⟨⟨h1,h2,h3,h4,h5⟩,h6⟩:=h;refine ⟨w'.drawn - w.drawn,w'.heap.extract w.heap.size w'.heap.size,?_⟩;obtain ⟨hp,tp,dr,os,ou⟩:=w';simp only at h1 h2 h3 h4 h5 h6;subst h1 h2 h3;simp only [Go.Sort.grow,World.drewN,World.mk.injEq,true_and,and_true];refine ⟨?_,by omega⟩;apply Array.ext
 ·simp; omega
 ·intro i hi hj;by_cases hlt:i < w.heap.size
  ·have:=h5 i hlt;rw [Array.getElem?_eq_getElem hi,Array.getElem?_eq_getElem hlt] at this;injection this with this;rw [this,Array.getElem_append_left hlt]
  ·rw [Array.getElem_append_right (by omega)];simp;congr 1;omega
theorem qc {W w1:World} (hb:BelowD W.heap.size W w1):(∀ b o,b < W.heap.size→w1.cell? ⟨b,o,none⟩=W.cell? ⟨b,o,none⟩)∧(∀ b o,b < W.heap.size→w1.frozen? ⟨b,o,none⟩=W.frozen? ⟨b,o,none⟩) :=
 ⟨fun b o h=>hb.cell (p:=⟨b,o,none⟩) h,fun b o h=>hb.frozen (p:=⟨b,o,none⟩) h⟩
theorem dR (t i:ByteArray) (w:World) (ht:t.size≤maxLen) (hi:i.size≤maxLen) :
  Calls prog 170 #[.agg #[.string t,.string i]] w fun e w'=>e=.returned (.bool (dS t i))∧BelowD w.heap.size w w':=by
 by_cases hn:aO t=true
 all_goals
  go_enter func170,ntmps170;go_wp2_with (first | (go_at_call 162; refine (au _ _ ht).mono ?_; rintro e w' ⟨rfl,rfl⟩) | (go_at_call 197; refine (vB _ _ hi).mono ?_; rintro e w' ⟨rfl,rfl⟩));go_ret;exact ⟨ae (by simp [dS,hn]),(BelowD.refl _ _).alloc (Nat.le_refl _) _⟩
theorem tq (t i:ByteArray) (w:World) (ht:t.size≤maxLen) (hi:i.size≤maxLen) :
  Calls prog 183 #[.agg #[.string t,.string i]] w fun e w'=>e=.returned (.string (av t i))∧BelowD w.heap.size w w':=by
 by_cases hn:dS t i=true
 ·obtain ⟨h1,h2⟩:=uT hn;have HT:Hid (av t i=t ++ ⟨#[58]⟩ ++ i):=jS hn;go_enter func183,ntmps183;go_wp2_with (go_at_call 170; refine (dR _ _ _ ht hi).mono ?_; rintro e w' ⟨rfl,hb⟩; obtain ⟨hc,hf⟩:=qc hb);go_ret;exact ⟨eG HT.out.symm,((BelowD.refl _ _).alloc (Nat.le_refl _) _).trans (hb.mono (by simp))⟩
 ·have hn':dS t i=false:=by simpa using hn
  have HT:Hid (av t i=⟨#[]⟩):=pz hn';clear hn;go_enter func183,ntmps183;go_wp2_with (go_at_call 170; refine (dR _ _ _ ht hi).mono ?_; rintro e w' ⟨rfl,hb⟩; obtain ⟨hc,hf⟩:=qc hb);go_ret;exact ⟨eG HT.out.symm,((BelowD.refl _ _).alloc (Nat.le_refl _) _).trans (hb.mono (by simp))⟩
theorem rE (a b r c d s:ByteArray) (w:World) (ha:a.size≤maxLen) (hb:b.size≤maxLen) (hr:r.size≤maxLen) (hc:c.size≤maxLen) (hd:d.size≤maxLen) (hs:s.size≤maxLen) :
  Calls prog 128 #[.agg #[.string a,.string b,.string r,.string c,.string d,.string s]] w fun e w'=>e=.returned (.bool (aT a b r c d s))∧BelowD w.heap.size w w':=by
 by_cases h1:dS a b=true
 ·by_cases h2:aO r=true
  ·by_cases h3:dS c d=true
   ·have HT:Hid (aT a b r c d s=rG s):=vG h1 h2 h3;go_enter func128,ntmps128;go_wp2_with fail;refine (dR _ _ _ ha hb).mono ?_;rintro e w1 ⟨rfl,hb1⟩;obtain ⟨hc1,hf1⟩:=qc hb1;have hz1:w.heap.size < w1.heap.size:=by have:=hb1.size; simp at this; omega
    go_wp2_with fail;refine (au _ _ hr).mono ?_;rintro e w1' ⟨rfl,rfl⟩;go_wp2_with fail;refine (dR _ _ _ hc hd).mono ?_;rintro e w2 ⟨rfl,hb2⟩;obtain ⟨hc2,hf2⟩:=qc hb2;have hz2:w.heap.size < w2.heap.size:=by have:=hb2.size; omega
    go_wp2_with (go_at_call 171; refine (yQ _ _ hs).mono ?_; rintro e w3 ⟨rfl,rfl⟩)
    all_goals go_ret
    all_goals exact ⟨ae (HT.out.trans (by simp [rG, *])).symm,((BelowD.refl _ _).alloc (Nat.le_refl _) _).trans ((hb1.mono (by simp)).trans (hb2.mono (by omega)))⟩
   ·have h3':dS c d=false:=by simpa using h3
    have HT:Hid (aT a b r c d s=false):=vF h3';clear h3;go_enter func128,ntmps128;go_wp2_with fail;refine (dR _ _ _ ha hb).mono ?_;rintro e w1 ⟨rfl,hb1⟩;obtain ⟨hc1,hf1⟩:=qc hb1;have hz1:w.heap.size < w1.heap.size:=by have:=hb1.size; simp at this; omega
    go_wp2_with fail;refine (au _ _ hr).mono ?_;rintro e w1' ⟨rfl,rfl⟩;go_wp2_with fail;refine (dR _ _ _ hc hd).mono ?_;rintro e w2 ⟨rfl,hb2⟩;go_wp2;go_ret;exact ⟨ae HT.out.symm,((BelowD.refl _ _).alloc (Nat.le_refl _) _).trans ((hb1.mono (by simp)).trans (hb2.mono (by omega)))⟩
  ·have h2':aO r=false:=by simpa using h2
   have HT:Hid (aT a b r c d s=false):=vD h2';clear h2;go_enter func128,ntmps128;go_wp2_with fail;refine (dR _ _ _ ha hb).mono ?_;rintro e w1 ⟨rfl,hb1⟩;obtain ⟨hc1,hf1⟩:=qc hb1;go_wp2_with fail;refine (au _ _ hr).mono ?_;rintro e w1' ⟨rfl,rfl⟩;go_wp2;go_ret;exact ⟨ae HT.out.symm,((BelowD.refl _ _).alloc (Nat.le_refl _) _).trans (hb1.mono (by simp))⟩
 ·have h1':dS a b=false:=by simpa using h1
  have HT:Hid (aT a b r c d s=false):=vC h1';clear h1;go_enter func128,ntmps128;go_wp2_with fail;refine (dR _ _ _ ha hb).mono ?_;rintro e w1 ⟨rfl,hb1⟩;go_wp2;go_ret;exact ⟨ae HT.out.symm,((BelowD.refl _ _).alloc (Nat.le_refl _) _).trans (hb1.mono (by simp))⟩
theorem Nl {w W w':World} {n:Nat} {x0 x1 x2 x3 x4 x5:Value} (h:W.cell? ⟨n,0,none⟩=some x0∧W.cell? ⟨n,1,none⟩=some x1∧W.cell? ⟨n,2,none⟩=some x2∧W.cell? ⟨n,3,none⟩=some x3∧W.cell? ⟨n,4,none⟩=some x4∧W.cell? ⟨n,5,none⟩=some x5∧n < W.heap.size∧BelowD n w W) (hb:BelowD W.heap.size W w'):w'.cell? ⟨n,0,none⟩=some x0∧w'.cell? ⟨n,1,none⟩=some x1∧w'.cell? ⟨n,2,none⟩=some x2∧w'.cell? ⟨n,3,none⟩=some x3∧w'.cell? ⟨n,4,none⟩=some x4∧w'.cell? ⟨n,5,none⟩=some x5∧n < w'.heap.size∧BelowD n w w':=by
 obtain ⟨h0,h1,h2,h3,h4,h5,hn,hB⟩:=h;have hc:∀ o,w'.cell? ⟨n,o,none⟩=W.cell? ⟨n,o,none⟩:=fun o=>hb.cell (p:=⟨n,o,none⟩) hn;refine ⟨by rw [hc]; exact h0,by rw [hc]; exact h1,by rw [hc]; exact h2,by rw [hc]; exact h3,by rw [hc]; exact h4,by rw [hc]; exact h5,Nat.lt_of_lt_of_le hn hb.size,hB.trans (hb.mono (Nat.le_of_lt hn))⟩
theorem tu (a b r c d s:ByteArray) (w:World) (ha:a.size≤maxLen) (hb:b.size≤maxLen) (hr:r.size≤maxLen) (hc:c.size≤maxLen) (hd:d.size≤maxLen) (hs:s.size≤maxLen) :
  Calls prog 148 #[.agg #[.string a,.string b,.string r,.string c,.string d,.string s]] w fun e w'=>e=.returned (.string (aN a b r c d s))∧BelowD w.heap.size w w':=by
 by_cases hn:aT a b r c d s=true
 ·obtain ⟨h1,h2,h3,h4⟩:=iI hn;have hx:=fJ a b;have hy:=fJ c d;have hr12:=(kE h2).2;have hs12:=Ak h4;clear h1 h2 h3 h4;go_enter func148,ntmps148;go_wp2_with fail;refine (rE _ _ _ _ _ _ _ ha hb hr hc hd hs).mono ?_;rintro e w1 ⟨rfl,hb1⟩;obtain ⟨hc1,hf1⟩:=qc hb1;have hz1:w.heap.size < w1.heap.size:=by have:=hb1.size; simp at this; omega
  have k:∀ o v,(w.alloc (.cells #[.string a,.string b,.string r,.string c,.string d,.string s] 42)).cell? ⟨w.heap.size,o,none⟩=some v→w1.cell? ⟨w.heap.size,o,none⟩=some v:=fun o v h=>by rw [hc1 _ _ (by simp)]; exact h
  have k0:=k 0 (.string a) (by simp);have k1:=k 1 (.string b) (by simp);have k2:=k 2 (.string r) (by simp);have k3:=k 3 (.string c) (by simp);have k4:=k 4 (.string d) (by simp);have k5:=k 5 (.string s) (by simp);have HB1:BelowD w.heap.size w w1:=((BelowD.refl _ _).alloc (Nat.le_refl _) _).trans (hb1.mono (by simp));clear k hb1 hc1 hf1;have q1:(9223372036854775807 < (av a b).size + 1)=False:=by simp; omega
  have q2:(9223372036854775807 < (av a b).size + 1 + r.size)=False:=by simp; omega
  have q3:(9223372036854775807 < (av a b).size + 1 + r.size + 1)=False:=by simp; omega
  have q4:(9223372036854775807 < (av a b).size + 1 + r.size + 1 + (av c d).size)=False:=by simp; omega
  go_wp2_with fail
  go_region_held3 (fun w'=>w'.cell? ⟨w.heap.size,0,none⟩=some (.string a)∧w'.cell? ⟨w.heap.size,1,none⟩=some (.string b)∧w'.cell? ⟨w.heap.size,2,none⟩=some (.string r)∧w'.cell? ⟨w.heap.size,3,none⟩=some (.string c)∧w'.cell? ⟨w.heap.size,4,none⟩=some (.string d)∧w'.cell? ⟨w.heap.size,5,none⟩=some (.string s)∧w.heap.size < w'.heap.size∧BelowD w.heap.size w w')
   (first | exact Nl (by assumption) hbx | exact ⟨k0,k1,k2,k3,k4,k5,hz1,HB1.drew⟩)
   (first | (go_at_call 183; refine (tq _ _ _ (by assumption) (by assumption)).mono ?_; rintro e w' ⟨rfl,hbx⟩))
  rename_i hH;obtain ⟨g0,g1,g2,g3,g4,g5,gz,gB⟩:=hH;clear k0 k1 k2 k3 k4 k5 hbx q1 q2 q3 q4 HB1;by_cases he:s.toList.isEmpty=true
  ·have HT:Hid (aN a b r c d s=_):=jT hn he;go_wp2;go_ret;exact ⟨eG HT.out.symm,gB⟩
  ·have he':s.toList.isEmpty=false:=by simpa using he
   have HT:Hid (aN a b r c d s=_):=jU hn he';clear he;go_wp2;go_ret;exact ⟨eG (HT.out.trans (by simp only [ByteArray.append_assoc])).symm,gB⟩
 ·have hn':aT a b r c d s=false:=by simpa using hn
  have HT:Hid (aN a b r c d s=⟨#[]⟩):=pE hn';clear hn;go_enter func148,ntmps148;go_wp2_with fail;refine (rE _ _ _ _ _ _ _ ha hb hr hc hd hs).mono ?_;rintro e w1 ⟨rfl,hb1⟩;go_wp2;go_ret;exact ⟨eG HT.out.symm,((BelowD.refl _ _).alloc (Nat.le_refl _) _).trans (hb1.mono (by simp))⟩
theorem Me {w W w':World} {n m k:Nat} {x0 x1 x2 x3 x4 x5 y0 y1 y2 y3 y4 y5:Value} (hk:k≤n) (h:W.cell? ⟨n,0,none⟩=some x0∧W.cell? ⟨n,1,none⟩=some x1∧W.cell? ⟨n,2,none⟩=some x2∧W.cell? ⟨n,3,none⟩=some x3∧W.cell? ⟨n,4,none⟩=some x4∧W.cell? ⟨n,5,none⟩=some x5∧W.cell? ⟨m,0,none⟩=some y0∧W.cell? ⟨m,1,none⟩=some y1∧W.cell? ⟨m,2,none⟩=some y2∧W.cell? ⟨m,3,none⟩=some y3∧W.cell? ⟨m,4,none⟩=some y4∧W.cell? ⟨m,5,none⟩=some y5∧n < W.heap.size∧m < W.heap.size∧BelowD k w W) (hb:BelowD W.heap.size W w'):w'.cell? ⟨n,0,none⟩=some x0∧w'.cell? ⟨n,1,none⟩=some x1∧w'.cell? ⟨n,2,none⟩=some x2∧w'.cell? ⟨n,3,none⟩=some x3∧w'.cell? ⟨n,4,none⟩=some x4∧w'.cell? ⟨n,5,none⟩=some x5∧w'.cell? ⟨m,0,none⟩=some y0∧w'.cell? ⟨m,1,none⟩=some y1∧w'.cell? ⟨m,2,none⟩=some y2∧w'.cell? ⟨m,3,none⟩=some y3∧w'.cell? ⟨m,4,none⟩=some y4∧w'.cell? ⟨m,5,none⟩=some y5∧n < w'.heap.size∧m < w'.heap.size∧BelowD k w w':=by
 obtain ⟨h0,h1,h2,h3,h4,h5,h6,h7,h8,h9,h10,h11,hn,hm,hB⟩:=h;have hc:∀ o,w'.cell? ⟨n,o,none⟩=W.cell? ⟨n,o,none⟩:=fun o=>hb.cell (p:=⟨n,o,none⟩) hn;have hd:∀ o,w'.cell? ⟨m,o,none⟩=W.cell? ⟨m,o,none⟩:=fun o=>hb.cell (p:=⟨m,o,none⟩) hm;exact ⟨by rw [hc]; exact h0,by rw [hc]; exact h1,by rw [hc]; exact h2,by rw [hc]; exact h3,by rw [hc]; exact h4,by rw [hc]; exact h5,by rw [hd]; exact h6,by rw [hd]; exact h7,by rw [hd]; exact h8,by rw [hd]; exact h9,by rw [hd]; exact h10,by rw [hd]; exact h11,Nat.lt_of_lt_of_le hn hb.size,Nat.lt_of_lt_of_le hm hb.size,hB.trans (hb.mono (by omega))⟩
theorem Gu (w:World) (o1 o2:Obj):BelowD w.heap.size w ((w.alloc o1).alloc o2) :=
 ((BelowD.refl _ _).alloc (Nat.le_refl _) _).alloc (by simp) _
theorem qd (a b r c d s a' b' r' c' d' s':ByteArray) (w:World) (ha:a.size≤maxLen) (hb:b.size≤maxLen) (hr:r.size≤maxLen) (hc:c.size≤maxLen) (hd:d.size≤maxLen) (hs:s.size≤maxLen) (ga:a'.size≤maxLen) (gb:b'.size≤maxLen) (gr:r'.size≤maxLen) (gc:c'.size≤maxLen) (gd:d'.size≤maxLen) (gs:s'.size≤maxLen) :
  Calls prog 100 #[.agg #[.string a,.string b,.string r,.string c,.string d,.string s],.agg #[.string a',.string b',.string r',.string c',.string d',.string s']] w fun e w'=>e=.returned (.int .i64 (BO a b r c d s a' b' r' c' d' s'))∧BelowD w.heap.size w w':=by
 have H0:((w.alloc (.cells #[.string a,.string b,.string r,.string c,.string d,.string s] 42)).alloc (.cells #[.string a',.string b',.string r',.string c',.string d',.string s'] 42)).drew.cell? ⟨w.heap.size,0,none⟩=some (.string a)∧((w.alloc (.cells #[.string a,.string b,.string r,.string c,.string d,.string s] 42)).alloc (.cells #[.string a',.string b',.string r',.string c',.string d',.string s'] 42)).drew.cell? ⟨w.heap.size,1,none⟩=some (.string b)∧((w.alloc (.cells #[.string a,.string b,.string r,.string c,.string d,.string s] 42)).alloc (.cells #[.string a',.string b',.string r',.string c',.string d',.string s'] 42)).drew.cell? ⟨w.heap.size,2,none⟩=some (.string r)∧((w.alloc (.cells #[.string a,.string b,.string r,.string c,.string d,.string s] 42)).alloc (.cells #[.string a',.string b',.string r',.string c',.string d',.string s'] 42)).drew.cell? ⟨w.heap.size,3,none⟩=some (.string c)∧((w.alloc (.cells #[.string a,.string b,.string r,.string c,.string d,.string s] 42)).alloc (.cells #[.string a',.string b',.string r',.string c',.string d',.string s'] 42)).drew.cell? ⟨w.heap.size,4,none⟩=some (.string d)∧((w.alloc (.cells #[.string a,.string b,.string r,.string c,.string d,.string s] 42)).alloc (.cells #[.string a',.string b',.string r',.string c',.string d',.string s'] 42)).drew.cell? ⟨w.heap.size,5,none⟩=some (.string s)∧((w.alloc (.cells #[.string a,.string b,.string r,.string c,.string d,.string s] 42)).alloc (.cells #[.string a',.string b',.string r',.string c',.string d',.string s'] 42)).drew.cell? ⟨w.heap.size + 1,0,none⟩=some (.string a')∧((w.alloc (.cells #[.string a,.string b,.string r,.string c,.string d,.string s] 42)).alloc (.cells #[.string a',.string b',.string r',.string c',.string d',.string s'] 42)).drew.cell? ⟨w.heap.size + 1,1,none⟩=some (.string b')∧((w.alloc (.cells #[.string a,.string b,.string r,.string c,.string d,.string s] 42)).alloc (.cells #[.string a',.string b',.string r',.string c',.string d',.string s'] 42)).drew.cell? ⟨w.heap.size + 1,2,none⟩=some (.string r')∧((w.alloc (.cells #[.string a,.string b,.string r,.string c,.string d,.string s] 42)).alloc (.cells #[.string a',.string b',.string r',.string c',.string d',.string s'] 42)).drew.cell? ⟨w.heap.size + 1,3,none⟩=some (.string c')∧((w.alloc (.cells #[.string a,.string b,.string r,.string c,.string d,.string s] 42)).alloc (.cells #[.string a',.string b',.string r',.string c',.string d',.string s'] 42)).drew.cell? ⟨w.heap.size + 1,4,none⟩=some (.string d')∧((w.alloc (.cells #[.string a,.string b,.string r,.string c,.string d,.string s] 42)).alloc (.cells #[.string a',.string b',.string r',.string c',.string d',.string s'] 42)).drew.cell? ⟨w.heap.size + 1,5,none⟩=some (.string s')∧w.heap.size < ((w.alloc (.cells #[.string a,.string b,.string r,.string c,.string d,.string s] 42)).alloc (.cells #[.string a',.string b',.string r',.string c',.string d',.string s'] 42)).drew.heap.size∧w.heap.size + 1 < ((w.alloc (.cells #[.string a,.string b,.string r,.string c,.string d,.string s] 42)).alloc (.cells #[.string a',.string b',.string r',.string c',.string d',.string s'] 42)).drew.heap.size∧BelowD w.heap.size w (((w.alloc (.cells #[.string a,.string b,.string r,.string c,.string d,.string s] 42)).alloc (.cells #[.string a',.string b',.string r',.string c',.string d',.string s'] 42)).drew):=by
  refine ⟨?_,?_,?_,?_,?_,?_,?_,?_,?_,?_,?_,?_,?_,?_,?_⟩
  all_goals first | exact (Gu _ _ _).drew | (simp; done) | (simp; omega)
 go_enter func100,ntmps100;go_wp2_with fail
 go_region_held3 (fun w'=>w'.cell? ⟨w.heap.size,0,none⟩=some (.string a)∧w'.cell? ⟨w.heap.size,1,none⟩=some (.string b)∧w'.cell? ⟨w.heap.size,2,none⟩=some (.string r)∧w'.cell? ⟨w.heap.size,3,none⟩=some (.string c)∧w'.cell? ⟨w.heap.size,4,none⟩=some (.string d)∧w'.cell? ⟨w.heap.size,5,none⟩=some (.string s)∧w'.cell? ⟨w.heap.size + 1,0,none⟩=some (.string a')∧w'.cell? ⟨w.heap.size + 1,1,none⟩=some (.string b')∧w'.cell? ⟨w.heap.size + 1,2,none⟩=some (.string r')∧w'.cell? ⟨w.heap.size + 1,3,none⟩=some (.string c')∧w'.cell? ⟨w.heap.size + 1,4,none⟩=some (.string d')∧w'.cell? ⟨w.heap.size + 1,5,none⟩=some (.string s')∧w.heap.size < w'.heap.size∧w.heap.size + 1 < w'.heap.size∧BelowD w.heap.size w w')
  (first | assumption | exact Me (Nat.le_refl _) (by assumption) hbx | exact H0)
  (first | (go_at_call 148; refine (tu _ _ _ _ _ _ _ (by assumption) (by assumption) (by assumption) (by assumption) (by assumption) (by assumption)).mono ?_; rintro e w' ⟨rfl,hbx⟩) | (go_at_call 147; refine (Tryz.strings_Compare _ _ _).mono ?_; rintro e w' ⟨rfl,rfl⟩))
 rename_i hH;obtain ⟨-,-,-,-,-,-,-,-,-,-,-,-,-,-,gB⟩:=hH;go_wp2;go_ret;exact ⟨rfl,gB⟩
end Go.Proofs.YtdmniljjnaebbaaGreatDoor
namespace Go.Proofs.YtdmniljjnaebbaaGreatDoor.Ls
theorem lt_irrefl:∀ x:List UInt8,Op.bytesLess x x=false
 | []=>rfl
 | a::x=>by simp [Op.bytesLess,lt_irrefl x]
theorem lt_trans:∀ x y z:List UInt8,Op.bytesLess x y=true→Op.bytesLess y z=true→Op.bytesLess x z=true
 | [],_,[],h,k=>by cases ‹List UInt8› <;> simp [Op.bytesLess] at h k
 | [],_,_::_,_,_=>rfl
 | _::_,[],_,h,_=>by simp [Op.bytesLess] at h
 | _::_,_::_,[],_,k=>by simp [Op.bytesLess] at k
 | a::x,b::y,c::z,h,k=>by
  simp only [Op.bytesLess,Bool.or_eq_true,Bool.and_eq_true,decide_eq_true_eq,beq_iff_eq] at h k ⊢;rcases h with h | ⟨h,h'⟩
  ·rcases k with k | ⟨k,k'⟩
   ·exact .inl (UInt8.lt_trans h k)
   ·exact .inl (k ▸ h)
  ·rcases k with k | ⟨k,k'⟩
   ·exact .inl (h ▸ k)
   ·exact .inr ⟨h.trans k,lt_trans x y z h' k'⟩
theorem lt_total:∀ x y:List UInt8,x ≠ y→Op.bytesLess x y=true ∨ Op.bytesLess y x=true
 | [],[],h=>absurd rfl h
 | [],_::_,_=>.inl rfl
 | _::_,[],_=>.inr rfl
 | a::x,b::y,h=>by
  simp only [Op.bytesLess,Bool.or_eq_true,Bool.and_eq_true,decide_eq_true_eq,beq_iff_eq];by_cases e:a=b
  ·subst e;rcases lt_total x y (fun e=>h (by rw [e])) with k | k
   ·exact .inl (.inr ⟨rfl,k⟩)
   ·exact .inr (.inr ⟨rfl,k⟩)
  ·rcases Nat.lt_or_gt_of_ne (fun k=>e (UInt8.toNat_inj.1 k)) with k | k
   ·exact .inl (.inl k)
   ·exact .inr (.inl k)
end Go.Proofs.YtdmniljjnaebbaaGreatDoor.Ls
