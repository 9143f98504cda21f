/- The program's questions of a node that is told by tuples, or goes over a relation. -/
import Derived.Test.YtajkkeikihhejaaGreatSq
import Derived.Test.YtajkkeikihhejaaGreatJ33
open Go.Proofs.Tryz
set_option maxHeartbeats 80000000
namespace Go.Proofs.YtajkkeikihhejaaGreat
set_option linter.unusedVariables false
set_option maxRecDepth 100000
open Go.ChangeShapes Go.WideShapes Go.ChangeAt Go.RowKit Go.Maps
open Pl
def BR (out:List Fc) (f:Fc):Option Value:=if bP out f then some (.agg #[]) else none
theorem Py (out:List Fc) (f:Fc):(BR out f).isSome=bP out f:=by unfold BR; cases bP out f <;> rfl
theorem QQ (out:List Fc) (f:Fc):∀ v,BR out f=some v→v=.agg #[]:=fun v h=>by
 unfold BR at h; split at h
 ·injection h with h; exact h.symm
 cases h
theorem vJ (b n:Nat) (out:List Fc) (f:Fc) (w:af) (hf:f.fits) (hV:aM om prog 29 w b n (BR out)) :
  Calls prog 65 #[.map (some b),.agg #[.string f.a,.string f.b,.string f.r,.string f.c,.string f.d]] w fun e w'=>e=.returned (.bool (bP out f))∧ag w w':=by
 have h:=Gy b n (BR out) f w hf hV (QQ out f);rw [Py] at h;exact h
theorem GQ {w:af} {bp np:Nat} {Mp:K3→Option Value} {E:List (K3 × Tp)} (h:G.Grp qO prog 223 46 6 Tp.row w bp np Mp E) (k:K3):∃ ad cap,(Mp k).getD (.slice none 0 0)=.slice ad (G.lookL E k).length cap∧Sl w ad (G.lookL E k):=by
 obtain ⟨ad,cap,e,hs,-⟩:=OH (ts:=G.lookL E k) (Dw h k) rfl;exact ⟨ad,cap,e,hs⟩
theorem DD (p:Tp→Bool) {ts:List Tp} {k:Nat} (h:k < ts.length):(ts.drop k).any p=(p ts[k] || (ts.drop (k + 1)).any p):=by rw [Un h]; rfl
theorem GR {ts:List Tp} {k:K3} {t:Tp} (h:t ∈ G.lookL (dK ts) k):t ∈ ts:=by
 have:=G.mem_lookL.1 h;unfold dK at this;obtain ⟨x,hx,e⟩:=Ue.1 this;injection e with e1 e2;rw [← e2]; exact hx
theorem GU (ts:List Tp) (k:K3):(G.lookL (dK ts) k).length≤ts.length:=by
 unfold G.lookL dK;exact TZ (List.length_filterMap_le _ _) (by simp)
section
variable {w:World} {rs:List TR} {D br bp bt bK nK:Nat} {n1:Int} {nr:Nat} {Mr:KL→Option Value} {Er:List (KL × RR)} {ts:List Tp} {xo xu:List Al} {np:Nat} {Mp:K3→Option Value} {vo vu:Value} {out:List Fc} {f:Fc}
theorem BS (hD:DatA w rs D br bp bt n1 nr Mr Er (dK ts) xo xu np Mp vo vu) (hK:aM om prog 29 w bK nK (BR out)) (hf:f.fits) (hts:∀ t ∈ ts,t.fits) (htl:ts.length≤1000) :
  Calls prog 213 #[.pointer (some ⟨D,0,none⟩),.agg #[.string f.a,.string f.b,.string f.r,.string f.c,.string f.d],.map (some bK)] w fun e w'=>e=.returned (.bool (dZ ts out f))∧ag w w':=by
 obtain ⟨kl,hkl⟩:=EO (f.a,f.b,f.r) hf.1 hf.2.1 hf.2.2.1;obtain ⟨Zv,Xg,hgd,hsl⟩:=GQ hD.dat.told (f.a,f.b,f.r);have HL:=aC (JA ts out f);have hll:=GU ts (f.a,f.b,f.r);have HFL:Hid (∀ t ∈ G.lookL (dK ts) (f.a,f.b,f.r),t.fits):=fun t ht=>hts t (GR ht);obtain ⟨L,Ws⟩:∃ L,L=G.lookL (dK ts) (f.a,f.b,f.r):=⟨_,rfl⟩;rw [← Ws] at hgd hsl HL hll HFL;obtain ⟨W0,hW0⟩:∃ W0,W0=w.alloc (.cells #[.string f.a,.string f.b,.string f.r,.string f.c,.string f.d] 29):=⟨_,rfl⟩;have HB0:=qZ hW0;have c0:W0.cell? ⟨w.heap.size,0,none⟩=some (.string f.a):=by rw [hW0]; simp
 have c1:W0.cell? ⟨w.heap.size,1,none⟩=some (.string f.b):=by rw [hW0]; simp
 have c2:W0.cell? ⟨w.heap.size,2,none⟩=some (.string f.r):=by rw [hW0]; simp
 have c3:W0.cell? ⟨w.heap.size,3,none⟩=some (.string f.c):=by rw [hW0]; simp
 have c4:W0.cell? ⟨w.heap.size,4,none⟩=some (.string f.d):=by rw [hW0]; simp
 have d3:=HB0.out.cell (p:=⟨D,3,none⟩) hD.dat.lt |>.trans hD.dat.c3;have hlk:∀ m,(Instr.lookup 166 (.map (some bp)) (.agg #[.string f.a,.string f.b,.string f.r]) false).run prog (W0.drewN m)=.ok (.slice Zv L.length Xg) (W0.drewN m):=fun m=>by
  have h:=((hD.dat.told.map.below HB0.out).below (below_drewN (TT _ _) m)).look (t:=166) (e:=25) RG underlying166 (Jy _) (x:=(f.a,f.b,f.r)) hkl;rw [hgd] at h;exact h
 have WQ:=aC hsl;have ZW:=aC hK;have HF:=aC hf;have VG:Hid (W0.cell? ⟨w.heap.size,3,none⟩=some (.string f.c)∧W0.cell? ⟨w.heap.size,4,none⟩=some (.string f.d)∧w.heap.size < W0.heap.size):=⟨c3,c4,by rw [hW0]; simp⟩;clear hsl hK hf Ws hgd hkl;go_enter func213,ntmps213;go_wp2_with fail;rw [← hW0];clear hW0;go_quiet (fail);clear c0 c1 c2 c3 c4 d3 hlk;go_wp2;go_loopw [20] (fun i wr=>∃ k:Nat,k≤L.length∧i=.int .i64 k∧Hid ((L.drop k).any (ni out f)=L.any (ni out f))∧Hid (ag w wr)∧Hid (wr.cell? ⟨w.heap.size,3,none⟩=some (.string f.c)∧wr.cell? ⟨w.heap.size,4,none⟩=some (.string f.d)∧w.heap.size < wr.heap.size)) (fun i _=>L.length - (intOf i).toNat);case atStart=>exact ⟨0,TW _,rfl,rfl,below_drewN HB0.out _,VG⟩
 clear VG HB0;obtain ⟨k,hk,rfl,HP,HB,HC⟩:=hrel;by_cases hlt:k < L.length
 ·obtain ⟨bT,offT,Xh,⟨a0,a1,a2,a3,a4,a5⟩,hbT⟩:=Sl.at0 (WQ.out.below HB.out) hlt;obtain ⟨c3,c4,cl⟩:=HC.out;have hi1:=bB k;have hi2:(k:Int) < (L.length:Int):=by omega
  have HTF:=aC (HFL.out _ (TQ hlt));have HD2:Hid (L.any (ni out f)=(ni out f L[k] || (L.drop (k + 1)).any (ni out f))):=by show _=_; rw [← HP.out]; exact DD _ hlt
  obtain ⟨t,ht⟩:∃ t,t=L[k]:=⟨_,rfl⟩;rw [← ht] at a0 a1 a2 a3 a4 a5 HTF HD2;clear ht;obtain ⟨W1,hW1⟩:∃ W1,W1=wr.alloc (.cells #[.string t.a,.string t.b,.string t.r,.string t.c,.string t.d,.string t.s] 46):=⟨_,rfl⟩;have VO:=qZ hW1;have HB1:=aC (HB.out.trans (VO.out.mono HB.out.size));have VI:Hid (W1.cell? ⟨w.heap.size,3,none⟩=some (.string f.c)∧W1.cell? ⟨w.heap.size,4,none⟩=some (.string f.d)∧w.heap.size < W1.heap.size):=⟨mK VO.out cl c3,mK VO.out cl c4,TP cl VO.out.size⟩;subst Xh;cases hs:t.s.toList.isEmpty;case true=>
   have hs2:(t.s.toList == [])=true:=by rw [nk]; exact hs
   have HTT:Hid (ni out f t=A9 t.c t.d f.c f.d):=by show _=_; unfold ni; rw [if_pos hs]; rfl
   cases hu:A9 t.c t.d f.c f.d;case true=>
    have heq:=jJ _ _ _ _ hu;have HN:Hid (dZ ts out f=true):=by show _=_; rw [HL.out,HD2.out,HTT.out,hu]; rfl
    clear hu hs;go_wp2;rw [← hW1];go_ret;exact ⟨by rw [HN.out]; rfl,HB1.out⟩
   have heq:=jJ _ _ _ _ hu;have UI:Hid ((L.drop (k + 1)).any (ni out f)=L.any (ni out f)):=by show _=_; rw [HD2.out,HTT.out,hu]; rfl
   clear hu hs;go_wp2;rw [← hW1];clear hW1;go_roundw;case rel=>exact ⟨k + 1,by omega,by go_num,UI,HB1,VI⟩
   simp [intOf] <;> omega
  have hs2:(t.s.toList == [])=false:=by rw [nk]; exact hs
  have HTT:Hid (ni out f t=bP out ⟨t.c,t.d,t.s,f.c,f.d⟩):=by show _=_; unfold ni; rw [if_neg (by rw [hs]; decide)]
  clear hs;go_wp2_with fail;rw [← hW1];clear hW1;refine (vJ bK nK out ⟨t.c,t.d,t.s,f.c,f.d⟩ W1 ⟨HTF.out.2.2.2.1,HTF.out.2.2.2.2.1,HTF.out.2.2.2.2.2,HF.out.2.2.2.1,HF.out.2.2.2.2⟩ (ZW.out.below HB1.out)).mono ?_;rintro e w2 ⟨rfl,hb2⟩;have HB2:=aC (HB1.out.trans (hb2.mono HB1.out.size));have Vd:Hid (w2.cell? ⟨w.heap.size,3,none⟩=some (.string f.c)∧w2.cell? ⟨w.heap.size,4,none⟩=some (.string f.d)∧w.heap.size < w2.heap.size):=⟨mK hb2 VI.out.2.2 VI.out.1,mK hb2 VI.out.2.2 VI.out.2.1,TP VI.out.2.2 hb2.size⟩;clear hb2;cases hh:bP out ⟨t.c,t.d,t.s,f.c,f.d⟩;case true=>
   have HN:Hid (dZ ts out f=true):=by show _=_; rw [HL.out,HD2.out,HTT.out,hh]; rfl
   go_wp2;go_ret;exact ⟨by rw [HN.out]; rfl,HB2.out⟩
  have UI:Hid ((L.drop (k + 1)).any (ni out f)=L.any (ni out f)):=by show _=_; rw [HD2.out,HTT.out,hh]; rfl
  go_wp2;go_roundw;case rel=>exact ⟨k + 1,by omega,by go_num,UI,HB2,Vd⟩
  simp [intOf] <;> omega
 have HN:Hid (dZ ts out f=false):=by show _=_; rw [HL.out,← HP.out,List.drop_of_length_le (by omega)]; rfl
 go_wp2;go_ret;exact ⟨by rw [HN.out]; rfl,HB.out⟩
theorem BU (hD:DatA w rs D br bp bt n1 nr Mr Er (dK ts) xo xu np Mp vo vu) (hK:aM om prog 29 w bK nK (BR out)) (x:ER) (YO:x.e.over.size≤maxLen∧x.e.name.size≤maxLen) (hf:f.fits) (hts:∀ t ∈ ts,t.fits) (htl:ts.length≤1000) :
  Calls prog 214 #[.pointer (some ⟨D,0,none⟩),.agg #[.int .i64 x.e.kind,.slice x.adA x.e.allow.length x.capA,.string x.e.over,.string x.e.name,.slice x.adK x.e.kids.length x.capK],.agg #[.string f.a,.string f.b,.string f.r,.string f.c,.string f.d],.map (some bK)] w fun e w'=>e=.returned (.bool (gp ts out x.e.over x.e.name f))∧ag w w':=by
 obtain ⟨kl,hkl⟩:=EO (f.a,f.b,x.e.over) hf.1 hf.2.1 YO.1;obtain ⟨Zv,Xg,hgd,hsl⟩:=GQ hD.dat.told (f.a,f.b,x.e.over);have HL:=aC (JB ts out x.e.over x.e.name f);have hll:=GU ts (f.a,f.b,x.e.over);have HFL:Hid (∀ t ∈ G.lookL (dK ts) (f.a,f.b,x.e.over),t.fits):=fun t ht=>hts t (GR ht);obtain ⟨L,Ws⟩:∃ L,L=G.lookL (dK ts) (f.a,f.b,x.e.over):=⟨_,rfl⟩;rw [← Ws] at hgd hsl HL hll HFL;obtain ⟨W0,hW0⟩:∃ W0,W0=(w.alloc (.cells #[.int .i64 x.e.kind,.slice x.adA x.e.allow.length x.capA,.string x.e.over,.string x.e.name,.slice x.adK x.e.kids.length x.capK] 39)).alloc (.cells #[.string f.a,.string f.b,.string f.r,.string f.c,.string f.d] 29):=⟨_,rfl⟩;have HB0:Hid (ag w W0):=by show Below _ _ _; rw [hW0]; exact ((TT _ _).alloc (TS _) _).alloc (by simp) _
 have c0:W0.cell? ⟨w.heap.size + 1,0,none⟩=some (.string f.a):=by rw [hW0]; simp
 have c1:W0.cell? ⟨w.heap.size + 1,1,none⟩=some (.string f.b):=by rw [hW0]; simp
 have c2:W0.cell? ⟨w.heap.size + 1,2,none⟩=some (.string f.r):=by rw [hW0]; simp
 have c3:W0.cell? ⟨w.heap.size + 1,3,none⟩=some (.string f.c):=by rw [hW0]; simp
 have c4:W0.cell? ⟨w.heap.size + 1,4,none⟩=some (.string f.d):=by rw [hW0]; simp
 have x2:W0.cell? ⟨w.heap.size,2,none⟩=some (.string x.e.over):=by rw [hW0]; simp
 have x3:W0.cell? ⟨w.heap.size,3,none⟩=some (.string x.e.name):=by rw [hW0]; simp
 have d3:=HB0.out.cell (p:=⟨D,3,none⟩) hD.dat.lt |>.trans hD.dat.c3;have hlk:∀ m,(Instr.lookup 166 (.map (some bp)) (.agg #[.string f.a,.string f.b,.string x.e.over]) false).run prog (W0.drewN m)=.ok (.slice Zv L.length Xg) (W0.drewN m):=fun m=>by
  have h:=((hD.dat.told.map.below HB0.out).below (below_drewN (TT _ _) m)).look (t:=166) (e:=25) RG underlying166 (Jy _) (x:=(f.a,f.b,x.e.over)) hkl;rw [hgd] at h;exact h
 have WQ:=aC hsl;have ZW:=aC hK;have HF:=aC hf;have Xn:=aC YO;have VG:Hid (W0.cell? ⟨w.heap.size + 1,3,none⟩=some (.string f.c)∧W0.cell? ⟨w.heap.size + 1,4,none⟩=some (.string f.d)∧W0.cell? ⟨w.heap.size,3,none⟩=some (.string x.e.name)∧w.heap.size + 1 < W0.heap.size):=⟨c3,c4,x3,by rw [hW0]; simp⟩;clear hsl hK hf Ws hgd hkl;go_enter func214,ntmps214;go_wp2_with fail;rw [← hW0];clear hW0;go_quiet (fail);clear c0 c1 c2 c3 c4 d3 x2 x3 hlk;go_wp2;go_loopw [22] (fun i wr=>∃ k:Nat,k≤L.length∧i=.int .i64 k∧Hid ((L.drop k).any (vI out x.e.name f)=L.any (vI out x.e.name f))∧Hid (ag w wr)∧Hid (wr.cell? ⟨w.heap.size + 1,3,none⟩=some (.string f.c)∧wr.cell? ⟨w.heap.size + 1,4,none⟩=some (.string f.d)∧wr.cell? ⟨w.heap.size,3,none⟩=some (.string x.e.name)∧w.heap.size + 1 < wr.heap.size)) (fun i _=>L.length - (intOf i).toNat);case atStart=>exact ⟨0,TW _,rfl,rfl,below_drewN HB0.out _,VG⟩
 clear VG HB0;obtain ⟨k,hk,rfl,HP,HB,HC⟩:=hrel;by_cases hlt:k < L.length
 ·obtain ⟨bT,offT,Xh,⟨a0,a1,a2,a3,a4,a5⟩,hbT⟩:=Sl.at0 (WQ.out.below HB.out) hlt;obtain ⟨c3,c4,x3,cl⟩:=HC.out;have cl0:w.heap.size < wr.heap.size:=by omega
  have hi1:=bB k;have hi2:(k:Int) < (L.length:Int):=by omega
  have HTF:=aC (HFL.out _ (TQ hlt));have HD2:Hid (L.any (vI out x.e.name f)=(vI out x.e.name f L[k] || (L.drop (k + 1)).any (vI out x.e.name f))):=by show _=_; rw [← HP.out]; exact DD _ hlt
  obtain ⟨t,ht⟩:∃ t,t=L[k]:=⟨_,rfl⟩;rw [← ht] at a0 a1 a2 a3 a4 a5 HTF HD2;clear ht;obtain ⟨W1,hW1⟩:∃ W1,W1=wr.alloc (.cells #[.string t.a,.string t.b,.string t.r,.string t.c,.string t.d,.string t.s] 46):=⟨_,rfl⟩;have VO:=qZ hW1;have HB1:=aC (HB.out.trans (VO.out.mono HB.out.size));have VI:Hid (W1.cell? ⟨w.heap.size + 1,3,none⟩=some (.string f.c)∧W1.cell? ⟨w.heap.size + 1,4,none⟩=some (.string f.d)∧W1.cell? ⟨w.heap.size,3,none⟩=some (.string x.e.name)∧w.heap.size + 1 < W1.heap.size):=⟨mK VO.out cl c3,mK VO.out cl c4,mK VO.out cl0 x3,TP cl VO.out.size⟩;subst Xh;have HTT:Hid (vI out x.e.name f t=bP out ⟨t.c,t.d,x.e.name,f.c,f.d⟩):=rfl;go_wp2_with fail;rw [← hW1];clear hW1;refine (vJ bK nK out ⟨t.c,t.d,x.e.name,f.c,f.d⟩ W1 ⟨HTF.out.2.2.2.1,HTF.out.2.2.2.2.1,Xn.out.2,HF.out.2.2.2.1,HF.out.2.2.2.2⟩ (ZW.out.below HB1.out)).mono ?_;rintro e w2 ⟨rfl,hb2⟩;have HB2:=aC (HB1.out.trans (hb2.mono HB1.out.size));have Vd:Hid (w2.cell? ⟨w.heap.size + 1,3,none⟩=some (.string f.c)∧w2.cell? ⟨w.heap.size + 1,4,none⟩=some (.string f.d)∧w2.cell? ⟨w.heap.size,3,none⟩=some (.string x.e.name)∧w.heap.size + 1 < w2.heap.size):=⟨mK hb2 VI.out.2.2.2 VI.out.1,mK hb2 VI.out.2.2.2 VI.out.2.1,mK hb2 (by have:=VI.out.2.2.2; omega) VI.out.2.2.1,TP VI.out.2.2.2 hb2.size⟩;clear hb2;cases hh:bP out ⟨t.c,t.d,x.e.name,f.c,f.d⟩;case true=>
   have HN:Hid (gp ts out x.e.over x.e.name f=true):=by show _=_; rw [HL.out,HD2.out,HTT.out,hh]; rfl
   go_wp2;go_ret;exact ⟨by rw [HN.out]; rfl,HB2.out⟩
  have UI:Hid ((L.drop (k + 1)).any (vI out x.e.name f)=L.any (vI out x.e.name f)):=by show _=_; rw [HD2.out,HTT.out,hh]; rfl
  go_wp2;go_roundw;case rel=>exact ⟨k + 1,by omega,by go_num,UI,HB2,Vd⟩
  simp [intOf] <;> omega
 have HN:Hid (gp ts out x.e.over x.e.name f=false):=by show _=_; rw [HL.out,← HP.out,List.drop_of_length_le (by omega)]; rfl
 go_wp2;go_ret;exact ⟨by rw [HN.out]; rfl,HB.out⟩
end
def fM (u:Bool) (ts:List Tp):List Al:=if u then cZ ts else eD ts
def iM (u:Bool) (xs:List Al) (t:Tp):Nat→List Al
 | 0=>xs
 | 1=>if u then xs else aZ xs ⟨t.a,t.b⟩
 | _=>if u then cu xs t else fP xs t
theorem GV (u:Bool) {ts:List Tp} {k:Nat} (h:k < ts.length):fM u (ts.take (k + 1))=iM u (fM u (ts.take k)) ts[k] 2:=by
 rw [TV h];cases u
 ·exact AZ _ _
 exact xZ _ _
theorem JI (u:Bool) (ts:List Tp):(fM u ts).length≤2 * ts.length:=by
 cases u
 ·have key:∀ (ts:List Tp) (xs:List Al),(ts.foldl fP xs).length≤xs.length + 2 * ts.length:=by
   intro ts
   induction ts with
   | nil=>intro xs; simp
   | cons t ts ih=>intro xs; have h1:=ih (fP xs t); have h2:=qP xs t; simp only [List.foldl_cons,List.length_cons]; omega
  have:=key ts [];simpa [fM,eD] using this
 have key:∀ (ts:List Tp) (xs:List Al),(ts.foldl cu xs).length≤xs.length + ts.length:=by
  intro ts
  induction ts with
  | nil=>intro xs; simp
  | cons t ts ih=>intro xs; have h1:=ih (cu xs t); have h2:=qQ xs t; simp only [List.foldl_cons,List.length_cons]; omega
 have:=key ts [];simp [fM,cZ] at this ⊢;omega
theorem Pz (u:Bool) (xs:List Al) (t:Tp) (q:Nat):(iM u xs t q).length≤xs.length + 2:=by
 match q with
 | 0=>simp [iM]
 | 1=>have:=oo xs ⟨t.a,t.b⟩; cases u <;> simp [iM]; omega
 | q + 2=>have h1:=qQ xs t; have h2:=qP xs t; cases u <;> simp [iM] <;> omega
theorem JJ {xs:List Al} {o:Al} {k:Nat} (h:k < xs.length):mJ (xs.take (k + 1)) o=(mJ (xs.take k) o || A9 xs[k].t xs[k].s o.t o.s):=by
 unfold mJ;rw [TV h,List.any_append];simp [jQ,A9]
theorem RH (w:af) (o:Al):∀ j u,[Value.string o.t,.string o.s][j]?=some u→(w.alloc (.cells #[.string o.t,.string o.s] 27)).cell? ((⟨w.heap.size,0,none⟩:Addr).add j)=some u:=fun j u hu=>by
 match j,hu with
 | 0,hu=>simp at hu; subst hu; simp [Addr.add]
 | 1,hu=>simp at hu; subst hu; simp [Addr.add]
theorem jM.at0 {w:af} {ad:Option Addr} {xs:List Al} (h:jM w ad xs) {k:Nat} (hk:k < xs.length):∃ b off,ad=some ⟨b,off,none⟩∧RU w b (off + k * 2) xs[k]∧b < w.heap.size:=by
 rcases h with h | ⟨b',off',e,hb,hr⟩
 ·rw [h] at hk; simp at hk
 exact ⟨b',off',e,hr k hk,hb⟩
theorem sG (ad:Option Addr) (cap:Nat) (ts:List Tp) (u:Bool) (w:af) (hlt:ts.length≤40) (hst:Sl w ad ts) :
  Calls prog 95 #[.slice ad ts.length cap,.bool u] w fun e w'=>(∃ v,e=.returned v∧w'.ownsRow w.heap.size 27 2 v (fM u ts).length (pairs (fM u ts)))∧ag w w':=by
 obtain ⟨iO,h0,h1,h2,h3⟩:=AV;have Yv:=aD (And.intro h0 (And.intro h1 (And.intro h2 h3)));have HST:=aD hst;obtain ⟨W0,hW0⟩:∃ W0,W0=w.alloc (.cells #[] 27):=⟨_,rfl⟩;have HB0:=qZ hW0;have Vi:Hid (W0.ownsRow w.heap.size 27 2 (.slice (some ⟨w.heap.size,0,none⟩) 0 0) (fM u (ts.take 0)).length (pairs (fM u (ts.take 0)))):=by
  have e:fM u (ts.take 0)=[]:=by cases u <;> rfl
  show World.ownsRow _ _ _ _ _ _ _;rw [hW0,e];exact World.ownsRow_lit w #[] 0 (TS _) (by unfold maxLen; omega) (by simp)
 clear hst h0 h1 h2 h3;go_enter func95,ntmps95;go_wp2_with fail;rw [← hW0];clear hW0;go_loopw [5,6] (fun v i wr=>∃ k:Nat,k≤ts.length∧i=.int .i64 k∧Hid (wr.ownsRow w.heap.size 27 2 v (fM u (ts.take k)).length (pairs (fM u (ts.take k))))∧Hid (ag w wr)) (fun _ i _=>ts.length - (intOf i).toNat);case atStart=>exact ⟨0,TW _,rfl,Vi,HB0⟩
 clear Vi HB0;obtain ⟨k,hk,rfl,HOW,UG⟩:=hrel;by_cases hlt2:k < ts.length
 ·have Zw:=aD (GV u hlt2);obtain ⟨x,hx⟩:∃ x,x=ts[k]:=⟨_,rfl⟩;obtain ⟨xs,hxs⟩:∃ xs,xs=fM u (ts.take k):=⟨_,rfl⟩;have hxl:xs.length≤80:=by have:=JI u (ts.take k); rw [Ut] at this; rw [hxs]; omega
  rw [← hx,← hxs] at Zw;rw [← hxs] at HOW;have HX:=aD hx;have hi1:=bB k;have hi2:(k:Int) < (ts.length:Int):=by omega
  clear hxs hx;go_wp2;go_loopw [5,7] (fun v i w2=>∃ q:Nat,q≤2∧i=.int .i64 q∧Hid (w2.ownsRow w.heap.size 27 2 v (iM u xs x q).length (pairs (iM u xs x q)))∧Hid (ag w w2)) (fun _ i _=>2 - (intOf i).toNat);case atStart=>exact ⟨0,by omega,rfl,HOW,UG⟩
  obtain ⟨w2,rfl⟩:∃ w2,w2=wr:=⟨_,rfl⟩;obtain ⟨q,hq,rfl,UB,HB2⟩:=hrel;have hi1:=bB k;have hi2:(k:Int) < (ts.length:Int):=by omega
  have hsl:=Pz u xs x q;obtain ⟨b,off,UF,⟨t0,t1,t2,t3,t4,t5⟩,hb⟩:=Sl.at0 (HST.out.below HB2.out) hlt2;rw [← HX.out] at t0 t1 t2 t3 t4 t5;subst UF;by_cases hq2:q < 2
  ·have hc:q=0 ∨ q=1:=by omega
   rcases hc with rfl | rfl
   case' inl =>
    cases u;case true =>
     have HE:Hid (iM true xs x 1=iM true xs x 0):=rfl;have HR:Hid ((w2.alloc (.cells #[.string x.a,.string x.b] 27)).ownsRow w.heap.size 27 2 u5 (iM true xs x 1).length (pairs (iM true xs x 1))):=by show World.ownsRow _ _ _ _ _ _ _; rw [HE.out]; exact UB.out.alloc _
     have Yj:Hid (ag w (w2.alloc (.cells #[.string x.a,.string x.b] 27))):=HB2.out.alloc HB2.out.size _;go_wp2;exact ⟨⟨1,by omega,rfl,HR,Yj⟩,by decide⟩
    obtain ⟨o,ho⟩:∃ o:Al,o=⟨x.a,x.b⟩:=⟨_,rfl⟩;have XB:Hid (iM false xs x (0 + 1)=aZ (iM false xs x 0) o):=by show _=_; rw [ho]; rfl
    obtain ⟨ys,hys⟩:∃ ys,ys=iM false xs x 0:=⟨_,rfl⟩;rw [← hys] at XB UB hsl;obtain ⟨ns,hns⟩:∃ ns,ns=iM false xs x (0 + 1):=⟨_,rfl⟩;have U7:Hid (∀ (W:World) (v:Value),W.ownsRow w.heap.size 27 2 v ns.length (pairs ns)→W.ownsRow w.heap.size 27 2 v (iM false xs x (0 + 1)).length (pairs (iM false xs x (0 + 1)))):=fun W v h=>by rw [← hns]; exact h
    rw [← hns] at XB;clear hns;clear hys;have hx1:x.a=o.t:=by rw [ho]
    have hx2:x.b=o.s:=by rw [ho]
    clear ho;obtain ⟨Wj,VW,rfl,hsO⟩:=kE UB.out;have HSO:=aD hsO;obtain ⟨W1,hW1⟩:∃ W1,W1=w2.alloc (.cells #[.string o.t,.string o.s] 27):=⟨_,rfl⟩;have VO:=qZ hW1;have hz1:w2.heap.size < W1.heap.size:=by rw [hW1]; simp
    have d0:W1.cell? ⟨w2.heap.size,0,none⟩=some (.string o.t):=by rw [hW1]; simp
    have d1:W1.cell? ⟨w2.heap.size,1,none⟩=some (.string o.s):=by rw [hW1]; simp
    clear hsO;go_wp2_with fail;rw [← hW1];clear hW1 t0 t1 t2 t3 t4 t5 hx1 hx2
   case' inr =>
    cases u
    case' true =>
     cases hz:x.s.toList.isEmpty;case false =>
      have hs2:(x.s.toList == [])=false:=by rw [nk]; exact hz
      have HE:Hid (iM true xs x 2=iM true xs x 1):=by show cu xs x=xs; unfold cu; rw [hs2]; rfl
      have HR:Hid ((w2.alloc (.cells #[.string x.c,.string x.d] 27)).ownsRow w.heap.size 27 2 u5 (iM true xs x 2).length (pairs (iM true xs x 2))):=by show World.ownsRow _ _ _ _ _ _ _; rw [HE.out]; exact UB.out.alloc _
      have Yj:Hid (ag w (w2.alloc (.cells #[.string x.c,.string x.d] 27))):=HB2.out.alloc HB2.out.size _;go_wp2;exact ⟨⟨2,by omega,rfl,HR,Yj⟩,by decide⟩
     have hs2:(x.s.toList == [])=true:=by rw [nk]; exact hz
     obtain ⟨o,ho⟩:∃ o:Al,o=⟨x.c,x.d⟩:=⟨_,rfl⟩;have XB:Hid (iM true xs x (1 + 1)=aZ (iM true xs x 1) o):=by show _=_; rw [ho]; show cu xs x=_; unfold cu; rw [hs2]; rfl
     obtain ⟨ys,hys⟩:∃ ys,ys=iM true xs x 1:=⟨_,rfl⟩;rw [← hys] at XB UB hsl;obtain ⟨ns,hns⟩:∃ ns,ns=iM true xs x (1 + 1):=⟨_,rfl⟩;have U7:Hid (∀ (W:World) (v:Value),W.ownsRow w.heap.size 27 2 v ns.length (pairs ns)→W.ownsRow w.heap.size 27 2 v (iM true xs x (1 + 1)).length (pairs (iM true xs x (1 + 1)))):=fun W v h=>by rw [← hns]; exact h
     rw [← hns] at XB;clear hns;clear hys;have hx1:x.c=o.t:=by rw [ho]
     have hx2:x.d=o.s:=by rw [ho]
     clear ho;obtain ⟨Wj,VW,rfl,hsO⟩:=kE UB.out;have HSO:=aD hsO;obtain ⟨W1,hW1⟩:∃ W1,W1=w2.alloc (.cells #[.string o.t,.string o.s] 27):=⟨_,rfl⟩;have VO:=qZ hW1;have hz1:w2.heap.size < W1.heap.size:=by rw [hW1]; simp
     have d0:W1.cell? ⟨w2.heap.size,0,none⟩=some (.string o.t):=by rw [hW1]; simp
     have d1:W1.cell? ⟨w2.heap.size,1,none⟩=some (.string o.s):=by rw [hW1]; simp
     clear hsO;go_wp2_with fail;rw [← hW1];clear hW1 t0 t1 t2 t3 t4 t5 hx1 hx2
    case' false =>
     obtain ⟨o,ho⟩:∃ o:Al,o=⟨x.c,x.d⟩:=⟨_,rfl⟩;have XB:Hid (iM false xs x (1 + 1)=aZ (iM false xs x 1) o):=by show _=_; rw [ho]; rfl
     obtain ⟨ys,hys⟩:∃ ys,ys=iM false xs x 1:=⟨_,rfl⟩;rw [← hys] at XB UB hsl;obtain ⟨ns,hns⟩:∃ ns,ns=iM false xs x (1 + 1):=⟨_,rfl⟩;have U7:Hid (∀ (W:World) (v:Value),W.ownsRow w.heap.size 27 2 v ns.length (pairs ns)→W.ownsRow w.heap.size 27 2 v (iM false xs x (1 + 1)).length (pairs (iM false xs x (1 + 1)))):=fun W v h=>by rw [← hns]; exact h
     rw [← hns] at XB;clear hns;clear hys;have hx1:x.c=o.t:=by rw [ho]
     have hx2:x.d=o.s:=by rw [ho]
     clear ho;obtain ⟨Wj,VW,rfl,hsO⟩:=kE UB.out;have HSO:=aD hsO;obtain ⟨W1,hW1⟩:∃ W1,W1=w2.alloc (.cells #[.string o.t,.string o.s] 27):=⟨_,rfl⟩;have VO:=qZ hW1;have hz1:w2.heap.size < W1.heap.size:=by rw [hW1]; simp
     have d0:W1.cell? ⟨w2.heap.size,0,none⟩=some (.string o.t):=by rw [hW1]; simp
     have d1:W1.cell? ⟨w2.heap.size,1,none⟩=some (.string o.s):=by rw [hW1]; simp
     clear hsO;go_wp2_with fail;rw [← hW1];clear hW1 t0 t1 t2 t3 t4 t5 hx1 hx2
   all_goals
    go_loopw [9,10] (fun ov j w3=>∃ (m:Nat) (bb:Bool),m≤ys.length∧ov=.bool bb∧j=.int .i64 m∧Hid (bb=mJ (ys.take m) o)∧Hid (ag W1 w3)) (fun _ j _=>ys.length - (intOf j).toNat);case atStart=>exact ⟨0,false,TW _,rfl,rfl,rfl,TT _ _⟩
    obtain ⟨m,bb,hm,rfl,rfl,Wn,HB3⟩:=hrel;have HBx:Hid (ag w2 wr):=VO.out.trans (HB3.out.mono VO.out.size);have HBw:Hid (ag w wr):=HB2.out.trans (HBx.out.mono HB2.out.size);have HOx:=aD (cO UB.out HBx.out);have c0:=mK HB3.out hz1 d0;have c1:=mK HB3.out hz1 d1;have hz3:w2.heap.size < wr.heap.size:=TP hz1 HB3.out.size;by_cases hlm:m < ys.length
    ·obtain ⟨bO,U9,XG,⟨s0,s1⟩,hbO⟩:=jM.at0 (HSO.out.below HBx.out) hlm;have hm1:=bB m;have hm2:(m:Int) < (ys.length:Int):=by omega
     have HTK:=aD (JJ (o:=o) hlm);cases bb;case true=>
      have Yk:Hid (true=mJ (ys.take (m + 1)) o):=by show _=_; rw [HTK.out,← Wn.out]; rfl
      clear s0 s1 c0 c1;go_wp2_with fail;go_quiet (fail);go_wp2;go_roundw;case rel=>exact ⟨m + 1,true,by omega,rfl,by go_num,Yk,below_drewN HB3.out _⟩
      simp [intOf] <;> omega
     cases hv:A9 ys[m].t ys[m].s o.t o.s;case true=>
      have heq:=jJ _ _ _ _ hv;have Yk:Hid (true=mJ (ys.take (m + 1)) o):=by show _=_; rw [HTK.out,hv]; simp
      clear hv;go_wp2_with fail;go_quiet (fail);go_wp2;go_roundw;case rel=>exact ⟨m + 1,true,by omega,rfl,by go_num,Yk,below_drewN HB3.out _⟩
      simp [intOf] <;> omega
     have heq:=jJ _ _ _ _ hv;have Yk:Hid (false=mJ (ys.take (m + 1)) o):=by show _=_; rw [HTK.out,hv,← Wn.out]; rfl
     clear hv;go_wp2_with fail;go_quiet (fail);go_wp2;go_roundw;case rel=>exact ⟨m + 1,false,by omega,rfl,by go_num,Yk,below_drewN HB3.out _⟩
     simp [intOf] <;> omega
    have UO:Hid (bb=mJ ys o):=by show _=_; rw [Wn.out,List.take_of_length_le (by omega)]
    cases bb;case true=>
     have HR:Hid (wr.ownsRow w.heap.size 27 2 (.slice Wj ys.length VW) (ns).length (pairs (ns))):=by
      show World.ownsRow _ _ _ _ _ _ _;rw [XB.out]; unfold aZ; rw [← UO.out]; exact HOx.out
     clear UO c0 c1;go_wp2;have HR2:=aD (U7.out _ _ HR.out)
     first | exact ⟨⟨0 + 1,by omega,rfl,HR2,HBw⟩,by decide⟩ | exact ⟨⟨1 + 1,by omega,rfl,HR2,HBw⟩,by decide⟩
    have HWE:Hid (aZ ys o=ys ++ [o]):=by show _=_; unfold aZ; rw [← UO.out]; rfl
    obtain ⟨W4,VX⟩:∃ W4,W4=wr.alloc (.cells #[.string o.t,.string o.s] 27):=⟨_,rfl⟩;have UT:Hid (W4.ownsRow w.heap.size 27 2 (.slice Wj ys.length VW) ys.length (pairs ys)):=by show World.ownsRow _ _ _ _ _ _ _; rw [VX]; exact HOx.out.alloc _
    have HN4:Hid (∀ j u,[Value.string o.t,.string o.s][j]?=some u→W4.cell? ((⟨wr.heap.size,0,none⟩:Addr).add j)=some u):=by rw [VX]; exact RH wr o
    have Xf:Hid (ag w W4):=by show Below _ _ _; rw [VX]; exact HBw.out.alloc HBw.out.size _
    have hsz4:w.heap.size≤W4.heap.size:=Xf.out.size;clear UO;go_wp2_with (at_builtin; rw [← VX]; clear VX; refine wpList_append_own_at _ rfl _ _ 49 rfl w.heap.size 27 iO (.agg #[.string ⟨#[]⟩,.string ⟨#[]⟩]) 2 32 underlying49 Yv.out.1 Yv.out.2.1 Yv.out.2.2.1 Yv.out.2.2.2 rfl (by decide) _ ys.length (pairs ys) rfl UT.out ⟨wr.heap.size,0,none⟩ 1 1 [.string o.t,.string o.s] rfl rfl HN4.out (by simp [Value.oneCell']) (by unfold maxLen; omega) (by omega) hsz4 ?_);intro v' w5 hown hgr _ _;have HR:Hid (w5.ownsRow w.heap.size 27 2 v' (ns).length (pairs (ns))):=by
     show World.ownsRow _ _ _ _ _ _ _;rw [XB.out,HWE.out,T9];have:pairs (ys ++ [o])=pairs ys ++ [.string o.t,.string o.s]:=by simp [pairs]
     rw [this]; exact hown
    have Yj:Hid (ag w w5):=Xf.out.grown hgr Xf.out.size (fun g hg=>(UT.out.lt g hg).1);clear hown hgr c0 c1;go_wp2;have HR2:=aD (U7.out _ _ HR.out)
    first | exact ⟨⟨0 + 1,by omega,rfl,HR2,Yj⟩,by decide⟩ | exact ⟨⟨1 + 1,by omega,rfl,HR2,Yj⟩,by decide⟩
  have UY:Hid (w2.ownsRow w.heap.size 27 2 u5 (fM u (ts.take (k + 1))).length (pairs (fM u (ts.take (k + 1))))):=by
   have e:q=2:=by omega
   have h2:=UB.out;rw [e] at h2;show World.ownsRow _ _ _ _ _ _ _; rw [Zw.out]; exact h2
  go_wp2;go_roundw;case rel=>exact ⟨k + 1,by omega,by go_num,UY,HB2⟩
  simp [intOf] <;> omega
 have HE:Hid (fM u (ts.take k)=fM u ts):=by show _=_; rw [List.take_of_length_le (by omega)]
 have UY:Hid (wr.ownsRow w.heap.size 27 2 u5 (fM u ts).length (pairs (fM u ts))):=by show World.ownsRow _ _ _ _ _ _ _; rw [← HE.out]; exact HOW.out
 go_wp2;go_ret;exact ⟨⟨_,rfl,UY.out⟩,UG.out⟩
end Go.Proofs.YtajkkeikihhejaaGreat
