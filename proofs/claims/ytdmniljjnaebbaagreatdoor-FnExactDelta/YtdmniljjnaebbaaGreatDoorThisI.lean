/- The program's questions of a node that is told by tuples, or goes over a relation. -/
import Derived.Test.YtdmniljjnaebbaaGreatDoorSq
import Derived.Test.YtdmniljjnaebbaaGreatDoorJ18
open Go.Proofs.Tryz
set_option maxHeartbeats 80000000
namespace Go.Proofs.YtdmniljjnaebbaaGreatDoor
set_option linter.unusedVariables false
set_option maxRecDepth 100000
open Go.ChangeShapes Go.WideShapes Go.ChangeAt Go.RowKit Go.Maps
open Pl
def vS (out:List Fc) (f:Fc):Option Value:=if dG out f then some (.agg #[]) else none
theorem Nv (out:List Fc) (f:Fc):(vS out f).isSome=dG out f:=by unfold vS; cases dG out f <;> rfl
theorem Pj (out:List Fc) (f:Fc):∀ v,vS out f=some v→v=.agg #[]:=fun v h=>by
 unfold vS at h; split at h
 ·injection h with h; exact h.symm
 cases h
theorem pE (b n:Nat) (out:List Fc) (f:Fc) (w:af) (hf:f.fits) (hV:aJ jJ prog 63 w b n (vS out)) :
  Calls prog 64 #[.map (some b),.agg #[.string f.a,.string f.b,.string f.r,.string f.c,.string f.d]] w fun e w'=>e=.returned (.bool (dG out f))∧aa w w':=by
 have h:=EM b n (vS out) f w hf hV (Pj out f);rw [Nv] at h;exact h
theorem Fu {w:af} {bp np:Nat} {Mp:K3→Option Value} {E:List (K3 × Tp)} (h:G.Grp oM prog 233 42 6 Tp.row w bp np Mp E) (k:K3):∃ ad cap,(Mp k).getD (.slice none 0 0)=.slice ad (G.lookL E k).length cap∧Sl w ad (G.lookL E k):=by
 obtain ⟨ad,cap,e,hs,-⟩:=Mq (ts:=G.lookL E k) (Bo h k) rfl;exact ⟨ad,cap,e,hs⟩
theorem BP (p:Tp→Bool) {ts:List Tp} {k:Nat} (h:k < ts.length):(ts.drop k).any p=(p ts[k] || (ts.drop (k + 1)).any p):=by rw [SH h]; rfl
theorem Fv {ts:List Tp} {k:K3} {t:Tp} (h:t ∈ G.lookL (dm ts) k):t ∈ ts:=by
 have:=G.mem_lookL.1 h;unfold dm at this;obtain ⟨x,hx,e⟩:=Sy.1 this;injection e with e1 e2;rw [← e2]; exact hx
theorem Fw (ts:List Tp) (k:K3):(G.lookL (dm ts) k).length≤ts.length:=by
 unfold G.lookL dm;exact Sq (List.length_filterMap_le _ _) (by simp)
section
variable {w:World} {rs:List TR} {D br bp bt bK nK:Nat} {n1:Int} {nr:Nat} {Mr:KL→Option Value} {Er:List (KL × RR)} {ts:List Tp} {xo xu:List Al} {np:Nat} {Mp:K3→Option Value} {vo vu:Value} {out:List Fc} {f:Fc}
theorem Am (hD:DatA w rs D br bp bt n1 nr Mr Er (dm ts) xo xu np Mp vo vu) (hK:aJ jJ prog 63 w bK nK (vS out)) (hf:f.fits) (hts:∀ t ∈ ts,t.fits) (htl:ts.length≤1000) :
  Calls prog 201 #[.pointer (some ⟨D,0,none⟩),.agg #[.string f.a,.string f.b,.string f.r,.string f.c,.string f.d],.map (some bK)] w fun e w'=>e=.returned (.bool (eu ts out f))∧aa w w':=by
 obtain ⟨kl,hkl⟩:=Ci (f.a,f.b,f.r) hf.1 hf.2.1 hf.2.2.1;obtain ⟨Wz,VG,hgd,hsl⟩:=Fu hD.dat.told (f.a,f.b,f.r);have HL:=aj (H6 ts out f);have hll:=Fw ts (f.a,f.b,f.r);have Zz:Hid (∀ t ∈ G.lookL (dm ts) (f.a,f.b,f.r),t.fits):=fun t ht=>hts t (Fv ht);obtain ⟨L,WO⟩:∃ L,L=G.lookL (dm ts) (f.a,f.b,f.r):=⟨_,rfl⟩;rw [← WO] at hgd hsl HL hll Zz;obtain ⟨W0,hW0⟩:∃ W0,W0=w.alloc (.cells #[.string f.a,.string f.b,.string f.r,.string f.c,.string f.d] 63):=⟨_,rfl⟩;have HB0:=mY hW0;have c0:W0.cell? ⟨w.heap.size,0,none⟩=some (.string f.a):=by rw [hW0]; simp
 have c1:W0.cell? ⟨w.heap.size,1,none⟩=some (.string f.b):=by rw [hW0]; simp
 have c2:W0.cell? ⟨w.heap.size,2,none⟩=some (.string f.r):=by rw [hW0]; simp
 have c3:W0.cell? ⟨w.heap.size,3,none⟩=some (.string f.c):=by rw [hW0]; simp
 have c4:W0.cell? ⟨w.heap.size,4,none⟩=some (.string f.d):=by rw [hW0]; simp
 have d3:=HB0.out.cell (p:=⟨D,3,none⟩) hD.dat.lt |>.trans hD.dat.c3;have hlk:∀ m,(Instr.lookup 150 (.map (some bp)) (.agg #[.string f.a,.string f.b,.string f.r]) false).run prog (W0.drewN m)=.ok (.slice Wz L.length VG) (W0.drewN m):=fun m=>by
  have h:=((hD.dat.told.map.below HB0.out).below (below_drewN (Si _ _) m)).look (t:=150) (e:=38) PY underlying150 (G6 _) (x:=(f.a,f.b,f.r)) hkl;rw [hgd] at h;exact h
 have Uj:=aj hsl;have WB:=aj hK;have HF:=aj hf;have U0:Hid (W0.cell? ⟨w.heap.size,3,none⟩=some (.string f.c)∧W0.cell? ⟨w.heap.size,4,none⟩=some (.string f.d)∧w.heap.size < W0.heap.size):=⟨c3,c4,by rw [hW0]; simp⟩;clear hsl hK hf WO hgd hkl;go_enter func201,ntmps201;go_wp2_with fail;rw [← hW0];clear hW0;go_quiet (fail);clear c0 c1 c2 c3 c4 d3 hlk;go_wp2;go_loopw [20] (fun i wr=>∃ k:Nat,k≤L.length∧i=.int .i64 k∧Hid ((L.drop k).any (lh out f)=L.any (lh out f))∧Hid (aa w wr)∧Hid (wr.cell? ⟨w.heap.size,3,none⟩=some (.string f.c)∧wr.cell? ⟨w.heap.size,4,none⟩=some (.string f.d)∧w.heap.size < wr.heap.size)) (fun i _=>L.length - (intOf i).toNat);case atStart=>exact ⟨0,Sm _,rfl,rfl,below_drewN HB0.out _,U0⟩
 clear U0 HB0;obtain ⟨k,hk,rfl,HP,HB,HC⟩:=hrel;by_cases hlt:k < L.length
 ·obtain ⟨bT,offT,VH,⟨a0,a1,a2,a3,a4,a5⟩,hbT⟩:=Sl.at0 (Uj.out.below HB.out) hlt;obtain ⟨c3,c4,cl⟩:=HC.out;have hi1:=bH k;have hi2:(k:Int) < (L.length:Int):=by omega
  have HTF:=aj (Zz.out _ (Sd hlt));have HD2:Hid (L.any (lh out f)=(lh out f L[k] || (L.drop (k + 1)).any (lh out f))):=by show _=_; rw [← HP.out]; exact BP _ hlt
  obtain ⟨t,ht⟩:∃ t,t=L[k]:=⟨_,rfl⟩;rw [← ht] at a0 a1 a2 a3 a4 a5 HTF HD2;clear ht;obtain ⟨W1,hW1⟩:∃ W1,W1=wr.alloc (.cells #[.string t.a,.string t.b,.string t.r,.string t.c,.string t.d,.string t.s] 42):=⟨_,rfl⟩;have TT:=mY hW1;have HB1:=aj (HB.out.trans (TT.out.mono HB.out.size));have TW:Hid (W1.cell? ⟨w.heap.size,3,none⟩=some (.string f.c)∧W1.cell? ⟨w.heap.size,4,none⟩=some (.string f.d)∧w.heap.size < W1.heap.size):=⟨mK TT.out cl c3,mK TT.out cl c4,Sg cl TT.out.size⟩;subst VH;cases hs:t.s.toList.isEmpty;case true=>
   have hs2:(t.s.toList == [])=true:=by rw [qa]; exact hs
   have HTT:Hid (lh out f t=yR t.c t.d f.c f.d):=by show _=_; unfold lh; rw [if_pos hs]; rfl
   cases hu:yR t.c t.d f.c f.d;case true=>
    have heq:=iY _ _ _ _ hu;have HN:Hid (eu ts out f=true):=by show _=_; rw [HL.out,HD2.out,HTT.out,hu]; rfl
    clear hu hs;go_wp2;rw [← hW1];go_ret;exact ⟨by rw [HN.out]; rfl,HB1.out⟩
   have heq:=iY _ _ _ _ hu;have Tu:Hid ((L.drop (k + 1)).any (lh out f)=L.any (lh out f)):=by show _=_; rw [HD2.out,HTT.out,hu]; rfl
   clear hu hs;go_wp2;rw [← hW1];clear hW1;go_roundw;case rel=>exact ⟨k + 1,by omega,by go_num,Tu,HB1,TW⟩
   simp [intOf] <;> omega
  have hs2:(t.s.toList == [])=false:=by rw [qa]; exact hs
  have HTT:Hid (lh out f t=dG out ⟨t.c,t.d,t.s,f.c,f.d⟩):=by show _=_; unfold lh; rw [if_neg (by rw [hs]; decide)]
  clear hs;go_wp2_with fail;rw [← hW1];clear hW1;refine (pE bK nK out ⟨t.c,t.d,t.s,f.c,f.d⟩ W1 ⟨HTF.out.2.2.2.1,HTF.out.2.2.2.2.1,HTF.out.2.2.2.2.2,HF.out.2.2.2.1,HF.out.2.2.2.2⟩ (WB.out.below HB1.out)).mono ?_;rintro e w2 ⟨rfl,hb2⟩;have HB2:=aj (HB1.out.trans (hb2.mono HB1.out.size));have Tx:Hid (w2.cell? ⟨w.heap.size,3,none⟩=some (.string f.c)∧w2.cell? ⟨w.heap.size,4,none⟩=some (.string f.d)∧w.heap.size < w2.heap.size):=⟨mK hb2 TW.out.2.2 TW.out.1,mK hb2 TW.out.2.2 TW.out.2.1,Sg TW.out.2.2 hb2.size⟩;clear hb2;cases hh:dG out ⟨t.c,t.d,t.s,f.c,f.d⟩;case true=>
   have HN:Hid (eu ts out f=true):=by show _=_; rw [HL.out,HD2.out,HTT.out,hh]; rfl
   go_wp2;go_ret;exact ⟨by rw [HN.out]; rfl,HB2.out⟩
  have Tu:Hid ((L.drop (k + 1)).any (lh out f)=L.any (lh out f)):=by show _=_; rw [HD2.out,HTT.out,hh]; rfl
  go_wp2;go_roundw;case rel=>exact ⟨k + 1,by omega,by go_num,Tu,HB2,Tx⟩
  simp [intOf] <;> omega
 have HN:Hid (eu ts out f=false):=by show _=_; rw [HL.out,← HP.out,List.drop_of_length_le (by omega)]; rfl
 go_wp2;go_ret;exact ⟨by rw [HN.out]; rfl,HB.out⟩
theorem Ao (hD:DatA w rs D br bp bt n1 nr Mr Er (dm ts) xo xu np Mp vo vu) (hK:aJ jJ prog 63 w bK nK (vS out)) (x:ER) (Xw:x.e.over.size≤maxLen∧x.e.name.size≤maxLen) (hf:f.fits) (hts:∀ t ∈ ts,t.fits) (htl:ts.length≤1000) :
  Calls prog 202 #[.pointer (some ⟨D,0,none⟩),.agg #[.int .i64 x.e.kind,.slice x.adA x.e.allow.length x.capA,.string x.e.over,.string x.e.name,.slice x.adK x.e.kids.length x.capK],.agg #[.string f.a,.string f.b,.string f.r,.string f.c,.string f.d],.map (some bK)] w fun e w'=>e=.returned (.bool (fI ts out x.e.over x.e.name f))∧aa w w':=by
 obtain ⟨kl,hkl⟩:=Ci (f.a,f.b,x.e.over) hf.1 hf.2.1 Xw.1;obtain ⟨Wz,VG,hgd,hsl⟩:=Fu hD.dat.told (f.a,f.b,x.e.over);have HL:=aj (H7 ts out x.e.over x.e.name f);have hll:=Fw ts (f.a,f.b,x.e.over);have Zz:Hid (∀ t ∈ G.lookL (dm ts) (f.a,f.b,x.e.over),t.fits):=fun t ht=>hts t (Fv ht);obtain ⟨L,WO⟩:∃ L,L=G.lookL (dm ts) (f.a,f.b,x.e.over):=⟨_,rfl⟩;rw [← WO] at hgd hsl HL hll Zz;obtain ⟨W0,hW0⟩:∃ W0,W0=(w.alloc (.cells #[.int .i64 x.e.kind,.slice x.adA x.e.allow.length x.capA,.string x.e.over,.string x.e.name,.slice x.adK x.e.kids.length x.capK] 190)).alloc (.cells #[.string f.a,.string f.b,.string f.r,.string f.c,.string f.d] 63):=⟨_,rfl⟩;have HB0:Hid (aa w W0):=by show Below _ _ _; rw [hW0]; exact ((Si _ _).alloc (Sj _) _).alloc (by simp) _
 have c0:W0.cell? ⟨w.heap.size + 1,0,none⟩=some (.string f.a):=by rw [hW0]; simp
 have c1:W0.cell? ⟨w.heap.size + 1,1,none⟩=some (.string f.b):=by rw [hW0]; simp
 have c2:W0.cell? ⟨w.heap.size + 1,2,none⟩=some (.string f.r):=by rw [hW0]; simp
 have c3:W0.cell? ⟨w.heap.size + 1,3,none⟩=some (.string f.c):=by rw [hW0]; simp
 have c4:W0.cell? ⟨w.heap.size + 1,4,none⟩=some (.string f.d):=by rw [hW0]; simp
 have x2:W0.cell? ⟨w.heap.size,2,none⟩=some (.string x.e.over):=by rw [hW0]; simp
 have x3:W0.cell? ⟨w.heap.size,3,none⟩=some (.string x.e.name):=by rw [hW0]; simp
 have d3:=HB0.out.cell (p:=⟨D,3,none⟩) hD.dat.lt |>.trans hD.dat.c3;have hlk:∀ m,(Instr.lookup 150 (.map (some bp)) (.agg #[.string f.a,.string f.b,.string x.e.over]) false).run prog (W0.drewN m)=.ok (.slice Wz L.length VG) (W0.drewN m):=fun m=>by
  have h:=((hD.dat.told.map.below HB0.out).below (below_drewN (Si _ _) m)).look (t:=150) (e:=38) PY underlying150 (G6 _) (x:=(f.a,f.b,x.e.over)) hkl;rw [hgd] at h;exact h
 have Uj:=aj hsl;have WB:=aj hK;have HF:=aj hf;have Vi:=aj Xw;have U0:Hid (W0.cell? ⟨w.heap.size + 1,3,none⟩=some (.string f.c)∧W0.cell? ⟨w.heap.size + 1,4,none⟩=some (.string f.d)∧W0.cell? ⟨w.heap.size,3,none⟩=some (.string x.e.name)∧w.heap.size + 1 < W0.heap.size):=⟨c3,c4,x3,by rw [hW0]; simp⟩;clear hsl hK hf WO hgd hkl;go_enter func202,ntmps202;go_wp2_with fail;rw [← hW0];clear hW0;go_quiet (fail);clear c0 c1 c2 c3 c4 d3 x2 x3 hlk;go_wp2;go_loopw [22] (fun i wr=>∃ k:Nat,k≤L.length∧i=.int .i64 k∧Hid ((L.drop k).any (sK out x.e.name f)=L.any (sK out x.e.name f))∧Hid (aa w wr)∧Hid (wr.cell? ⟨w.heap.size + 1,3,none⟩=some (.string f.c)∧wr.cell? ⟨w.heap.size + 1,4,none⟩=some (.string f.d)∧wr.cell? ⟨w.heap.size,3,none⟩=some (.string x.e.name)∧w.heap.size + 1 < wr.heap.size)) (fun i _=>L.length - (intOf i).toNat);case atStart=>exact ⟨0,Sm _,rfl,rfl,below_drewN HB0.out _,U0⟩
 clear U0 HB0;obtain ⟨k,hk,rfl,HP,HB,HC⟩:=hrel;by_cases hlt:k < L.length
 ·obtain ⟨bT,offT,VH,⟨a0,a1,a2,a3,a4,a5⟩,hbT⟩:=Sl.at0 (Uj.out.below HB.out) hlt;obtain ⟨c3,c4,x3,cl⟩:=HC.out;have cl0:w.heap.size < wr.heap.size:=by omega
  have hi1:=bH k;have hi2:(k:Int) < (L.length:Int):=by omega
  have HTF:=aj (Zz.out _ (Sd hlt));have HD2:Hid (L.any (sK out x.e.name f)=(sK out x.e.name f L[k] || (L.drop (k + 1)).any (sK out x.e.name f))):=by show _=_; rw [← HP.out]; exact BP _ hlt
  obtain ⟨t,ht⟩:∃ t,t=L[k]:=⟨_,rfl⟩;rw [← ht] at a0 a1 a2 a3 a4 a5 HTF HD2;clear ht;obtain ⟨W1,hW1⟩:∃ W1,W1=wr.alloc (.cells #[.string t.a,.string t.b,.string t.r,.string t.c,.string t.d,.string t.s] 42):=⟨_,rfl⟩;have TT:=mY hW1;have HB1:=aj (HB.out.trans (TT.out.mono HB.out.size));have TW:Hid (W1.cell? ⟨w.heap.size + 1,3,none⟩=some (.string f.c)∧W1.cell? ⟨w.heap.size + 1,4,none⟩=some (.string f.d)∧W1.cell? ⟨w.heap.size,3,none⟩=some (.string x.e.name)∧w.heap.size + 1 < W1.heap.size):=⟨mK TT.out cl c3,mK TT.out cl c4,mK TT.out cl0 x3,Sg cl TT.out.size⟩;subst VH;have HTT:Hid (sK out x.e.name f t=dG out ⟨t.c,t.d,x.e.name,f.c,f.d⟩):=rfl;go_wp2_with fail;rw [← hW1];clear hW1;refine (pE bK nK out ⟨t.c,t.d,x.e.name,f.c,f.d⟩ W1 ⟨HTF.out.2.2.2.1,HTF.out.2.2.2.2.1,Vi.out.2,HF.out.2.2.2.1,HF.out.2.2.2.2⟩ (WB.out.below HB1.out)).mono ?_;rintro e w2 ⟨rfl,hb2⟩;have HB2:=aj (HB1.out.trans (hb2.mono HB1.out.size));have Tx:Hid (w2.cell? ⟨w.heap.size + 1,3,none⟩=some (.string f.c)∧w2.cell? ⟨w.heap.size + 1,4,none⟩=some (.string f.d)∧w2.cell? ⟨w.heap.size,3,none⟩=some (.string x.e.name)∧w.heap.size + 1 < w2.heap.size):=⟨mK hb2 TW.out.2.2.2 TW.out.1,mK hb2 TW.out.2.2.2 TW.out.2.1,mK hb2 (by have:=TW.out.2.2.2; omega) TW.out.2.2.1,Sg TW.out.2.2.2 hb2.size⟩;clear hb2;cases hh:dG out ⟨t.c,t.d,x.e.name,f.c,f.d⟩;case true=>
   have HN:Hid (fI ts out x.e.over x.e.name f=true):=by show _=_; rw [HL.out,HD2.out,HTT.out,hh]; rfl
   go_wp2;go_ret;exact ⟨by rw [HN.out]; rfl,HB2.out⟩
  have Tu:Hid ((L.drop (k + 1)).any (sK out x.e.name f)=L.any (sK out x.e.name f)):=by show _=_; rw [HD2.out,HTT.out,hh]; rfl
  go_wp2;go_roundw;case rel=>exact ⟨k + 1,by omega,by go_num,Tu,HB2,Tx⟩
  simp [intOf] <;> omega
 have HN:Hid (fI ts out x.e.over x.e.name f=false):=by show _=_; rw [HL.out,← HP.out,List.drop_of_length_le (by omega)]; rfl
 go_wp2;go_ret;exact ⟨by rw [HN.out]; rfl,HB.out⟩
end
end Go.Proofs.YtdmniljjnaebbaaGreatDoor
