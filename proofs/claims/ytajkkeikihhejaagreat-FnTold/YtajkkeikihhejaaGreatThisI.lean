/- The program's questions of a node that is told by tuples, or goes over a relation. -/
import Derived.Test.YtajkkeikihhejaaGreatSq
import Derived.Test.YtajkkeikihhejaaGreatJ24
import Derived.Test.YtajkkeikihhejaaGreatJ22
open Go.Proofs.Tryz
set_option maxHeartbeats 80000000
namespace Go.Proofs.YtajkkeikihhejaaGreat
set_option linter.unusedVariables false
set_option maxRecDepth 100000
open Go.ChangeShapes Go.WideShapes Go.ChangeAt Go.RowKit Go.Maps
open Pl
def BP (out:List Fc) (f:Fc):Option Value:=if bP out f then some (.agg #[]) else none
theorem PT (out:List Fc) (f:Fc):(BP out f).isSome=bP out f:=by unfold BP; cases bP out f <;> rfl
theorem Q4 (out:List Fc) (f:Fc):∀ v,BP out f=some v→v=.agg #[]:=fun v h=>by
 unfold BP at h; split at h
 ·injection h with h; exact h.symm
 cases h
theorem vS (b n:Nat) (out:List Fc) (f:Fc) (w:af) (hf:f.fits) (hV:aM oC prog 29 w b n (BP out)) :
  Calls prog 65 #[.map (some b),.agg #[.string f.a,.string f.b,.string f.r,.string f.c,.string f.d]] w fun e w'=>e=.returned (.bool (bP out f))∧ag w w':=by
 have h:=GI b n (BP out) f w hf hV (Q4 out f);rw [PT] at h;exact h
theorem G7 {w:af} {bp np:Nat} {Mp:K3→Option Value} {E:List (K3 × Tp)} (h:G.Grp qi prog 223 46 6 Tp.row w bp np Mp E) (k:K3):∃ ad cap,(Mp k).getD (.slice none 0 0)=.slice ad (G.lookL E k).length cap∧Sl w ad (G.lookL E k):=by
 obtain ⟨ad,cap,e,hs,-⟩:=Og (ts:=G.lookL E k) (C9 h k) rfl;exact ⟨ad,cap,e,hs⟩
theorem DD (p:Tp→Bool) {ts:List Tp} {k:Nat} (h:k < ts.length):(ts.drop k).any p=(p ts[k] || (ts.drop (k + 1)).any p):=by rw [Un h]; rfl
theorem G8 {ts:List Tp} {k:K3} {t:Tp} (h:t ∈ G.lookL (dK ts) k):t ∈ ts:=by
 have:=G.mem_lookL.1 h;unfold dK at this;obtain ⟨x,hx,e⟩:=Ue.1 this;injection e with e1 e2;rw [← e2]; exact hx
theorem G9 (ts:List Tp) (k:K3):(G.lookL (dK ts) k).length≤ts.length:=by
 unfold G.lookL dK;exact TZ (List.length_filterMap_le _ _) (by simp)
section
variable {w:World} {rs:List TR} {D br bp bt bK nK:Nat} {n1:Int} {nr:Nat} {Mr:KL→Option Value} {Er:List (KL × RR)} {ts:List Tp} {xo xu:List Al} {np:Nat} {Mp:K3→Option Value} {vo vu:Value} {out:List Fc} {f:Fc}
theorem BQ (hD:DatA w rs D br bp bt n1 nr Mr Er (dK ts) xo xu np Mp vo vu) (hK:aM oC prog 29 w bK nK (BP out)) (hf:f.fits) (hts:∀ t ∈ ts,t.fits) (htl:ts.length≤1000) :
  Calls prog 213 #[.pointer (some ⟨D,0,none⟩),.agg #[.string f.a,.string f.b,.string f.r,.string f.c,.string f.d],.map (some bK)] w fun e w'=>e=.returned (.bool (dY ts out f))∧ag w w':=by
 obtain ⟨kl,hkl⟩:=DY (f.a,f.b,f.r) hf.1 hf.2.1 hf.2.2.1;obtain ⟨Zk,Xe,hgd,hsl⟩:=G7 hD.dat.told (f.a,f.b,f.r);have HL:=aC (Jy ts out f);have hll:=G9 ts (f.a,f.b,f.r);have HFL:Hid (∀ t ∈ G.lookL (dK ts) (f.a,f.b,f.r),t.fits):=fun t ht=>hts t (G8 ht);obtain ⟨L,Wl⟩:∃ L,L=G.lookL (dK ts) (f.a,f.b,f.r):=⟨_,rfl⟩;rw [← Wl] at hgd hsl HL hll HFL;obtain ⟨W0,hW0⟩:∃ W0,W0=w.alloc (.cells #[.string f.a,.string f.b,.string f.r,.string f.c,.string f.d] 29):=⟨_,rfl⟩;have HB0:=qY hW0;have c0:W0.cell? ⟨w.heap.size,0,none⟩=some (.string f.a):=by rw [hW0]; simp
 have c1:W0.cell? ⟨w.heap.size,1,none⟩=some (.string f.b):=by rw [hW0]; simp
 have c2:W0.cell? ⟨w.heap.size,2,none⟩=some (.string f.r):=by rw [hW0]; simp
 have c3:W0.cell? ⟨w.heap.size,3,none⟩=some (.string f.c):=by rw [hW0]; simp
 have c4:W0.cell? ⟨w.heap.size,4,none⟩=some (.string f.d):=by rw [hW0]; simp
 have d3:=HB0.out.cell (p:=⟨D,3,none⟩) hD.dat.lt |>.trans hD.dat.c3;have hlk:∀ m,(Instr.lookup 166 (.map (some bp)) (.agg #[.string f.a,.string f.b,.string f.r]) false).run prog (W0.drewN m)=.ok (.slice Zk L.length Xe) (W0.drewN m):=fun m=>by
  have h:=((hD.dat.told.map.below HB0.out).below (below_drewN (TT _ _) m)).look (t:=166) (e:=25) Ro underlying166 (Ja _) (x:=(f.a,f.b,f.r)) hkl;rw [hgd] at h;exact h
 have WG:=aC hsl;have ZN:=aC hK;have HF:=aC hf;have VD:Hid (W0.cell? ⟨w.heap.size,3,none⟩=some (.string f.c)∧W0.cell? ⟨w.heap.size,4,none⟩=some (.string f.d)∧w.heap.size < W0.heap.size):=⟨c3,c4,by rw [hW0]; simp⟩;clear hsl hK hf Wl hgd hkl;go_enter func213,ntmps213;go_wp2_with fail;rw [← hW0];clear hW0;go_quiet (fail);clear c0 c1 c2 c3 c4 d3 hlk;go_wp2;go_loopw [20] (fun i wr=>∃ k:Nat,k≤L.length∧i=.int .i64 k∧Hid ((L.drop k).any (mZ out f)=L.any (mZ out f))∧Hid (ag w wr)∧Hid (wr.cell? ⟨w.heap.size,3,none⟩=some (.string f.c)∧wr.cell? ⟨w.heap.size,4,none⟩=some (.string f.d)∧w.heap.size < wr.heap.size)) (fun i _=>L.length - (intOf i).toNat);case atStart=>exact ⟨0,TW _,rfl,rfl,below_drewN HB0.out _,VD⟩
 clear VD HB0;obtain ⟨k,hk,rfl,HP,HB,HC⟩:=hrel;by_cases hlt:k < L.length
 ·obtain ⟨bT,offT,Xb,⟨a0,a1,a2,a3,a4,a5⟩,hbT⟩:=Sl.at0 (WG.out.below HB.out) hlt;obtain ⟨c3,c4,cl⟩:=HC.out;have hi1:=bB k;have hi2:(k:Int) < (L.length:Int):=by omega
  have HTF:=aC (HFL.out _ (TQ hlt));have HD2:Hid (L.any (mZ out f)=(mZ out f L[k] || (L.drop (k + 1)).any (mZ out f))):=by show _=_; rw [← HP.out]; exact DD _ hlt
  obtain ⟨t,ht⟩:∃ t,t=L[k]:=⟨_,rfl⟩;rw [← ht] at a0 a1 a2 a3 a4 a5 HTF HD2;clear ht;obtain ⟨W1,hW1⟩:∃ W1,W1=wr.alloc (.cells #[.string t.a,.string t.b,.string t.r,.string t.c,.string t.d,.string t.s] 46):=⟨_,rfl⟩;have VM:=qY hW1;have HB1:=aC (HB.out.trans (VM.out.mono HB.out.size));have VE:Hid (W1.cell? ⟨w.heap.size,3,none⟩=some (.string f.c)∧W1.cell? ⟨w.heap.size,4,none⟩=some (.string f.d)∧w.heap.size < W1.heap.size):=⟨mK VM.out cl c3,mK VM.out cl c4,TP cl VM.out.size⟩;subst Xb;cases hs:t.s.toList.isEmpty;case true=>
   have hs2:(t.s.toList == [])=true:=by rw [mX]; exact hs
   have HTT:Hid (mZ out f t=Ak t.c t.d f.c f.d):=by show _=_; unfold mZ; rw [if_pos hs]; rfl
   cases hu:Ak t.c t.d f.c f.d;case true=>
    have heq:=jI _ _ _ _ hu;have HN:Hid (dY ts out f=true):=by show _=_; rw [HL.out,HD2.out,HTT.out,hu]; rfl
    clear hu hs;go_wp2;rw [← hW1];go_ret;exact ⟨by rw [HN.out]; rfl,HB1.out⟩
   have heq:=jI _ _ _ _ hu;have UI:Hid ((L.drop (k + 1)).any (mZ out f)=L.any (mZ out f)):=by show _=_; rw [HD2.out,HTT.out,hu]; rfl
   clear hu hs;go_wp2;rw [← hW1];clear hW1;go_roundw;case rel=>exact ⟨k + 1,by omega,by go_num,UI,HB1,VE⟩
   simp [intOf] <;> omega
  have hs2:(t.s.toList == [])=false:=by rw [mX]; exact hs
  have HTT:Hid (mZ out f t=bP out ⟨t.c,t.d,t.s,f.c,f.d⟩):=by show _=_; unfold mZ; rw [if_neg (by rw [hs]; decide)]
  clear hs;go_wp2_with fail;rw [← hW1];clear hW1;refine (vS bK nK out ⟨t.c,t.d,t.s,f.c,f.d⟩ W1 ⟨HTF.out.2.2.2.1,HTF.out.2.2.2.2.1,HTF.out.2.2.2.2.2,HF.out.2.2.2.1,HF.out.2.2.2.2⟩ (ZN.out.below HB1.out)).mono ?_;rintro e w2 ⟨rfl,hb2⟩;have HB2:=aC (HB1.out.trans (hb2.mono HB1.out.size));have Va:Hid (w2.cell? ⟨w.heap.size,3,none⟩=some (.string f.c)∧w2.cell? ⟨w.heap.size,4,none⟩=some (.string f.d)∧w.heap.size < w2.heap.size):=⟨mK hb2 VE.out.2.2 VE.out.1,mK hb2 VE.out.2.2 VE.out.2.1,TP VE.out.2.2 hb2.size⟩;clear hb2;cases hh:bP out ⟨t.c,t.d,t.s,f.c,f.d⟩;case true=>
   have HN:Hid (dY ts out f=true):=by show _=_; rw [HL.out,HD2.out,HTT.out,hh]; rfl
   go_wp2;go_ret;exact ⟨by rw [HN.out]; rfl,HB2.out⟩
  have UI:Hid ((L.drop (k + 1)).any (mZ out f)=L.any (mZ out f)):=by show _=_; rw [HD2.out,HTT.out,hh]; rfl
  go_wp2;go_roundw;case rel=>exact ⟨k + 1,by omega,by go_num,UI,HB2,Va⟩
  simp [intOf] <;> omega
 have HN:Hid (dY ts out f=false):=by show _=_; rw [HL.out,← HP.out,List.drop_of_length_le (by omega)]; rfl
 go_wp2;go_ret;exact ⟨by rw [HN.out]; rfl,HB.out⟩
theorem BR (hD:DatA w rs D br bp bt n1 nr Mr Er (dK ts) xo xu np Mp vo vu) (hK:aM oC prog 29 w bK nK (BP out)) (x:ER) (YA:x.e.over.size≤maxLen∧x.e.name.size≤maxLen) (hf:f.fits) (hts:∀ t ∈ ts,t.fits) (htl:ts.length≤1000) :
  Calls prog 214 #[.pointer (some ⟨D,0,none⟩),.agg #[.int .i64 x.e.kind,.slice x.adA x.e.allow.length x.capA,.string x.e.over,.string x.e.name,.slice x.adK x.e.kids.length x.capK],.agg #[.string f.a,.string f.b,.string f.r,.string f.c,.string f.d],.map (some bK)] w fun e w'=>e=.returned (.bool (gp ts out x.e.over x.e.name f))∧ag w w':=by
 obtain ⟨kl,hkl⟩:=DY (f.a,f.b,x.e.over) hf.1 hf.2.1 YA.1;obtain ⟨Zk,Xe,hgd,hsl⟩:=G7 hD.dat.told (f.a,f.b,x.e.over);have HL:=aC (Jz ts out x.e.over x.e.name f);have hll:=G9 ts (f.a,f.b,x.e.over);have HFL:Hid (∀ t ∈ G.lookL (dK ts) (f.a,f.b,x.e.over),t.fits):=fun t ht=>hts t (G8 ht);obtain ⟨L,Wl⟩:∃ L,L=G.lookL (dK ts) (f.a,f.b,x.e.over):=⟨_,rfl⟩;rw [← Wl] at hgd hsl HL hll HFL;obtain ⟨W0,hW0⟩:∃ W0,W0=(w.alloc (.cells #[.int .i64 x.e.kind,.slice x.adA x.e.allow.length x.capA,.string x.e.over,.string x.e.name,.slice x.adK x.e.kids.length x.capK] 39)).alloc (.cells #[.string f.a,.string f.b,.string f.r,.string f.c,.string f.d] 29):=⟨_,rfl⟩;have HB0:Hid (ag w W0):=by show Below _ _ _; rw [hW0]; exact ((TT _ _).alloc (TS _) _).alloc (by simp) _
 have c0:W0.cell? ⟨w.heap.size + 1,0,none⟩=some (.string f.a):=by rw [hW0]; simp
 have c1:W0.cell? ⟨w.heap.size + 1,1,none⟩=some (.string f.b):=by rw [hW0]; simp
 have c2:W0.cell? ⟨w.heap.size + 1,2,none⟩=some (.string f.r):=by rw [hW0]; simp
 have c3:W0.cell? ⟨w.heap.size + 1,3,none⟩=some (.string f.c):=by rw [hW0]; simp
 have c4:W0.cell? ⟨w.heap.size + 1,4,none⟩=some (.string f.d):=by rw [hW0]; simp
 have x2:W0.cell? ⟨w.heap.size,2,none⟩=some (.string x.e.over):=by rw [hW0]; simp
 have x3:W0.cell? ⟨w.heap.size,3,none⟩=some (.string x.e.name):=by rw [hW0]; simp
 have d3:=HB0.out.cell (p:=⟨D,3,none⟩) hD.dat.lt |>.trans hD.dat.c3;have hlk:∀ m,(Instr.lookup 166 (.map (some bp)) (.agg #[.string f.a,.string f.b,.string x.e.over]) false).run prog (W0.drewN m)=.ok (.slice Zk L.length Xe) (W0.drewN m):=fun m=>by
  have h:=((hD.dat.told.map.below HB0.out).below (below_drewN (TT _ _) m)).look (t:=166) (e:=25) Ro underlying166 (Ja _) (x:=(f.a,f.b,x.e.over)) hkl;rw [hgd] at h;exact h
 have WG:=aC hsl;have ZN:=aC hK;have HF:=aC hf;have Xi:=aC YA;have VD:Hid (W0.cell? ⟨w.heap.size + 1,3,none⟩=some (.string f.c)∧W0.cell? ⟨w.heap.size + 1,4,none⟩=some (.string f.d)∧W0.cell? ⟨w.heap.size,3,none⟩=some (.string x.e.name)∧w.heap.size + 1 < W0.heap.size):=⟨c3,c4,x3,by rw [hW0]; simp⟩;clear hsl hK hf Wl hgd hkl;go_enter func214,ntmps214;go_wp2_with fail;rw [← hW0];clear hW0;go_quiet (fail);clear c0 c1 c2 c3 c4 d3 x2 x3 hlk;go_wp2;go_loopw [22] (fun i wr=>∃ k:Nat,k≤L.length∧i=.int .i64 k∧Hid ((L.drop k).any (vG out x.e.name f)=L.any (vG out x.e.name f))∧Hid (ag w wr)∧Hid (wr.cell? ⟨w.heap.size + 1,3,none⟩=some (.string f.c)∧wr.cell? ⟨w.heap.size + 1,4,none⟩=some (.string f.d)∧wr.cell? ⟨w.heap.size,3,none⟩=some (.string x.e.name)∧w.heap.size + 1 < wr.heap.size)) (fun i _=>L.length - (intOf i).toNat);case atStart=>exact ⟨0,TW _,rfl,rfl,below_drewN HB0.out _,VD⟩
 clear VD HB0;obtain ⟨k,hk,rfl,HP,HB,HC⟩:=hrel;by_cases hlt:k < L.length
 ·obtain ⟨bT,offT,Xb,⟨a0,a1,a2,a3,a4,a5⟩,hbT⟩:=Sl.at0 (WG.out.below HB.out) hlt;obtain ⟨c3,c4,x3,cl⟩:=HC.out;have cl0:w.heap.size < wr.heap.size:=by omega
  have hi1:=bB k;have hi2:(k:Int) < (L.length:Int):=by omega
  have HTF:=aC (HFL.out _ (TQ hlt));have HD2:Hid (L.any (vG out x.e.name f)=(vG out x.e.name f L[k] || (L.drop (k + 1)).any (vG out x.e.name f))):=by show _=_; rw [← HP.out]; exact DD _ hlt
  obtain ⟨t,ht⟩:∃ t,t=L[k]:=⟨_,rfl⟩;rw [← ht] at a0 a1 a2 a3 a4 a5 HTF HD2;clear ht;obtain ⟨W1,hW1⟩:∃ W1,W1=wr.alloc (.cells #[.string t.a,.string t.b,.string t.r,.string t.c,.string t.d,.string t.s] 46):=⟨_,rfl⟩;have VM:=qY hW1;have HB1:=aC (HB.out.trans (VM.out.mono HB.out.size));have VE:Hid (W1.cell? ⟨w.heap.size + 1,3,none⟩=some (.string f.c)∧W1.cell? ⟨w.heap.size + 1,4,none⟩=some (.string f.d)∧W1.cell? ⟨w.heap.size,3,none⟩=some (.string x.e.name)∧w.heap.size + 1 < W1.heap.size):=⟨mK VM.out cl c3,mK VM.out cl c4,mK VM.out cl0 x3,TP cl VM.out.size⟩;subst Xb;have HTT:Hid (vG out x.e.name f t=bP out ⟨t.c,t.d,x.e.name,f.c,f.d⟩):=rfl;go_wp2_with fail;rw [← hW1];clear hW1;refine (vS bK nK out ⟨t.c,t.d,x.e.name,f.c,f.d⟩ W1 ⟨HTF.out.2.2.2.1,HTF.out.2.2.2.2.1,Xi.out.2,HF.out.2.2.2.1,HF.out.2.2.2.2⟩ (ZN.out.below HB1.out)).mono ?_;rintro e w2 ⟨rfl,hb2⟩;have HB2:=aC (HB1.out.trans (hb2.mono HB1.out.size));have Va:Hid (w2.cell? ⟨w.heap.size + 1,3,none⟩=some (.string f.c)∧w2.cell? ⟨w.heap.size + 1,4,none⟩=some (.string f.d)∧w2.cell? ⟨w.heap.size,3,none⟩=some (.string x.e.name)∧w.heap.size + 1 < w2.heap.size):=⟨mK hb2 VE.out.2.2.2 VE.out.1,mK hb2 VE.out.2.2.2 VE.out.2.1,mK hb2 (by have:=VE.out.2.2.2; omega) VE.out.2.2.1,TP VE.out.2.2.2 hb2.size⟩;clear hb2;cases hh:bP out ⟨t.c,t.d,x.e.name,f.c,f.d⟩;case true=>
   have HN:Hid (gp ts out x.e.over x.e.name f=true):=by show _=_; rw [HL.out,HD2.out,HTT.out,hh]; rfl
   go_wp2;go_ret;exact ⟨by rw [HN.out]; rfl,HB2.out⟩
  have UI:Hid ((L.drop (k + 1)).any (vG out x.e.name f)=L.any (vG out x.e.name f)):=by show _=_; rw [HD2.out,HTT.out,hh]; rfl
  go_wp2;go_roundw;case rel=>exact ⟨k + 1,by omega,by go_num,UI,HB2,Va⟩
  simp [intOf] <;> omega
 have HN:Hid (gp ts out x.e.over x.e.name f=false):=by show _=_; rw [HL.out,← HP.out,List.drop_of_length_le (by omega)]; rfl
 go_wp2;go_ret;exact ⟨by rw [HN.out]; rfl,HB.out⟩
end
end Go.Proofs.YtajkkeikihhejaaGreat
