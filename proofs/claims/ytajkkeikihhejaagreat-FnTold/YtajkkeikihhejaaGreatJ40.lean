/- Contract of the document's Check. -/
import Derived.Test.YtajkkeikihhejaaGreatSq
import Derived.Test.YtajkkeikihhejaaGreatFactsQ
import Derived.Test.YtajkkeikihhejaaGreatJ38
open Go.Proofs.Tryz
set_option maxHeartbeats 80000000
namespace Go.Proofs.YtajkkeikihhejaaGreat
set_option maxRecDepth 100000
set_option linter.unusedVariables false
set_option linter.unusedSectionVars false
open Go.ChangeShapes Go.WideShapes Go.ChangeAt Go.RowKit Go.Maps
open Pl
section
variable [DecidableEq Fc]
theorem sJ (st:ByteArray × ByteArray→Int) (ad:Option Addr) (cap:Nat) (rs:List TR) (UJ:Option Addr) (cap':Nat) (ts:List Tp) (f:Fc) (w:af) (hlen:rs.length≤1048576) (hs:kW w ad rs) (hl:∀ r ∈ rs,r.light) (hfr:∀ r ∈ rs,r.fits) (hlt:ts.length≤1048576) (hst:Sl w UJ ts) (hft:∀ x ∈ ts,x.fits) (hle:aJ (ae rs)=true→Least (ae rs) st) :
  Calls prog 13 #[.slice ad rs.length cap,.slice UJ ts.length cap',.agg #[.string f.a,.string f.b,.string f.r,.string f.c,.string f.d]] w fun e w'=>e=.returned (.bool (bP (bC st rs ts) f))∧ag w w':=by
 obtain ⟨W0,hW0⟩:∃ W0,W0=w.alloc (.cells #[.string f.a,.string f.b,.string f.r,.string f.c,.string f.d] 29):=⟨_,rfl⟩;have HB0:=qY hW0;have hbx:vS W0 w.heap.size f:=by rw [hW0]; exact World.alloc_heap_new w _
 have U3:=aC hbx;have hLl:=pG st (rs:=rs) (ts:=ts);have HRC:Hid (∀ W':World,ag W0 W'→Calls prog 55 #[.slice ad rs.length cap,.slice UJ ts.length cap'] W' fun e w'=>e=.returned (.bool (aQ (gV rs) rs ts))∧ag W' w'):=fun W' h=>by
  have hb:=HB0.out.trans (h.mono HB0.out.size);exact xX ad cap rs UJ cap' ts W' hlen (hs.below hb) hl hfr hlt (hst.below hb) hft
 have HAC:Hid (aQ (gV rs) rs ts=true→∀ W':World,ag W0 W'→Calls prog 57 #[.slice ad rs.length cap,.slice UJ ts.length cap'] W' fun e w'=>(∃ v,e=.returned v∧w'.ownsRow W'.heap.size 29 5 v (bC st rs ts).length (aH (bC st rs ts)))∧ag W' w'):=fun hr W' h=>by
  have hb:=HB0.out.trans (h.mono HB0.out.size);have hsd:aJ (ae rs)=true∧ts.length≤40:=by
   unfold aQ dJ at hr;simp only [TU,Ud] at hr;exact ⟨hr.1.1,hr.1.2.1⟩
  have:=DD st ad cap rs UJ cap' ts W' (aY.1 hsd.1) (hle hsd.1) (hs.below hb) hl hsd.2 (hst.below hb);rw [← iw hr] at this;exact this
 clear hs hl hfr hst hft hle hbx;go_enter func13,ntmps13;go_wp2_with fail;rw [← hW0];clear hW0;cases hr:aQ (gV rs) rs ts;case true=>
  have HA:=aC (HAC.out hr);rw [hr] at HRC;obtain ⟨c0,c1,c2,c3,c4,cl⟩:=U3.out.c;obtain ⟨L,Wl⟩:∃ L,L=bC st rs ts:=⟨_,rfl⟩;rw [← Wl] at HA hLl;have Vj:=aC Wl;clear HAC hr Wl
  go_region_held3 (fun w'=>w'.cell? ⟨w.heap.size,0,none⟩=some (.string f.a)∧w'.cell? ⟨w.heap.size,1,none⟩=some (.string f.b)∧w'.cell? ⟨w.heap.size,2,none⟩=some (.string f.r)∧w'.cell? ⟨w.heap.size,3,none⟩=some (.string f.c)∧w'.cell? ⟨w.heap.size,4,none⟩=some (.string f.d)∧ag W0 w')
   (first | assumption | exact PS (by assumption) hbx | exact ⟨c0,c1,c2,c3,c4,(TT _ _).drew⟩)
   (first | (go_at_call 55; refine (HRC.out _ (And.right (And.right (And.right (And.right (And.right (by assumption))))))).mono ?_; rintro e w' ⟨rfl,hbx⟩) | (go_at_call 57; refine (HA.out _ (And.right (And.right (And.right (And.right (And.right (by assumption))))))).mono ?_; rintro e w' ⟨⟨v,rfl,hown⟩,hbx⟩; obtain ⟨Zy,Xd,rfl,hsl⟩:=mY hown) | (go_at_call 56; refine (ol Zy Xd L f _ (by omega) (by first | exact hsl | exact hsl.below (TT _ _))).mono ?_; rintro e w'' ⟨rfl,hbx⟩))
  rename_i hJ;have HG:=aC (HB0.out.trans (hJ.2.2.2.2.2.mono HB0.out.size));clear hJ hown hsl c0 c1 c2 c3 c4 HB0;go_wp2;go_ret;exact ⟨by rw [Vj.out]; rfl,HG.out⟩
 rw [hr] at HRC;have HN:Hid (bP (bC st rs ts) f=false):=by show _=_; rw [jo hr]; rfl
 clear HAC hr;refine lJ 10 (fun n=>(undef::undef::undef::undef::undef::undef::undef::undef::undef::undef::[]).getD n undef) (fun fq=>{ tmps:=List.toArray (Value.slice ad rs.length cap::.slice UJ ts.length cap'::.agg #[.string f.a,.string f.b,.string f.r,.string f.c,.string f.d]::undef::undef::.pointer (some ⟨w.heap.size,0,none⟩)::.bool false::fq 0::fq 1::fq 2::fq 3::fq 4::fq 5::fq 6::fq 7::fq 8::fq 9::[]),defers:=[] }) (fun n v _=>v=(Value.slice ad rs.length cap::.slice UJ ts.length cap'::.bool false::.bool false::undef::undef::undef::undef::undef::.bool false::[]).getD n undef) (fun w'=>ag W0 w') (by kernel_rfl) rfl (by kernel_rfl) (by kernel_rfl) rfl (TT _ _).drew ?dR ?finF;case dR =>
  rintro i hi o ho fq w' hG hpre;have HG:Hid (ag W0 w'):=hG;have HM:Hid (∀ e ∈ o.after,Region.binds .any e=true→_):=hpre;clear hG hpre;have hc:=uf (i:=i) (by omega);clear hi
  repeat' rcases hc with rfl | hc
  iterate 2
   ·cases ho;have hm:=HM.out
    try simp [Region.binds] at hm
    clear HM;refine wpOp_step rfl (fun K hK=>?_);have HK:Hid (∀ a w,_→K a w):=hK;clear hK;go_simp;exact HK.out _ _ ⟨_,by simp [upd, *],HG.out,rfl,fun k u hu=>hu⟩
  ·cases ho;have e0:fq 0=.slice ad rs.length cap:=HM.out ⟨0,.data⟩ (by simp) rfl;have e1:fq 1=.slice UJ ts.length cap':=HM.out ⟨1,.data⟩ (by simp) rfl;clear HM;refine wpOp_step rfl (fun K hK=>?_);have HK:Hid (∀ a w,_→K a w):=hK;clear hK;simp only [e0,e1];go_simp;refine (HRC.out _ HG.out).mono ?_;rintro e w9 ⟨rfl,hb9⟩;have HG9:=jP HG hb9;clear hb9;go_wp2_with fail;exact HK.out _ _ ⟨Value.bool false,by simp [upd,e0,e1],HG9.out,rfl,fun k u hu=>hu⟩
  iterate 7
   ·cases ho;have hm:=HM.out
    try simp [Region.binds] at hm
    clear HM;refine wpOp_step rfl (fun K hK=>?_);have HK:Hid (∀ a w,_→K a w):=hK;clear hK
    try simp only [hm]
    go_simp;exact HK.out _ _ ⟨_,by simp [upd, *],HG.out,rfl,fun k u hu=>hu⟩
 case finF =>
  rintro o ho fq w' hG hall;have e9:fq 9=.bool false:=hall 9 (by omega);have HG:Hid (ag W0 w'):=hG;clear hG hall;cases ho;refine wpOp_step rfl (fun K hK=>?_);have HK:Hid (∀ a w,_→K a w):=hK;clear hK;simp only [e9];go_simp;refine HK.out _ _ ?_;clear HK;go_wp2;go_ret;exact ⟨by rw [HN.out]; rfl,HB0.out.trans (HG.out.mono HB0.out.size)⟩
end
theorem xh {xs:List Al} {o x:Al}:x ∈ aZ xs o ↔ x ∈ xs ∨ x=o:=by
 unfold aZ;split
 ·rename_i h;exact ⟨.inl,fun h'=>h'.elim id fun e=>e ▸ OH.1 h⟩
 simp
theorem E9:∀ (ts:List Tp) (xs:List Al) (o:Al),(o ∈ xs ∨ ∃ t ∈ ts,o=⟨t.a,t.b⟩ ∨ o=⟨t.c,t.d⟩)→o ∈ ts.foldl fP xs
 | [],xs,o,h=>h.elim id fun ⟨t,ht,_⟩=>by cases ht
 | t::ts,xs,o,h=>by
  refine E9 ts (fP xs t) o ?_;unfold fP;simp only [xh];rcases h with h | ⟨u,hu,h⟩
  ·exact .inl (.inl (.inl h))
  rcases List.mem_cons.1 hu with rfl | hu
  ·rcases h with h | h
   ·exact .inl (.inl (.inr h))
   exact .inl (.inr h)
  exact .inr ⟨u,hu,h⟩
theorem KN:∀ (ts:List Tp) (xs:List Al) (o:Al),(o ∈ xs ∨ ∃ t ∈ ts,t.s.toList.isEmpty=true∧o=⟨t.c,t.d⟩)→o ∈ ts.foldl cu xs
 | [],xs,o,h=>h.elim id fun ⟨t,ht,_⟩=>by cases ht
 | t::ts,xs,o,h=>by
  refine KN ts (cu xs t) o ?_;rcases h with h | ⟨u,hu,hs,h⟩
  ·refine .inl ?_;unfold cu;split
   ·exact xh.2 (.inl h)
   exact h
  rcases List.mem_cons.1 hu with rfl | hu
  ·refine .inl ?_;unfold cu;rw [if_pos (by simpa using hs)];exact xh.2 (.inr h)
  exact .inr ⟨u,hu,hs,h⟩
theorem pJ {l:List Tp} {es:List Ex} {truth known:List Fc} {f:Fc} (h5:∀ e ∈ es,e.kind=5→e.kids ≠ []) (hkn:∀ g ∈ known,(⟨g.a,g.b⟩:Al) ∈ eB l∧(⟨g.c,g.d⟩:Al) ∈ cZ l):∀ (k n:Nat),dS l es truth f k known n=true→(⟨f.a,f.b⟩:Al) ∈ eB l∧(⟨f.c,f.d⟩:Al) ∈ cZ l
 | 0,n,h=>by cases h
 | k + 1,n,h=>by
  unfold dS at h;cases e:es[n]? with
  | none=>rw [e] at h; cases h
  | some x =>
   rw [e] at h;simp only at h;by_cases k1:x.kind=1
   ·rw [if_pos k1] at h;unfold dY at h;obtain ⟨t,ht,h⟩:=Uo.1 h;simp only [TU,beq_iff_eq] at h;obtain ⟨⟨⟨h1,h2⟩,h3⟩,h4⟩:=h;refine ⟨E9 _ _ _ (.inr ⟨t,ht,.inl (by rw [fI h1,fI h2])⟩),?_⟩;split at h4
    ·rename_i hs;simp only [TU,beq_iff_eq] at h4;exact KN _ _ _ (.inr ⟨t,ht,hs,by rw [fI h4.1,fI h4.2]⟩)
    exact (hkn _ (dB.1 h4)).2
   rw [if_neg k1] at h;by_cases k2:x.kind=2
   ·rw [if_pos k2] at h;have h2:=hkn _ (dB.1 h);exact h2
   rw [if_neg k2] at h;by_cases k3:x.kind=3
   ·rw [if_pos k3] at h;unfold gp at h;obtain ⟨t,ht,h⟩:=Uo.1 h;simp only [TU,beq_iff_eq] at h;obtain ⟨⟨⟨h1,h2⟩,h3⟩,h4⟩:=h;exact ⟨E9 _ _ _ (.inr ⟨t,ht,.inl (by rw [fI h1,fI h2])⟩),(hkn _ (dB.1 h4)).2⟩
   rw [if_neg k3] at h;by_cases k4:x.kind=4
   ·rw [if_pos k4] at h;obtain ⟨i,-,h⟩:=Uo.1 h;exact pJ h5 hkn k _ h
   rw [if_neg k4] at h;by_cases k5:x.kind=5
   ·rw [if_pos k5] at h;obtain ⟨i,hi⟩:=List.exists_mem_of_ne_nil _ (h5 x (List.mem_of_getElem? e) k5);exact pJ h5 hkn k _ (Ub.1 h i hi)
   rw [if_neg k5] at h;by_cases k6:x.kind=6
   ·rw [if_pos k6] at h;exact pJ h5 hkn k _ (Bool.and_eq_true_iff.1 h).1
   rw [if_neg k6] at h; cases h
theorem Hl {ts:List Tp} (h:dJ ts=true):∀ t ∈ ts,t.ok=true:=fun t ht=>by
 unfold dJ at h;simp only [TU] at h;obtain ⟨i,hi,rfl⟩:=Uu ht;have h1:=h.2;unfold tH at h1;have h2:=Ub.1 h1 i (by simpa using hi);unfold uN at h2;rw [TY hi] at h2;exact (Bool.and_eq_true_iff.1 h2).1
section
variable [DecidableEq Fc]
theorem Hm (ts:List Ty) (l:List Tp) (st:ByteArray × ByteArray→Int) (xo xu:List Al):∀ N,ma ts l st xo xu N=uy (fD ts l) (fun n=>bY ts st xo xu (n:Int)) N
 | 0=>rfl
 | N + 1=>by rw [jh,Hm ts l st xo xu N]; rfl
theorem M5 {rs:List TR} (hsh:bf (ae rs)=true) (a r:bF):∀ e ∈ aA (ae rs) a r,e.kind=5→e.kids ≠ []:=by
 intro e he k5;cases hp:fH (ae rs) a r with
 | none=>unfold aA at he; rw [hp] at he; cases he
 | some es =>
  unfold aA at he; rw [hp] at he;obtain ⟨t0,ht0,r0,hr0,en,er,ee⟩:=qC hp;have hspec:=(tT hsh ht0 hr0).2;rw [ee] at hspec;have h4:es.all av=true:=by simp only [aK,TU] at hspec; exact hspec.1.1.1.2
  have:=Ub.1 h4 e he;unfold av at this;rw [if_neg (by omega),if_neg (by omega),if_neg (by omega),if_pos (.inr k5)] at this;simp only [TU,Ud] at this;intro h0;rw [h0] at this;simp at this
theorem Fa {st:ByteArray × ByteArray→Int} {rs:List TR} {ts:List Tp} (hle:aJ (ae rs)=true→Least (ae rs) st) (hr:aQ (gV rs) rs ts=true) (f:Fc):bP (bC st rs ts) f=fD (ae rs) ts (bC st rs ts) f:=by
 have hr2:=hr;unfold aQ at hr2;simp only [TU] at hr2;have hSP:=aY.1 hr2.1.1;have Wl:=hle hr2.1.1;have hfit:∀ t ∈ ts,JZ (ae rs) t=true:=fun t ht=>by
  have h1:=Ub.1 hr2.2 t ht;rw [← wU hr2.1.1 (Hl hr2.1.2 t ht)] at h1;exact h1
 have hL:=E8 Wl.sol hSP.1 hSP.2.1 hfit;have hen:∀ k ∈ ak (ae rs),hasB (ae rs) k.1 k.2=true:=fun k hk=>by
  obtain ⟨es,h1,h2⟩:=Hd hSP.1 hk;rw [Hf];unfold aA;rw [h1];intro e;have e2:es=[]:=e;rw [e2] at h2;simp [aK] at h2
 have hq:∀ n:Nat,∀ g ∈ bY (ae rs) st (eB ts) (cZ ts) (n:Int),P9 (ae rs) st g=(n:Int):=fun n g hg=>J3 hen hg;have hsub:∀ g ∈ bC st rs ts,(⟨g.a,g.b⟩:Al) ∈ eB ts∧(⟨g.c,g.d⟩:Al) ∈ cZ ts:=fun g hg=>by
  rw [iw hr] at hg;have h1:=(kF st rs ts (eB ts) (cZ ts) _).sub g hg;unfold BO at h1;obtain ⟨o,ho,h1⟩:=Uf.1 h1;obtain ⟨k,hk,h1⟩:=Uf.1 h1;unfold ja at h1;obtain ⟨u,hu,rfl⟩:=Ue.1 h1;exact ⟨ho,hu⟩
 rw [Bool.eq_iff_iff,dB];have e:bC st rs ts=uy (fD (ae rs) ts) (fun n=>bY (ae rs) st (eB ts) (cZ ts) (n:Int)) ((ak (ae rs)).length + 1):=by
  rw [iw hr]; exact Hm _ _ _ _ _ _
 constructor
 ·intro h;rw [e] at h ⊢;exact KV hL hq h
 intro h;obtain ⟨ho,hu⟩:=pJ (M5 hSP.1 f.a f.r) hsub _ _ h;have hne:aA (ae rs) f.a f.r ≠ []:=fun h0=>by
  unfold fD at h; rw [h0] at h; cases h
 have hk:(f.a,f.r) ∈ ak (ae rs):=ru (by simpa using hne);have hp:=Wl.sol.pos (f.a,f.r);have hlt:st (f.a,f.r) < ((ak (ae rs)).length:Int):=by
  refine Classical.byContradiction fun hc=>?_;exact absurd ⟨st,Wl.sol⟩ (Im (kw hSP.2.1) hk (Wl.low _ hk) (by omega))
 rw [e] at h ⊢;refine NI hL hq (n:=(st (f.a,f.r)).toNat) (by omega) ?_ h;unfold bY uX Ag ja;refine Uf.2 ⟨_,ho,Uf.2 ⟨(f.a,f.r),Ux.2 ⟨hk,?_⟩,Ue.2 ⟨_,hu,rfl⟩⟩⟩;simp only [BEq.rfl,Bool.true_and,Ud];omega
end
section
variable [DecidableEq Fc]
theorem Rm {rs:List TR} {ts:List Tp} (hr:aQ (gV rs) rs ts=true):∀ t ∈ ts,JZ (ae rs) t=true:=fun t ht=>by
 unfold aQ at hr;simp only [TU] at hr;have h1:=Ub.1 hr.2 t ht;rw [← wU hr.1.1 (Hl hr.1.2 t ht)] at h1;exact h1
theorem told_plain {st:ByteArray × ByteArray→Int} {rs:List TR} {ts:List Tp} (hle:aJ (ae rs)=true→Least (ae rs) st) (hr:aQ (gV rs) rs ts=true) (f:Fc) {x:Ex} (hx:aA (ae rs) f.a f.r=[x]) (hk:x.kind=1) (ha:∀ a ∈ x.allow,a.s.toList.isEmpty=true):bP (bC st rs ts) f=l7 ts ⟨f.a,f.b,f.r,f.c,f.d,⟨#[]⟩⟩:=by
 rw [Fa hle hr];unfold fD;rw [hx];show dS ts [x] _ f 1 _ 0=_;unfold dS;show (if x.kind=1 then dY ts _ f else _)=_;rw [if_pos hk];have he:(⟨#[]⟩:ByteArray).toList=[]:=by rw [Go.ByteArray.toList_eq]
 unfold dY l7;refine yL fun t ht=>?_;unfold Ej;simp only [he];by_cases h:(t.a.toList == f.a.toList && t.b.toList == f.b.toList && t.r.toList == f.r.toList)=true
 ·have hf:=Rm hr t ht;unfold JZ at hf;simp only [TU,beq_iff_eq] at h;obtain ⟨⟨h1,h2⟩,h3⟩:=h;rw [fI h1,fI h3,hx] at hf;simp only [List.any_cons,List.any_nil,Bool.or_false,TU] at hf;have hs:=ha _ (xg hf.2);have hs':t.s.toList=[]:=by simpa using hs
  simp only [h1,h2,h3,hs',BEq.rfl,Bool.true_and,List.isEmpty_nil,if_true,Bool.and_true]
 have h0:(t.a.toList == f.a.toList && t.b.toList == f.b.toList && t.r.toList == f.r.toList)=false:=by simpa using h
 rw [h0]; rfl
end
end Go.Proofs.YtajkkeikihhejaaGreat
