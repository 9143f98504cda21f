/- Both sides' look whether a fact is there. -/
import Derived.Test.YtdmniljjnaebbaaGreatDoorJ35
open Go.Proofs.Tryz
set_option maxHeartbeats 80000000
namespace Go.Proofs.YtdmniljjnaebbaaGreatDoor
set_option maxRecDepth 100000
set_option linter.unusedVariables false
set_option linter.unusedSectionVars false
open Go.ChangeShapes Go.WideShapes Go.ChangeAt Go.RowKit Go.Maps
open Pl
theorem Ab (x y:Fc):sS x y=sS y x:=by rw [Bool.eq_iff_iff,qZ,qZ]; exact ⟨Eq.symm,Eq.symm⟩
theorem IW {x y:List Fc} (h:x.Perm y) (f:Fc):bf x f=bf y f:=by rw [Bool.eq_iff_iff,gH,gH]; exact h.mem_iff
theorem DT (ad:Option Addr) (cap:Nat) (ts:List Fc) (t:Fc) (w:World) (hlen:ts.length≤1048576) (hs:yh w ad ts) :
  Calls prog 111 #[.slice ad ts.length cap,.agg #[.string t.a,.string t.b,.string t.r,.string t.c,.string t.d]] w fun e w'=>(∃ r:Int,e=.returned (.int .i64 r)∧decide (0≤r)=bf ts t)∧Below w.heap.size w w':=by
 have HS:=ay hs;clear hs;obtain ⟨W0,hW0⟩:∃ W0,W0=w.alloc (.cells #[.string t.a,.string t.b,.string t.r,.string t.c,.string t.d] 63):=⟨_,rfl⟩;have HB0:=mq hW0;have HX0:Hid (oG W0 w.heap.size t):=by show oG _ _ _; rw [hW0]; exact World.alloc_heap_new w _
 go_enter func111,ntmps111;go_wp2_with fail;rw [← hW0];clear hW0;go_loopw [8] (fun i wr=>∃ k:Nat,k≤ts.length∧i=.int .i64 k∧Hid (bf (ts.drop k) t=bf ts t)∧Hid (Below W0.heap.size W0 wr)) (fun i _=>ts.length - (intOf i).toNat);case atStart=>exact ⟨0,Nat.zero_le _,rfl,rfl,Below.refl _ _⟩
 case round =>
  obtain ⟨k,hk,rfl,HP,HB⟩:=hrel;have HBW:Hid (Below w.heap.size w wr):=HB0.out.trans (HB.out.mono HB0.out.size);by_cases hlt:k < ts.length
  ·obtain ⟨b,off,hadr,⟨t0,t1,t2,t3,t4⟩,hb⟩:=yh.at0 (HS.out.below HBW.out) hlt;obtain ⟨x0,x1,x2,x3,x4,xl⟩:=(HX0.out.bel HB.out).c;have hk1:=bq k;have hk2:(k:Int) < (ts.length:Int):=by omega
   have HD:Hid (bf ts t=(sS ts[k] t || bf (ts.drop (k + 1)) t)):=by show _=_; rw [← HP.out]; exact zP hlt
   subst hadr;cases hq:sS ts[k] t with
   | true =>
    have heq:=Bi t ts[k] (v:=true) (by rw [Ab]; exact hq);have HN:Hid (bf ts t=true):=by show _=_; rw [HD.out,hq]; rfl
    clear hq;go_wp2_with fail;go_quiet (fail);clear t0 t1 t2 t3 t4 x0 x1 x2 x3 x4 heq;go_wp2;go_ret;exact ⟨⟨k,rfl,by rw [HN.out]; simp⟩,below_drewN HBW.out _⟩
   | false =>
    have heq:=Bi t ts[k] (v:=false) (by rw [Ab]; exact hq);have HP2:Hid (bf (ts.drop (k + 1)) t=bf ts t):=by show _=_; rw [HD.out,hq]; rfl
    clear hq;go_wp2_with fail;go_quiet (fail);clear t0 t1 t2 t3 t4 x0 x1 x2 x3 x4 heq;go_wp2;go_roundw;case rel=>exact ⟨k + 1,by omega,by go_num,HP2,below_drewN HB.out _⟩
    case measure=>simp [intOf] <;> omega
  ·have HN:Hid (bf ts t=false):=by show _=_; rw [← HP.out,List.drop_of_length_le (by omega)]; rfl
   go_wp2;go_ret;exact ⟨⟨-1,rfl,by rw [HN.out]; simp⟩,HBW.out⟩
theorem xV (ad:Option Addr) (cap:Nat) (ts:List Fc) (t:Fc) (w:World) (hlen:ts.length≤1048576) (hs:yh w ad ts) :
  Calls prog 73 #[.slice ad ts.length cap,.agg #[.string t.a,.string t.b,.string t.r,.string t.c,.string t.d]] w fun e w'=>e=.returned (.bool (bf ts t))∧Below w.heap.size w w':=by
 obtain ⟨W0,hW0⟩:∃ W0,W0=w.alloc (.cells #[.string t.a,.string t.b,.string t.r,.string t.c,.string t.d] 63):=⟨_,rfl⟩;have HB0:=mq hW0;have HC:=ay (DT ad cap ts t W0 hlen (hs.below HB0.out));clear hs;go_enter func73,ntmps73;go_wp2_with fail;rw [← hW0];clear hW0;refine HC.out.mono ?_;rintro e w' ⟨⟨r,rfl,hr⟩,hbx⟩;have HR:=ay hr;have HBX:=ay (HB0.out.trans (hbx.mono HB0.out.size));clear hr hbx;go_wp2;go_ret;exact ⟨by rw [← HR.out]; rfl,HBX.out⟩
theorem jO {w W w':World} {n:Nat} {x0 x1 x2 x3 x4:Value} (h:W.cell? ⟨n,0,none⟩=some x0∧W.cell? ⟨n,1,none⟩=some x1∧W.cell? ⟨n,2,none⟩=some x2∧W.cell? ⟨n,3,none⟩=some x3∧W.cell? ⟨n,4,none⟩=some x4∧Below w.heap.size w W) (hb:Below W.heap.size W w'):w'.cell? ⟨n,0,none⟩=some x0∧w'.cell? ⟨n,1,none⟩=some x1∧w'.cell? ⟨n,2,none⟩=some x2∧w'.cell? ⟨n,3,none⟩=some x3∧w'.cell? ⟨n,4,none⟩=some x4∧Below w.heap.size w w':=by
 obtain ⟨h0,h1,h2,h3,h4,hB⟩:=h;exact ⟨aU hb (aA h0) h0,aU hb (aA h1) h1,aU hb (aA h2) h2,aU hb (aA h3) h3,aU hb (aA h4) h4,hB.trans (hb.mono hB.size)⟩
section
variable [DecidableEq Fc]
theorem xW (st:ByteArray × ByteArray→Int) {rs:List TR} {ts:List Tp}:(dh st rs ts).length≤115200:=by
 cases hr:bv (iG rs) rs ts with
 | false=>rw [tH hr]; simp
 | true =>
  rw [qh hr];have hsd:aI (af rs)=true∧ts.length≤40:=by
   unfold bv eu at hr;simp only [Bool.and_eq_true,decide_eq_true_eq] at hr;exact ⟨hr.1.1,hr.1.2.1⟩
  obtain ⟨h6,hr6,-⟩:=aX (bI.1 hsd.1).1;exact (nH st rs ts (fZ ts) (dL ts) _).len (by have:=kW ts; omega) (vg h6 hr6) (by have:=jN ts; omega)
theorem yM (st:ByteArray × ByteArray→Int) (ad:Option Addr) (cap:Nat) (rs:List TR) (ad':Option Addr) (cap':Nat) (ts:List Tp) (f:Fc) (w:World) (hlen:rs.length≤1048576) (hs:fo w ad rs) (hl:∀ r ∈ rs,r.light) (hfr:∀ r ∈ rs,r.fits) (hcp:∀ r ∈ rs,r.caps) (hlt:ts.length≤1048576) (hst:Sl w ad' ts) (hft:∀ x ∈ ts,x.fits) (hle:aI (af rs)=true→Least (af rs) st) :
  Calls prog 47 #[.slice ad rs.length cap,.slice ad' ts.length cap',.agg #[.string f.a,.string f.b,.string f.r,.string f.c,.string f.d]] w fun e w'=>e=.returned (.bool (bf (dh st rs ts) f))∧Below w.heap.size w w':=by
 obtain ⟨W0,hW0⟩:∃ W0,W0=w.alloc (.cells #[.string f.a,.string f.b,.string f.r,.string f.c,.string f.d] 63):=⟨_,rfl⟩;have HB0:Below w.heap.size w W0:=by rw [hW0]; exact (Below.refl _ _).alloc (Nat.le_refl _) _
 have hbx:oG W0 w.heap.size f:=by rw [hW0]; exact World.alloc_heap_new w _
 obtain ⟨c0,c1,c2,c3,c4,cl⟩:=hbx.c;have HCALL:Hid (∀ W':World,(W'.cell? ⟨w.heap.size,0,none⟩=some (.string f.a)∧W'.cell? ⟨w.heap.size,1,none⟩=some (.string f.b)∧W'.cell? ⟨w.heap.size,2,none⟩=some (.string f.r)∧W'.cell? ⟨w.heap.size,3,none⟩=some (.string f.c)∧W'.cell? ⟨w.heap.size,4,none⟩=some (.string f.d)∧Below w.heap.size w W')→Calls prog 35 #[.slice ad rs.length cap,.slice ad' ts.length cap'] W' (DR (dh st rs ts) W')):=fun W' h=>yL st ad cap rs ad' cap' ts W' hlen (hs.below h.2.2.2.2.2) hl hfr hcp hlt (hst.below h.2.2.2.2.2) hft hle;have hLl:=xW st (rs:=rs) (ts:=ts);clear hs hl hfr hcp hst hft hle hbx;go_enter func47,ntmps47;go_wp2_with fail;rw [← hW0];clear hW0
 go_region_held3 (fun w'=>w'.cell? ⟨w.heap.size,0,none⟩=some (.string f.a)∧w'.cell? ⟨w.heap.size,1,none⟩=some (.string f.b)∧w'.cell? ⟨w.heap.size,2,none⟩=some (.string f.r)∧w'.cell? ⟨w.heap.size,3,none⟩=some (.string f.c)∧w'.cell? ⟨w.heap.size,4,none⟩=some (.string f.d)∧Below w.heap.size w w')
  (first | assumption | exact jO (by assumption) hbx | exact ⟨c0,c1,c2,c3,c4,HB0.drew⟩)
  (first | (go_at_call 35; refine (HCALL.out _ (by assumption)).mono ?_; rintro e w' ⟨⟨L,v,rfl,hp,-,hown⟩,hbx⟩; obtain ⟨adL,capL,rfl,hsl⟩:=oW hown; have HLL:Hid (L.length≤1048576):=(by show _≤_; rw [hp.length_eq]; exact Nat.le_trans hLl (by decide))) | (go_at_call 73; refine (xV adL capL L f _ HLL.out (by first | exact hsl | exact hsl.below (Below.refl _ _))).mono ?_; rintro e w'' ⟨rfl,hbx⟩))
 rename_i hJ;have HG:=ay hJ.2.2.2.2.2;have HE:=ay (IW hp f);clear hJ hown hsl hp c0 c1 c2 c3 c4;go_wp2;go_ret;exact ⟨by rw [HE.out]; rfl,HG.out⟩
theorem yN (st:ByteArray × ByteArray→Int) (ad:Option Addr) (cap:Nat) (rs:List TR) (ad':Option Addr) (cap':Nat) (ts:List Tp) (f:Fc) (w:World) (hlen:rs.length≤1048576) (hs:fo w ad rs) (hl:∀ r ∈ rs,r.light) (hfr:∀ r ∈ rs,r.fits) (hlt:ts.length≤1048576) (hst:Sl w ad' ts) (hft:∀ x ∈ ts,x.fits) (hle:aI (af rs)=true→Least (af rs) st) :
  Calls prog 44 #[.slice ad rs.length cap,.slice ad' ts.length cap',.agg #[.string f.a,.string f.b,.string f.r,.string f.c,.string f.d]] w fun e w'=>e=.returned (.bool (bf (dh st rs ts) f))∧Below w.heap.size w w':=by
 obtain ⟨W0,hW0⟩:∃ W0,W0=w.alloc (.cells #[.string f.a,.string f.b,.string f.r,.string f.c,.string f.d] 63):=⟨_,rfl⟩;have HB0:=mq hW0;have hbx:oG W0 w.heap.size f:=by rw [hW0]; exact World.alloc_heap_new w _
 have HBX:=ay hbx;have hLl:=xW st (rs:=rs) (ts:=ts);have HRC:Hid (∀ W':World,Below W0.heap.size W0 W'→Calls prog 50 #[.slice ad rs.length cap,.slice ad' ts.length cap'] W' fun e w'=>e=.returned (.bool (bv (iG rs) rs ts))∧Below W'.heap.size W' w'):=fun W' h=>by
  have hb:=HB0.out.trans (h.mono HB0.out.size);exact DK ad cap rs ad' cap' ts W' hlen (hs.below hb) hl hfr hlt (hst.below hb) hft
 have HAC:Hid (bv (iG rs) rs ts=true→∀ W':World,Below W0.heap.size W0 W'→Calls prog 53 #[.slice ad rs.length cap,.slice ad' ts.length cap'] W' fun e w'=>(∃ v,e=.returned v∧w'.ownsRow W'.heap.size 63 5 v (dh st rs ts).length (dQ (dh st rs ts)))∧Below W'.heap.size W' w'):=fun hr W' h=>by
  have hb:=HB0.out.trans (h.mono HB0.out.size);have hsd:aI (af rs)=true∧ts.length≤40:=by
   unfold bv eu at hr;simp only [Bool.and_eq_true,decide_eq_true_eq] at hr;exact ⟨hr.1.1,hr.1.2.1⟩
  have:=IM st ad cap rs ad' cap' ts W' (bI.1 hsd.1) (hle hsd.1) (hs.below hb) hl hsd.2 (hst.below hb);rw [← qh hr] at this;exact this
 clear hs hl hfr hst hft hle hbx;go_enter func44,ntmps44;go_wp2_with fail;rw [← hW0];clear hW0;cases hr:bv (iG rs) rs ts with
 | true =>
  have HA:=ay (HAC.out hr);rw [hr] at HRC;obtain ⟨c0,c1,c2,c3,c4,cl⟩:=HBX.out.c;obtain ⟨L,hLe⟩:∃ L,L=dh st rs ts:=⟨_,rfl⟩;rw [← hLe] at HA hLl;have HLE:=ay hLe;clear HAC hr hLe
  go_region_held3 (fun w'=>w'.cell? ⟨w.heap.size,0,none⟩=some (.string f.a)∧w'.cell? ⟨w.heap.size,1,none⟩=some (.string f.b)∧w'.cell? ⟨w.heap.size,2,none⟩=some (.string f.r)∧w'.cell? ⟨w.heap.size,3,none⟩=some (.string f.c)∧w'.cell? ⟨w.heap.size,4,none⟩=some (.string f.d)∧Below W0.heap.size W0 w')
   (first | assumption | exact jO (by assumption) hbx | exact ⟨c0,c1,c2,c3,c4,(Below.refl _ _).drew⟩)
   (first | (go_at_call 50; refine (HRC.out _ (And.right (And.right (And.right (And.right (And.right (by assumption))))))).mono ?_; rintro e w' ⟨rfl,hbx⟩) | (go_at_call 53; refine (HA.out _ (And.right (And.right (And.right (And.right (And.right (by assumption))))))).mono ?_; rintro e w' ⟨⟨v,rfl,hown⟩,hbx⟩; obtain ⟨adL,capL,rfl,hsl⟩:=oW hown) | (go_at_call 54; refine (kX adL capL L f _ (by omega) (by first | exact hsl | exact hsl.below (Below.refl _ _))).mono ?_; rintro e w'' ⟨rfl,hbx⟩))
  rename_i hJ;have HG:=ay (HB0.out.trans (hJ.2.2.2.2.2.mono HB0.out.size));clear hJ hown hsl c0 c1 c2 c3 c4 HB0;go_wp2;go_ret;exact ⟨by rw [HLE.out]; rfl,HG.out⟩
 | false =>
  rw [hr] at HRC;have HN:Hid (bf (dh st rs ts) f=false):=by show _=_; rw [tH hr]; rfl
  clear HAC hr;refine bF 10 (fun n=>(undef::undef::undef::undef::undef::undef::undef::undef::undef::undef::[]).getD n undef) (fun fq=>{ tmps:=List.toArray (Value.slice ad rs.length cap::.slice ad' ts.length cap'::.agg #[.string f.a,.string f.b,.string f.r,.string f.c,.string f.d]::undef::undef::.pointer (some ⟨w.heap.size,0,none⟩)::.bool false::fq 0::fq 1::fq 2::fq 3::fq 4::fq 5::fq 6::fq 7::fq 8::fq 9::[]),defers:=[] }) (fun n v _=>v=(Value.slice ad rs.length cap::.slice ad' ts.length cap'::.bool false::.bool false::undef::undef::undef::undef::undef::.bool false::[]).getD n undef) (fun w'=>Below W0.heap.size W0 w') (by kernel_rfl) rfl (by kernel_rfl) (by kernel_rfl) rfl (Below.refl _ _).drew ?dw ?finF;case dw =>
   rintro i hi o ho fq w' hG hpre;have HG:Hid (Below W0.heap.size W0 w'):=hG;have HM:Hid (∀ e ∈ o.after,Region.binds .any e=true→_):=hpre;clear hG hpre;have hc:=vv (i:=i) (by omega);clear hi
   repeat' rcases hc with rfl | hc
   ·obtain rfl:=Option.some.inj ho;clear ho HM;refine wpOp_step rfl (fun K hK=>?_);have HK:Hid (∀ a w,_→K a w):=hK;clear hK;dsimp only;go_simp;exact HK.out _ _ ⟨Value.slice ad rs.length cap,by simp [upd],HG.out,rfl,fun k u hu=>hu⟩
   ·obtain rfl:=Option.some.inj ho;clear ho HM;refine wpOp_step rfl (fun K hK=>?_);have HK:Hid (∀ a w,_→K a w):=hK;clear hK;dsimp only;go_simp;exact HK.out _ _ ⟨Value.slice ad' ts.length cap',by simp [upd],HG.out,rfl,fun k u hu=>hu⟩
   ·obtain rfl:=Option.some.inj ho;have e0:fq 0=.slice ad rs.length cap:=HM.out ⟨0,.data⟩ (by simp) rfl;have e1:fq 1=.slice ad' ts.length cap':=HM.out ⟨1,.data⟩ (by simp) rfl;clear ho HM;refine wpOp_step rfl (fun K hK=>?_);have HK:Hid (∀ a w,_→K a w):=hK;clear hK;simp only [e0,e1];go_simp;refine (HRC.out _ HG.out).mono ?_;rintro e w9 ⟨rfl,hb9⟩;have HG9:=fD HG hb9;clear hb9;go_wp2_with fail;exact HK.out _ _ ⟨Value.bool false,by simp [upd,e0,e1],HG9.out,rfl,fun k u hu=>hu⟩
   ·obtain rfl:=Option.some.inj ho;have e2:fq 2=.bool false:=HM.out ⟨2,.data⟩ (by simp) rfl;clear ho HM;refine wpOp_step rfl (fun K hK=>?_);have HK:Hid (∀ a w,_→K a w):=hK;clear hK;simp only [e2];go_simp;exact HK.out _ _ ⟨Value.bool false,by simp [upd,e2],HG.out,rfl,fun k u hu=>hu⟩
   ·obtain rfl:=Option.some.inj ho;have e3:fq 3=.bool false:=HM.out ⟨3,.guard⟩ (by simp) rfl;clear ho HM;refine wpOp_step rfl (fun K hK=>?_);have HK:Hid (∀ a w,_→K a w):=hK;clear hK;simp only [e3];go_simp;exact HK.out _ _ ⟨undef,by simp [upd,e3],HG.out,rfl,fun k u hu=>hu⟩
   ·obtain rfl:=Option.some.inj ho;have e3:fq 3=.bool false:=HM.out ⟨3,.guard⟩ (by simp) rfl;clear ho HM;refine wpOp_step rfl (fun K hK=>?_);have HK:Hid (∀ a w,_→K a w):=hK;clear hK;simp only [e3];go_simp;exact HK.out _ _ ⟨undef,by simp [upd,e3],HG.out,rfl,fun k u hu=>hu⟩
   ·obtain rfl:=Option.some.inj ho;have e4:fq 4=undef:=HM.out ⟨4,.data⟩ (by simp) rfl;have e5:fq 5=undef:=HM.out ⟨5,.data⟩ (by simp) rfl;have e3:fq 3=.bool false:=HM.out ⟨3,.guard⟩ (by simp) rfl;clear ho HM;refine wpOp_step rfl (fun K hK=>?_);have HK:Hid (∀ a w,_→K a w):=hK;clear hK;simp only [e4,e5,e3];go_simp;exact HK.out _ _ ⟨undef,by simp [upd,e4,e5,e3],HG.out,rfl,fun k u hu=>hu⟩
   ·obtain rfl:=Option.some.inj ho;have e3:fq 3=.bool false:=HM.out ⟨3,.guard⟩ (by simp) rfl;clear ho HM;refine wpOp_step rfl (fun K hK=>?_);have HK:Hid (∀ a w,_→K a w):=hK;clear hK;simp only [e3];go_simp;exact HK.out _ _ ⟨undef,by simp [upd,e3],HG.out,rfl,fun k u hu=>hu⟩
   ·obtain rfl:=Option.some.inj ho;have e6:fq 6=undef:=HM.out ⟨6,.data⟩ (by simp) rfl;have e7:fq 7=undef:=HM.out ⟨7,.data⟩ (by simp) rfl;have e3:fq 3=.bool false:=HM.out ⟨3,.guard⟩ (by simp) rfl;clear ho HM;refine wpOp_step rfl (fun K hK=>?_);have HK:Hid (∀ a w,_→K a w):=hK;clear hK;simp only [e6,e7,e3];go_simp;exact HK.out _ _ ⟨undef,by simp [upd,e6,e7,e3],HG.out,rfl,fun k u hu=>hu⟩
   ·obtain rfl:=Option.some.inj ho;have e3:fq 3=.bool false:=HM.out ⟨3,.data⟩ (by simp) rfl;have e8:fq 8=undef:=HM.out ⟨8,.data⟩ (by simp) rfl;clear ho HM;refine wpOp_step rfl (fun K hK=>?_);have HK:Hid (∀ a w,_→K a w):=hK;clear hK;simp only [e3,e8];go_simp;exact HK.out _ _ ⟨Value.bool false,by simp [upd,e3,e8],HG.out,rfl,fun k u hu=>hu⟩
  case finF =>
   rintro o ho fq w' hG hall;have e9:fq 9=.bool false:=hall 9 (by omega);have HG:Hid (Below W0.heap.size W0 w'):=hG;clear hG hall;obtain rfl:=Option.some.inj ho;clear ho;refine wpOp_step rfl (fun K hK=>?_);have HK:Hid (∀ a w,_→K a w):=hK;clear hK;simp only [e9];go_simp;refine HK.out _ _ ?_;clear HK;go_wp2;go_ret;exact ⟨by rw [HN.out]; rfl,HB0.out.trans (HG.out.mono HB0.out.size)⟩
end
theorem Ac {fit:Tp→Bool}:∀ (cs:List (Int × Tp)) (ts L:List Tp),(∀ x ∈ ts,x.fits)→(∀ c ∈ cs,c.2.fits)→kH fit ts cs=some L→∀ x ∈ L,x.fits
 | [],ts,L,h1,_,h=>by
  unfold kH at h;injection h with h;rw [← h]; exact h1
 | c::cs,ts,L,h1,h2,h=>by
  unfold kH at h;split at h
  ·refine Ac cs _ L (fun x hx=>?_) (fun d hd=>h2 d (List.mem_cons_of_mem _ hd)) h;unfold dC at hx;split at hx
   ·exact h1 x ((nQ ts c.2 x).1 hx).1
   ·rcases (qE ts c.2 x).1 hx with rfl | hx
    ·exact h2 c (List.mem_cons_self)
    ·exact h1 x hx
  ·cases h
theorem xX {rs:List TR} {cs:List (Int × Tp)} {n:Int} (h:∀ c ∈ cs,c.2.fits):∀ x ∈ gX rs cs n,x.fits:=by
 unfold gX;cases e:qi (jl rs) (aI (af rs)) cs n with
 | none=>intro x hx; cases hx
 | some L =>
  unfold qi at e;split at e
  ·exact Ac _ [] L (fun x hx=>by cases hx) (fun c hc=>h c (List.mem_of_mem_take hc)) e
  ·cases e
section
variable [DecidableEq Fc]
def yO (st:ByteArray × ByteArray→Int) (rs:List TR) (cs:List (Int × Tp)) (n:Int) (f:Fc):Bool:=p8 rs cs n && bf (dh st rs (gX rs cs n)) f
theorem uL (st:ByteArray × ByteArray→Int) (ad:Option Addr) (cap:Nat) (rs:List TR) (ad':Option Addr) (cap':Nat) (cs:List (Int × Tp)) (n:Int) (f:Fc) (w:World) (hlen:rs.length≤1048576) (hs:fo w ad rs) (hl:∀ r ∈ rs,r.light) (hfr:∀ r ∈ rs,r.fits) (hlc:cs.length≤1048576) (hsc:JC w ad' cs) (hf:∀ c ∈ cs,c.2.fits) (hle:aI (af rs)=true→Least (af rs) st) :
  Calls prog 22 #[.slice ad rs.length cap,.slice ad' cs.length cap',.int .i64 n,.agg #[.string f.a,.string f.b,.string f.r,.string f.c,.string f.d]] w fun e w'=>e=.returned (.tuple #[.bool (yO st rs cs n f),.bool (p8 rs cs n)])∧Below w.heap.size w w':=by
 obtain ⟨W0,hW0⟩:∃ W0,W0=w.alloc (.cells #[.string f.a,.string f.b,.string f.r,.string f.c,.string f.d] 63):=⟨_,rfl⟩;have HB0:=mq hW0;have hbx:oG W0 w.heap.size f:=by rw [hW0]; exact World.alloc_heap_new w _
 obtain ⟨c0,c1,c2,c3,c4,cl⟩:=hbx.c;have HK0:=ay (show W0.cell? ⟨w.heap.size,0,none⟩=some (.string f.a)∧W0.cell? ⟨w.heap.size,1,none⟩=some (.string f.b)∧W0.cell? ⟨w.heap.size,2,none⟩=some (.string f.r)∧W0.cell? ⟨w.heap.size,3,none⟩=some (.string f.c)∧W0.cell? ⟨w.heap.size,4,none⟩=some (.string f.d)∧Below w.heap.size w W0 from ⟨c0,c1,c2,c3,c4,HB0.out⟩);have HT:=ay (CY ad cap rs ad' cap' cs n W0 hlen (hs.below HB0.out) hl hfr hlc (hsc.below HB0.out) hf);have HCK:Hid (∀ (W':World) (ad5:Option Addr) (cap5:Nat),Below w.heap.size w W'→Sl W' ad5 (gX rs cs n)→Calls prog 44 #[.slice ad rs.length cap,.slice ad5 (gX rs cs n).length cap5,.agg #[.string f.a,.string f.b,.string f.r,.string f.c,.string f.d]] W' fun e w'=>e=.returned (.bool (bf (dh st rs (gX rs cs n)) f))∧Below W'.heap.size W' w'):=fun W' ad5 cap5 hb h5 =>
  yN st ad cap rs ad5 cap5 (gX rs cs n) f W' hlen (hs.below hb) hl hfr (Nat.le_trans (CX _ _ _) (by decide)) h5 (xX hf) hle
 obtain ⟨L,hL⟩:∃ L,gX rs cs n=L:=⟨_,rfl⟩;obtain ⟨q,hQ⟩:∃ q,p8 rs cs n=q:=⟨_,rfl⟩;obtain ⟨v,hv⟩:∃ v,bf (dh st rs L) f=v:=⟨_,rfl⟩;have HA:Hid (yO st rs cs n f=(q && v)):=by show _=_; unfold yO; rw [hL,hQ,hv]
 rw [HA.out,hQ];rw [hL,hQ] at HT;rw [hL,hv] at HCK;clear hs hl hfr hsc hf hle hL hQ hv HA c0 c1 c2 c3 c4 cl hbx;go_enter func22,ntmps22;go_wp2_with fail;rw [← hW0];clear hW0;refine HT.out.mono ?_;rintro e w1 ⟨ad5,cap5,rfl,hs5,hb1⟩;have HB1:=fD HB0 hb1;have HS5:=ay hs5;obtain ⟨k0,k1,k2,k3,k4,-⟩:=jO HK0.out hb1;clear hs5 hb1 HT HB0 HK0;cases q with
 | false =>
  go_wp2;exact bodyPost_ret (v:=.tuple #[.bool false,.bool false]) (by simp [results,Tryz.results22,go_sem]) rfl ⟨rfl,HB1.out⟩
 | true =>
  go_wp2_with fail;refine (HCK.out _ _ _ HB1.out HS5.out).mono ?_;rintro e w2 ⟨rfl,hb2⟩;have HB2:=fD HB1 hb2;clear hb2 k0 k1 k2 k3 k4;go_wp2;exact bodyPost_ret (v:=.tuple #[.bool v,.bool true]) (by simp [results,Tryz.results22,go_sem]) rfl ⟨rfl,HB2.out⟩
theorem uM (st:ByteArray × ByteArray→Int) (ad:Option Addr) (cap:Nat) (rs:List TR) (b off cap':Nat) (cs:List (Int × Tp)) (n:Int) (f:Fc) (w:World) (hE:yw w) (hlen:rs.length≤1048576) (hs:fo w ad rs) (hl:∀ r ∈ rs,r.light) (hfr:∀ r ∈ rs,r.fits) (hcp:∀ r ∈ rs,r.caps) (hlc:cs.length≤1048576) (hcap:cs.length≤cap') (hb:b < w.heap.size) (hr:AO w b off cs) (hf:∀ c ∈ cs,c.2.fits) (hle:aI (af rs)=true→Least (af rs) st) :
  Calls prog 25 #[.slice ad rs.length cap,.slice (some ⟨b,off,none⟩) cs.length cap',.int .i64 n,.agg #[.string f.a,.string f.b,.string f.r,.string f.c,.string f.d]] w fun e w'=>e=.returned (.tuple #[.bool (yO st rs cs n f),.bool (p8 rs cs n)])∧Below w.heap.size w w':=by
 obtain ⟨W0,hW0⟩:∃ W0,W0=w.alloc (.cells #[.string f.a,.string f.b,.string f.r,.string f.c,.string f.d] 63):=⟨_,rfl⟩;have HB0:=mq hW0;have hbx:oG W0 w.heap.size f:=by rw [hW0]; exact World.alloc_heap_new w _
 obtain ⟨c0,c1,c2,c3,c4,cl⟩:=hbx.c;have HK0:=ay (show W0.cell? ⟨w.heap.size,0,none⟩=some (.string f.a)∧W0.cell? ⟨w.heap.size,1,none⟩=some (.string f.b)∧W0.cell? ⟨w.heap.size,2,none⟩=some (.string f.r)∧W0.cell? ⟨w.heap.size,3,none⟩=some (.string f.c)∧W0.cell? ⟨w.heap.size,4,none⟩=some (.string f.d)∧Below w.heap.size w W0 from ⟨c0,c1,c2,c3,c4,HB0.out⟩);have HT:=ay (CZ ad cap rs b off cap' cs n W0 (hE.below HB0.out) hlen (hs.below HB0.out) hl hfr hcp hlc hcap (Nat.lt_of_lt_of_le hb HB0.out.size) (fun i hi=>(hr i hi).same fun o=>HB0.out.cell (p:=⟨b,o,none⟩) hb) hf);have HCK:Hid (∀ (W':World) (ad5:Option Addr) (cap5:Nat),Below w.heap.size w W'→Sl W' ad5 (gX rs cs n)→Calls prog 47 #[.slice ad rs.length cap,.slice ad5 (gX rs cs n).length cap5,.agg #[.string f.a,.string f.b,.string f.r,.string f.c,.string f.d]] W' fun e w'=>e=.returned (.bool (bf (dh st rs (gX rs cs n)) f))∧Below W'.heap.size W' w'):=fun W' ad5 cap5 hb h5 =>
  yM st ad cap rs ad5 cap5 (gX rs cs n) f W' hlen (hs.below hb) hl hfr hcp (Nat.le_trans (CX _ _ _) (by decide)) h5 (xX hf) hle
 obtain ⟨L,hL⟩:∃ L,gX rs cs n=L:=⟨_,rfl⟩;obtain ⟨q,hQ⟩:∃ q,p8 rs cs n=q:=⟨_,rfl⟩;obtain ⟨v,hv⟩:∃ v,bf (dh st rs L) f=v:=⟨_,rfl⟩;have HA:Hid (yO st rs cs n f=(q && v)):=by show _=_; unfold yO; rw [hL,hQ,hv]
 rw [HA.out,hQ];rw [hL,hQ] at HT;rw [hL,hv] at HCK;clear hs hl hfr hcp hf hle hL hQ hv HA c0 c1 c2 c3 c4 cl hbx hE hr;go_enter func25,ntmps25;go_wp2_with fail;rw [← hW0];clear hW0;refine HT.out.mono ?_;rintro e w1 ⟨ad5,cap5,rfl,hs5,hb1⟩;have HB1:=fD HB0 hb1;have HS5:=ay hs5.1;obtain ⟨k0,k1,k2,k3,k4,-⟩:=jO HK0.out hb1;clear hs5 hb1 HT HB0 HK0;cases q with
 | false =>
  go_wp2;exact bodyPost_ret (v:=.tuple #[.bool false,.bool false]) (by simp [results,Tryz.results25,go_sem]) rfl ⟨rfl,HB1.out⟩
 | true =>
  go_wp2_with fail;refine (HCK.out _ _ _ HB1.out HS5.out).mono ?_;rintro e w2 ⟨rfl,hb2⟩;have HB2:=fD HB1 hb2;clear hb2 k0 k1 k2 k3 k4;go_wp2;exact bodyPost_ret (v:=.tuple #[.bool v,.bool true]) (by simp [results,Tryz.results25,go_sem]) rfl ⟨rfl,HB2.out⟩
end
theorem xY (r:RR) (w:World) (hr:r.ok w) (hl:r.light) :
  Calls prog 86 #[r.val] w fun e w'=>∃ r':RR,e=.returned r'.val∧r'.p=r.p∧r'.new w.heap.size∧r'.ok w'∧r'.caps∧Below w.heap.size w w':=by
 obtain ⟨name,rows,ad,cap⟩:=r;obtain ⟨l1,l2⟩:=hl;have HO:Hid (dZ w ad rows):=hr;have HL:Hid (∀ q ∈ rows,q.e.light):=l2;simp only at l1;simp only [RR.val];clear hr l2;go_enter func86,ntmps86;go_wp2_with fail;obtain ⟨W1,hW1⟩:∃ W1,W1=((w.alloc (.cells #[.string name,.slice ad rows.length cap] 133)).alloc (.cells #[.string ⟨#[]⟩,.slice none 0 0] 122)).alloc (.cells #[.string name,.slice none 0 0] 122):=⟨_,rfl⟩;rw [← hW1];have hz1:w.heap.size + 3≤W1.heap.size:=by rw [hW1]; simp only [World.size_alloc]; omega
 have hb0:Below w.heap.size w W1:=by rw [hW1]; exact (((Below.refl w.heap.size w).alloc (Nat.le_refl _) _).alloc (by simp) _).alloc (by simp; omega) _
 have bC:Below ((w.alloc (.cells #[.string name,.slice ad rows.length cap] 133)).alloc (.cells #[.string ⟨#[]⟩,.slice none 0 0] 122)).heap.size ((w.alloc (.cells #[.string name,.slice ad rows.length cap] 133)).alloc (.cells #[.string ⟨#[]⟩,.slice none 0 0] 122)) W1:=by rw [hW1]; exact (Below.refl _ _).alloc (Nat.le_refl _) _
 have f1:∀ i,W1.frozen? ⟨w.heap.size + 1,i,none⟩=false:=fun i=>l6 bC (by simp) (uV _ _ _ _);have f2:∀ i,W1.frozen? ⟨w.heap.size + 1 + 1,i,none⟩=false:=fun i=>by rw [hW1]; exact Az _ _ _ _ _
 have z0:W1.cell? ⟨w.heap.size + 1,0,none⟩=some (.string ⟨#[]⟩):=kept bC (by simp) (iq _ _ _ _ _ rfl);have z1:W1.cell? ⟨w.heap.size + 1,1,none⟩=some (.slice none 0 0):=kept bC (by simp) (iq _ _ _ _ _ rfl);have o0:W1.cell? ⟨w.heap.size + 1 + 1,0,none⟩=some (.string name):=by rw [hW1]; exact ku _ _ _ _ _ _ rfl
 have o1:W1.cell? ⟨w.heap.size + 1 + 1,1,none⟩=some (.slice none 0 0):=by rw [hW1]; exact ku _ _ _ _ _ _ rfl
 clear hW1 bC;refine (Cc ad cap rows W1 l1 (dZ.below HO.out hb0) HL.out).mono ?_;rintro e w1 ⟨qs,rfl,hqe,hqs,hqc,hqn,hb1⟩;replace z0:=kept hb1 (by omega) z0;replace z1:=kept hb1 (by omega) z1;replace o0:=kept hb1 (by omega) o0;replace o1:=kept hb1 (by omega) o1;have k1:∀ i,w1.frozen? ⟨w.heap.size + 1,i,none⟩=false:=fun i=>l6 hb1 (by omega) (f1 i);have k2:∀ i,w1.frozen? ⟨w.heap.size + 1 + 1,i,none⟩=false:=fun i=>l6 hb1 (by omega) (f2 i);have HB1:Hid (Below w.heap.size w w1):=hb0.trans (hb1.mono (by omega));have hs1:w.heap.size + 3≤w1.heap.size:=by have:=hb1.size; omega
 have hnew:∀ B,B≤W1.heap.size→(⟨name,qs,some ⟨W1.heap.size,0,none⟩,qs.length⟩:RR).new w.heap.size∧(B < W1.heap.size→(⟨name,qs,some ⟨W1.heap.size,0,none⟩,qs.length⟩:RR).new B):=fun B hB =>
  ⟨⟨⟨_,rfl,by omega⟩,fun q hq=>(hqn q hq).mono (by omega)⟩,fun hlt=>⟨⟨_,rfl,hlt⟩,fun q hq=>(hqn q hq).mono (by omega)⟩⟩
 have HN0:Hid ((⟨name,qs,some ⟨W1.heap.size,0,none⟩,qs.length⟩:RR).new w.heap.size):=(hnew 0 (Nat.zero_le _)).1;have HN1:Hid ((⟨name,qs,some ⟨W1.heap.size,0,none⟩,qs.length⟩:RR).new (w.heap.size + 1)):=(hnew _ (by omega)).2 (by omega);have HN2:Hid ((⟨name,qs,some ⟨W1.heap.size,0,none⟩,qs.length⟩:RR).new (w.heap.size + 1 + 1)):=(hnew _ (by omega)).2 (by omega);have HK:Hid ((⟨name,qs,some ⟨W1.heap.size,0,none⟩,qs.length⟩:RR).ok w1):=hqs;have HC:Hid ((⟨name,qs,some ⟨W1.heap.size,0,none⟩,qs.length⟩:RR).caps):=⟨Nat.le_refl _,fun q hq=>Nat.le_of_eq (hqc q hq).symm⟩;have HE:Hid ((⟨name,qs,some ⟨W1.heap.size,0,none⟩,qs.length⟩:RR).p=⟨name,ag rows⟩):=by show _=_; simp only [RR.p,hqe]
 clear hqe hqs hqc hqn hb1 hb0 f1 f2 hnew;go_wp2;refine bodyPost_ret (v:=.agg #[.string name,.slice (some ⟨W1.heap.size,0,none⟩) qs.length qs.length]) (by simp [results,Tryz.results86,go_sem, *]) rfl ⟨⟨name,qs,some ⟨W1.heap.size,0,none⟩,qs.length⟩,rfl,HE.out,HN0.out,?_,HC.out,?_⟩
 ·exact ((HK.out.set HN2.out).set HN1.out).set HN1.out
 ·exact ((HB1.out.setCell (p:=⟨w.heap.size + 1 + 1,1,none⟩) (by simp; omega) _).setCell (p:=⟨w.heap.size + 1,0,none⟩) (by simp) _).setCell (p:=⟨w.heap.size + 1,1,none⟩) (by simp) _
def RR.row (r:RR):List Value:=[.string r.name,.slice r.ad r.rows.length r.cap]
def rowRR (rs:List RR):List Value:=rs.flatMap RR.row
theorem tJ:∀ rs:List RR,(rowRR rs).length=rs.length * 2
 | []=>rfl
 | r::rs=>by have:=tJ rs; simp only [rowRR,RR.row,List.flatMap_cons,List.length_append,List.length_cons,List.length_nil] at this ⊢; omega
theorem DU:∀ (rs:List RR) (i:Nat) (h:i < rs.length) (j:Nat),j < 2→(rowRR rs)[i * 2 + j]?=(rs[i]).row[j]?
 | [],i,h,_,_=>by simp at h
 | r::rs,0,_,j,hj=>by
  simp only [rowRR,List.flatMap_cons,Nat.zero_mul,Nat.zero_add,List.getElem_cons_zero];rw [List.getElem?_append_left (by simpa [RR.row] using hj)]
 | r::rs,i + 1,h,j,hj=>by
  have:=DU rs i (by simpa using h) j hj;simp only [rowRR,List.flatMap_cons,List.getElem_cons_succ] at this ⊢;rw [List.getElem?_append_right (by simp [RR.row]; omega),← this];congr 1;simp [RR.row]; omega
theorem Fil.rowRR {w w':World} {g:Nat} {rs:List RR} (h:Fil w w' g (rs.length * 2) (rowRR rs)) (hok:∀ r ∈ rs,r.ok w'):qj w' (some ⟨g,0,none⟩) rs:=by
 refine .inr ⟨g,0,rfl,h.lt,fun i hi=>?_,hok⟩;have hl:=tJ rs;have key:∀ j,j < 2→w'.cell? ⟨g,0 + i * 2 + j,none⟩=(rs[i]).row[j]?:=fun j hj=>by
  rw [Nat.zero_add,h.done (i * 2 + j) (by omega),← DU rs i hi j hj,List.getElem?_eq_getElem (by omega)]
 exact ⟨key 0 (by omega),key 1 (by omega)⟩
theorem uN (ad:Option Addr) (cap:Nat) (rs:List RR) (w:World) (hlen:rs.length≤1048576) (hs:qj w ad rs) (hl:∀ r ∈ rs,r.light) :
  Calls prog 55 #[.slice ad rs.length cap] w fun e w'=>∃ rs':List RR,e=.returned (.slice (some ⟨w.heap.size,0,none⟩) rs'.length rs'.length)∧di rs'=di rs∧qj w' (some ⟨w.heap.size,0,none⟩) rs'∧(∀ r ∈ rs',r.caps)∧(∀ r ∈ rs',r.new w.heap.size)∧Below w.heap.size w w':=by
 obtain ⟨inf,z,hi,hz0,hz1,hz2⟩:=vZ (t:=122) (n:=2) (b:=40) (by kernel_rfl);have HSL:Hid (qj w ad rs):=hs;have HLI:Hid (∀ r ∈ rs,r.light):=hl;clear hs hl;go_enter func55,ntmps55;go_wp2_with (at_make; refine wpList_make_full _ rfl _ _ 76 rfl w.heap.size 122 inf z 2 underlying76 hi hz0 hz1 .i64 .i64 _ _ rs.length rfl rfl rfl rfl (by rw [hz2]; omega) (by unfold maxLen; omega) (Nat.le_refl _) ?_; intro w0 hown0 hgrow0);have F0:Fil w w0 w.heap.size (rs.length * 2) []:=mE hown0 hgrow0;clear hown0 hgrow0 hi hz0 hz1 hz2;go_loopw [4] (fun i wr=>∃ (k:Nat) (qs:List RR),k≤rs.length∧i=.int .i64 k∧Hid (qs.length=k∧di qs=(di rs).take k∧(∀ q ∈ qs,q.ok wr∧q.new w.heap.size∧q.caps))∧Fil w wr w.heap.size (rs.length * 2) (rowRR qs)) (fun i _=>rs.length - (intOf i).toNat);case atStart=>exact ⟨0,[],Nat.zero_le _,rfl,⟨rfl,by simp [di],(fun q hq=>by cases hq)⟩,F0⟩
 case round =>
  obtain ⟨k,qs,hk,rfl,HQ,F⟩:=hrel;by_cases hlt:k < rs.length
  ·rcases HSL.out.below F.below with rfl | ⟨b,off,rfl,hb,hr,hok⟩
   ·simp at hlt
   obtain ⟨t0,t1⟩:=hr k hlt;have ok:=hok rs[k] (List.getElem_mem hlt);have lg:=HLI.out rs[k] (List.getElem_mem hlt);clear hr hok;go_wp2_with fail;refine (xY rs[k] _ ok lg).mono ?_;rintro e w1 ⟨q,rfl,hqe,hqn,hqok,hqc,hb1⟩;have F1:=F.later hb1;have fz:=F1.free;obtain ⟨v0,u0⟩:=Option.isSome_iff_exists.mp (F1.there (k * 2) (by omega));obtain ⟨v1,u1⟩:=Option.isSome_iff_exists.mp (F1.there (k * 2 + 1) (by omega));have hpl:(rowRR qs).length=k * 2:=by rw [tJ,HQ.out.1]
   have F2:=(F1.put (.string q.name) (o:=k * 2) hpl.symm (by omega)).put (.slice q.ad q.rows.length q.cap) (o:=k * 2 + 1) (by simp [hpl]) (by omega);have e5:(rowRR qs ++ [.string q.name]) ++ [.slice q.ad q.rows.length q.cap]=rowRR (qs ++ [q]):=by simp [rowRR,RR.row]
   rw [e5] at F2;obtain ⟨wn,hwn⟩:∃ wn,wn=(w1.setCell ⟨w.heap.size,k * 2,none⟩ (.string q.name)).setCell ⟨w.heap.size,k * 2 + 1,none⟩ (.slice q.ad q.rows.length q.cap):=⟨_,rfl⟩;have hnew:q.new w.heap.size:=hqn.mono (Nat.le_of_lt F.lt);have HQ2:Hid ((qs ++ [q]).length=k + 1∧di (qs ++ [q])=(di rs).take (k + 1)∧∀ p ∈ qs ++ [q],p.ok wn∧p.new w.heap.size∧p.caps):=by
    obtain ⟨h1,h2,h3⟩:=HQ.out;refine ⟨by simp [h1],?_,?_⟩
    ·rw [List.take_succ_eq_append_getElem (by rw [fK]; exact hlt),← h2];simp [di,hqe]
    ·intro p hp;rw [List.mem_append,List.mem_singleton] at hp;have st:∀ p:RR,p.ok w1→p.new w.heap.size→p.ok wn:=fun p h n=>by rw [hwn]; exact (h.set n).set n
     rcases hp with hp | rfl
     ·exact ⟨st p ((h3 p hp).1.below hb1) (h3 p hp).2.1,(h3 p hp).2⟩
     ·exact ⟨st p hqok hnew,hnew,hqc⟩
   rw [← hwn] at F2;have HF:Hid (Fil w wn w.heap.size (rs.length * 2) (rowRR (qs ++ [q]))):=F2;clear F F0 F1 F2 t0 t1 hb1 hpl e5 ok lg HQ hqe hqn hqok hqc hnew;simp only [RR.val];go_wp2;rw [← hwn];go_roundw;case rel=>exact ⟨k + 1,qs ++ [q],by omega,by go_num,HQ2,HF.out⟩
   case measure=>simp [intOf]; omega
  ·obtain rfl:k=rs.length:=by omega
   obtain ⟨h1,h2,h3⟩:=HQ.out;have HQ3:Hid (qs.length=rs.length):=h1;have HE3:Hid (di qs=di rs):=by rw [← fK rs,List.take_length] at h2; exact h2
   have HS3:Hid (qj wr (some ⟨w.heap.size,0,none⟩) qs):=by
    rw [← h1] at F;exact F.rowRR fun r hr=>(h3 r hr).1
   have HB3:Hid (Below w.heap.size w wr):=F.below;have HN3:Hid (∀ r ∈ qs,r.new w.heap.size):=fun r hr=>(h3 r hr).2.1;have HC3:Hid (∀ r ∈ qs,r.caps):=fun r hr=>(h3 r hr).2.2;clear h1 h2 h3 F F0 HQ;go_wp2;go_ret;exact ⟨qs,by rw [HQ3.out]; rfl,HE3.out,HS3.out,HC3.out,HN3.out,HB3.out⟩
theorem FO (r:TR) (w:World) (hr:r.ok w) (hl:r.light) :
  Calls prog 32 #[r.val] w fun e w'=>∃ r':TR,e=.returned r'.val∧r'.p=r.p∧r'.new w.heap.size∧r'.ok w'∧r'.caps∧Below w.heap.size w w':=by
 obtain ⟨name,rows,ad,cap⟩:=r;obtain ⟨l1,l2⟩:=hl;have HO:Hid (qj w ad rows):=hr;have HL:Hid (∀ q ∈ rows,q.light):=l2;simp only at l1;simp only [TR.val];clear hr l2;go_enter func32,ntmps32;go_wp2_with fail;obtain ⟨W1,hW1⟩:∃ W1,W1=((w.alloc (.cells #[.string name,.slice ad rows.length cap] 70)).alloc (.cells #[.string ⟨#[]⟩,.slice none 0 0] 78)).alloc (.cells #[.string name,.slice none 0 0] 78):=⟨_,rfl⟩;rw [← hW1];have hz1:w.heap.size + 3≤W1.heap.size:=by rw [hW1]; simp only [World.size_alloc]; omega
 have hb0:Below w.heap.size w W1:=by rw [hW1]; exact (((Below.refl w.heap.size w).alloc (Nat.le_refl _) _).alloc (by simp) _).alloc (by simp; omega) _
 have bC:Below ((w.alloc (.cells #[.string name,.slice ad rows.length cap] 70)).alloc (.cells #[.string ⟨#[]⟩,.slice none 0 0] 78)).heap.size ((w.alloc (.cells #[.string name,.slice ad rows.length cap] 70)).alloc (.cells #[.string ⟨#[]⟩,.slice none 0 0] 78)) W1:=by rw [hW1]; exact (Below.refl _ _).alloc (Nat.le_refl _) _
 have f1:∀ i,W1.frozen? ⟨w.heap.size + 1,i,none⟩=false:=fun i=>l6 bC (by simp) (uV _ _ _ _);have f2:∀ i,W1.frozen? ⟨w.heap.size + 1 + 1,i,none⟩=false:=fun i=>by rw [hW1]; exact Az _ _ _ _ _
 have z0:W1.cell? ⟨w.heap.size + 1,0,none⟩=some (.string ⟨#[]⟩):=kept bC (by simp) (iq _ _ _ _ _ rfl);have z1:W1.cell? ⟨w.heap.size + 1,1,none⟩=some (.slice none 0 0):=kept bC (by simp) (iq _ _ _ _ _ rfl);have o0:W1.cell? ⟨w.heap.size + 1 + 1,0,none⟩=some (.string name):=by rw [hW1]; exact ku _ _ _ _ _ _ rfl
 have o1:W1.cell? ⟨w.heap.size + 1 + 1,1,none⟩=some (.slice none 0 0):=by rw [hW1]; exact ku _ _ _ _ _ _ rfl
 clear hW1 bC;refine (uN ad cap rows W1 l1 (qj.below HO.out hb0) HL.out).mono ?_;rintro e w1 ⟨qs,rfl,hqe,hqs,hqc,hqn,hb1⟩;replace z0:=kept hb1 (by omega) z0;replace z1:=kept hb1 (by omega) z1;replace o0:=kept hb1 (by omega) o0;replace o1:=kept hb1 (by omega) o1;have k1:∀ i,w1.frozen? ⟨w.heap.size + 1,i,none⟩=false:=fun i=>l6 hb1 (by omega) (f1 i);have k2:∀ i,w1.frozen? ⟨w.heap.size + 1 + 1,i,none⟩=false:=fun i=>l6 hb1 (by omega) (f2 i);have HB1:Hid (Below w.heap.size w w1):=hb0.trans (hb1.mono (by omega));have hs1:w.heap.size + 3≤w1.heap.size:=by have:=hb1.size; omega
 have hnew:∀ B,B≤W1.heap.size→(⟨name,qs,some ⟨W1.heap.size,0,none⟩,qs.length⟩:TR).new w.heap.size∧(B < W1.heap.size→(⟨name,qs,some ⟨W1.heap.size,0,none⟩,qs.length⟩:TR).new B):=fun B hB =>
  ⟨⟨⟨_,rfl,by omega⟩,fun q hq=>(hqn q hq).mono (by omega)⟩,fun hlt=>⟨⟨_,rfl,hlt⟩,fun q hq=>(hqn q hq).mono (by omega)⟩⟩
 have HN0:Hid ((⟨name,qs,some ⟨W1.heap.size,0,none⟩,qs.length⟩:TR).new w.heap.size):=(hnew 0 (Nat.zero_le _)).1;have HN1:Hid ((⟨name,qs,some ⟨W1.heap.size,0,none⟩,qs.length⟩:TR).new (w.heap.size + 1)):=(hnew _ (by omega)).2 (by omega);have HN2:Hid ((⟨name,qs,some ⟨W1.heap.size,0,none⟩,qs.length⟩:TR).new (w.heap.size + 1 + 1)):=(hnew _ (by omega)).2 (by omega);have HK:Hid ((⟨name,qs,some ⟨W1.heap.size,0,none⟩,qs.length⟩:TR).ok w1):=hqs;have HC:Hid ((⟨name,qs,some ⟨W1.heap.size,0,none⟩,qs.length⟩:TR).caps):=⟨Nat.le_refl _,hqc⟩;have HE:Hid ((⟨name,qs,some ⟨W1.heap.size,0,none⟩,qs.length⟩:TR).p=⟨name,di rows⟩):=by show _=_; simp only [TR.p,hqe]
 clear hqe hqs hqc hqn hb1 hb0 f1 f2 hnew;go_wp2;refine bodyPost_ret (v:=.agg #[.string name,.slice (some ⟨W1.heap.size,0,none⟩) qs.length qs.length]) (by simp [results,Tryz.results32,go_sem, *]) rfl ⟨⟨name,qs,some ⟨W1.heap.size,0,none⟩,qs.length⟩,rfl,HE.out,HN0.out,?_,HC.out,?_⟩
 ·exact ((HK.out.set HN2.out).set HN1.out).set HN1.out
 ·exact ((HB1.out.setCell (p:=⟨w.heap.size + 1 + 1,1,none⟩) (by simp; omega) _).setCell (p:=⟨w.heap.size + 1,0,none⟩) (by simp) _).setCell (p:=⟨w.heap.size + 1,1,none⟩) (by simp) _
def TR.row (r:TR):List Value:=[.string r.name,.slice r.ad r.rows.length r.cap]
def rowTR (rs:List TR):List Value:=rs.flatMap TR.row
theorem tK:∀ rs:List TR,(rowTR rs).length=rs.length * 2
 | []=>rfl
 | r::rs=>by have:=tK rs; simp only [rowTR,TR.row,List.flatMap_cons,List.length_append,List.length_cons,List.length_nil] at this ⊢; omega
theorem DV:∀ (rs:List TR) (i:Nat) (h:i < rs.length) (j:Nat),j < 2→(rowTR rs)[i * 2 + j]?=(rs[i]).row[j]?
 | [],i,h,_,_=>by simp at h
 | r::rs,0,_,j,hj=>by
  simp only [rowTR,List.flatMap_cons,Nat.zero_mul,Nat.zero_add,List.getElem_cons_zero];rw [List.getElem?_append_left (by simpa [TR.row] using hj)]
 | r::rs,i + 1,h,j,hj=>by
  have:=DV rs i (by simpa using h) j hj;simp only [rowTR,List.flatMap_cons,List.getElem_cons_succ] at this ⊢;rw [List.getElem?_append_right (by simp [TR.row]; omega),← this];congr 1;simp [TR.row]; omega
theorem Fil.rowTR {w w':World} {g:Nat} {rs:List TR} (h:Fil w w' g (rs.length * 2) (rowTR rs)) (hok:∀ r ∈ rs,r.ok w'):fo w' (some ⟨g,0,none⟩) rs:=by
 refine .inr ⟨g,0,rfl,h.lt,fun i hi=>?_,hok⟩;have hl:=tK rs;have key:∀ j,j < 2→w'.cell? ⟨g,0 + i * 2 + j,none⟩=(rs[i]).row[j]?:=fun j hj=>by
  rw [Nat.zero_add,h.done (i * 2 + j) (by omega),← DV rs i hi j hj,List.getElem?_eq_getElem (by omega)]
 exact ⟨key 0 (by omega),key 1 (by omega)⟩
theorem nM (ad:Option Addr) (cap:Nat) (rs:List TR) (w:World) (hlen:rs.length≤1048576) (hs:fo w ad rs) (hl:∀ r ∈ rs,r.light) :
  Calls prog 9 #[.slice ad rs.length cap] w fun e w'=>∃ rs':List TR,e=.returned (.slice (some ⟨w.heap.size,0,none⟩) rs'.length rs'.length)∧af rs'=af rs∧fo w' (some ⟨w.heap.size,0,none⟩) rs'∧(∀ r ∈ rs',r.caps)∧(∀ r ∈ rs',r.new w.heap.size)∧Below w.heap.size w w':=by
 obtain ⟨inf,z,hi,hz0,hz1,hz2⟩:=vZ (t:=78) (n:=2) (b:=40) (by kernel_rfl);have HSL:Hid (fo w ad rs):=hs;have HLI:Hid (∀ r ∈ rs,r.light):=hl;clear hs hl;go_enter func9,ntmps9;go_wp2_with (at_make; refine wpList_make_full _ rfl _ _ 36 rfl w.heap.size 78 inf z 2 underlying36 hi hz0 hz1 .i64 .i64 _ _ rs.length rfl rfl rfl rfl (by rw [hz2]; omega) (by unfold maxLen; omega) (Nat.le_refl _) ?_; intro w0 hown0 hgrow0);have F0:Fil w w0 w.heap.size (rs.length * 2) []:=mE hown0 hgrow0;clear hown0 hgrow0 hi hz0 hz1 hz2;go_loopw [4] (fun i wr=>∃ (k:Nat) (qs:List TR),k≤rs.length∧i=.int .i64 k∧Hid (qs.length=k∧af qs=(af rs).take k∧(∀ q ∈ qs,q.ok wr∧q.new w.heap.size∧q.caps))∧Fil w wr w.heap.size (rs.length * 2) (rowTR qs)) (fun i _=>rs.length - (intOf i).toNat);case atStart=>exact ⟨0,[],Nat.zero_le _,rfl,⟨rfl,by simp [af],(fun q hq=>by cases hq)⟩,F0⟩
 case round =>
  obtain ⟨k,qs,hk,rfl,HQ,F⟩:=hrel;by_cases hlt:k < rs.length
  ·rcases HSL.out.below F.below with rfl | ⟨b,off,rfl,hb,hr,hok⟩
   ·simp at hlt
   obtain ⟨t0,t1⟩:=hr k hlt;have ok:=hok rs[k] (List.getElem_mem hlt);have lg:=HLI.out rs[k] (List.getElem_mem hlt);clear hr hok;go_wp2_with fail;refine (FO rs[k] _ ok lg).mono ?_;rintro e w1 ⟨q,rfl,hqe,hqn,hqok,hqc,hb1⟩;have F1:=F.later hb1;have fz:=F1.free;obtain ⟨v0,u0⟩:=Option.isSome_iff_exists.mp (F1.there (k * 2) (by omega));obtain ⟨v1,u1⟩:=Option.isSome_iff_exists.mp (F1.there (k * 2 + 1) (by omega));have hpl:(rowTR qs).length=k * 2:=by rw [tK,HQ.out.1]
   have F2:=(F1.put (.string q.name) (o:=k * 2) hpl.symm (by omega)).put (.slice q.ad q.rows.length q.cap) (o:=k * 2 + 1) (by simp [hpl]) (by omega);have e5:(rowTR qs ++ [.string q.name]) ++ [.slice q.ad q.rows.length q.cap]=rowTR (qs ++ [q]):=by simp [rowTR,TR.row]
   rw [e5] at F2;obtain ⟨wn,hwn⟩:∃ wn,wn=(w1.setCell ⟨w.heap.size,k * 2,none⟩ (.string q.name)).setCell ⟨w.heap.size,k * 2 + 1,none⟩ (.slice q.ad q.rows.length q.cap):=⟨_,rfl⟩;have hnew:q.new w.heap.size:=hqn.mono (Nat.le_of_lt F.lt);have HQ2:Hid ((qs ++ [q]).length=k + 1∧af (qs ++ [q])=(af rs).take (k + 1)∧∀ p ∈ qs ++ [q],p.ok wn∧p.new w.heap.size∧p.caps):=by
    obtain ⟨h1,h2,h3⟩:=HQ.out;refine ⟨by simp [h1],?_,?_⟩
    ·rw [List.take_succ_eq_append_getElem (by rw [fB]; exact hlt),← h2];simp [af,hqe]
    ·intro p hp;rw [List.mem_append,List.mem_singleton] at hp;have st:∀ p:TR,p.ok w1→p.new w.heap.size→p.ok wn:=fun p h n=>by rw [hwn]; exact (h.set n).set n
     rcases hp with hp | rfl
     ·exact ⟨st p ((h3 p hp).1.below hb1) (h3 p hp).2.1,(h3 p hp).2⟩
     ·exact ⟨st p hqok hnew,hnew,hqc⟩
   rw [← hwn] at F2;have HF:Hid (Fil w wn w.heap.size (rs.length * 2) (rowTR (qs ++ [q]))):=F2;clear F F0 F1 F2 t0 t1 hb1 hpl e5 ok lg HQ hqe hqn hqok hqc hnew;simp only [TR.val];go_wp2;rw [← hwn];go_roundw;case rel=>exact ⟨k + 1,qs ++ [q],by omega,by go_num,HQ2,HF.out⟩
   case measure=>simp [intOf]; omega
  ·obtain rfl:k=rs.length:=by omega
   obtain ⟨h1,h2,h3⟩:=HQ.out;have HQ3:Hid (qs.length=rs.length):=h1;have HE3:Hid (af qs=af rs):=by rw [← fB rs,List.take_length] at h2; exact h2
   have HS3:Hid (fo wr (some ⟨w.heap.size,0,none⟩) qs):=by
    rw [← h1] at F;exact F.rowTR fun r hr=>(h3 r hr).1
   have HB3:Hid (Below w.heap.size w wr):=F.below;have HN3:Hid (∀ r ∈ qs,r.new w.heap.size):=fun r hr=>(h3 r hr).2.1;have HC3:Hid (∀ r ∈ qs,r.caps):=fun r hr=>(h3 r hr).2.2;clear h1 h2 h3 F F0 HQ;go_wp2;go_ret;exact ⟨qs,by rw [HQ3.out]; rfl,HE3.out,HS3.out,HC3.out,HN3.out,HB3.out⟩
end Go.Proofs.YtdmniljjnaebbaaGreatDoor
