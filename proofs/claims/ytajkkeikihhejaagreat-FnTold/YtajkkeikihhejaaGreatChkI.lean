/- Both sides' look whether a fact is there. -/
import Derived.Test.YtajkkeikihhejaaGreatSq
import Derived.Test.YtajkkeikihhejaaGreatFactsI
import Derived.Test.YtajkkeikihhejaaGreatChkS
open Go.Proofs.Tryz
set_option maxHeartbeats 80000000
namespace Go.Proofs.YtajkkeikihhejaaGreat
set_option maxRecDepth 100000
set_option linter.unusedVariables false
set_option linter.unusedSectionVars false
open Go.ChangeShapes Go.WideShapes Go.ChangeAt Go.RowKit Go.Maps
open Pl
theorem DK (x y:Fc):wJ x y=wJ y x:=by rw [Bool.eq_iff_iff,uY,uY]; exact ⟨Eq.symm,Eq.symm⟩
theorem M5 {x y:List Fc} (h:x.Perm y) (f:Fc):bP x f=bP y f:=by rw [Bool.eq_iff_iff,dB,dB]; exact h.mem_iff
theorem Hl (ad:Option Addr) (cap:Nat) (ts:List Fc) (t:Fc) (w:af) (hlen:ts.length≤1048576) (hs:Bu w ad ts) :
  Calls prog 76 #[.slice ad ts.length cap,.agg #[.string t.a,.string t.b,.string t.r,.string t.c,.string t.d]] w fun e w'=>(∃ r:Int,e=.returned (.int .i64 r)∧decide (0≤r)=bP ts t)∧ag w w':=by
 have HS:=aC hs;clear hs;obtain ⟨W0,hW0⟩:∃ W0,W0=w.alloc (.cells #[.string t.a,.string t.b,.string t.r,.string t.c,.string t.d] 29):=⟨_,rfl⟩;have HB0:=qY hW0;have HX0:Hid (vW W0 w.heap.size t):=by show vW _ _ _; rw [hW0]; exact World.alloc_heap_new w _
 go_enter func76,ntmps76;go_wp2_with fail;rw [← hW0];clear hW0;go_loopw [8] (fun i wr=>∃ k:Nat,k≤ts.length∧i=.int .i64 k∧Hid (bP (ts.drop k) t=bP ts t)∧Hid (ag W0 wr)) (fun i _=>ts.length - (intOf i).toNat);case atStart=>exact ⟨0,TW _,rfl,rfl,TT _ _⟩
 obtain ⟨k,hk,rfl,HP,HB⟩:=hrel;have UG:Hid (ag w wr):=HB0.out.trans (HB.out.mono HB0.out.size);by_cases hlt:k < ts.length
 ·obtain ⟨b,off,UF,⟨t0,t1,t2,t3,t4⟩,hb⟩:=Bu.at0 (HS.out.below UG.out) hlt;obtain ⟨x0,x1,x2,x3,x4,xl⟩:=(HX0.out.bel HB.out).c;have hk1:=bB k;have hk2:(k:Int) < (ts.length:Int):=by omega
  have HD:Hid (bP ts t=(wJ ts[k] t || bP (ts.drop (k + 1)) t)):=by show _=_; rw [← HP.out]; exact CZ hlt
  subst UF;cases hq:wJ ts[k] t;case true=>
   have heq:=Es t ts[k] (v:=true) (by rw [DK]; exact hq);have HN:Hid (bP ts t=true):=by show _=_; rw [HD.out,hq]; rfl
   clear hq;go_wp2_with fail;go_quiet (fail);clear t0 t1 t2 t3 t4 x0 x1 x2 x3 x4 heq;go_wp2;go_ret;exact ⟨⟨k,rfl,by rw [HN.out]; simp⟩,below_drewN UG.out _⟩
  have heq:=Es t ts[k] (v:=false) (by rw [DK]; exact hq);have UI:Hid (bP (ts.drop (k + 1)) t=bP ts t):=by show _=_; rw [HD.out,hq]; rfl
  clear hq;go_wp2_with fail;go_quiet (fail);clear t0 t1 t2 t3 t4 x0 x1 x2 x3 x4 heq;go_wp2;go_roundw;case rel=>exact ⟨k + 1,by omega,by go_num,UI,below_drewN HB.out _⟩
  simp [intOf] <;> omega
 have HN:Hid (bP ts t=false):=by show _=_; rw [← HP.out,List.drop_of_length_le (by omega)]; rfl
 go_wp2;go_ret;exact ⟨⟨-1,rfl,by rw [HN.out]; simp⟩,UG.out⟩
theorem Bt (ad:Option Addr) (cap:Nat) (ts:List Fc) (t:Fc) (w:af) (hlen:ts.length≤1048576) (hs:Bu w ad ts) :
  Calls prog 51 #[.slice ad ts.length cap,.agg #[.string t.a,.string t.b,.string t.r,.string t.c,.string t.d]] w fun e w'=>e=.returned (.bool (bP ts t))∧ag w w':=by
 obtain ⟨W0,hW0⟩:∃ W0,W0=w.alloc (.cells #[.string t.a,.string t.b,.string t.r,.string t.c,.string t.d] 29):=⟨_,rfl⟩;have HB0:=qY hW0;have HC:=aC (Hl ad cap ts t W0 hlen (hs.below HB0.out));clear hs;go_enter func51,ntmps51;go_wp2_with fail;rw [← hW0];clear hW0;refine HC.out.mono ?_;rintro e w' ⟨⟨r,rfl,hr⟩,hbx⟩;have HR:=aC hr;have U3:=aC (HB0.out.trans (hbx.mono HB0.out.size));clear hr hbx;go_wp2;go_ret;exact ⟨by rw [← HR.out]; rfl,U3.out⟩
section
variable [DecidableEq Fc]
theorem BU (st:ByteArray × ByteArray→Int) (ad:Option Addr) (cap:Nat) (rs:List TR) (UJ:Option Addr) (cap':Nat) (ts:List Tp) (f:Fc) (w:af) (hlen:rs.length≤1048576) (hs:kW w ad rs) (hl:∀ r ∈ rs,r.light) (hfr:∀ r ∈ rs,r.fits) (hcp:∀ r ∈ rs,r.caps) (hlt:ts.length≤1048576) (hst:Sl w UJ ts) (hft:∀ x ∈ ts,x.fits) (hle:aJ (ae rs)=true→Least (ae rs) st) :
  Calls prog 11 #[.slice ad rs.length cap,.slice UJ ts.length cap',.agg #[.string f.a,.string f.b,.string f.r,.string f.c,.string f.d]] w fun e w'=>e=.returned (.bool (bP (bC st rs ts) f))∧ag w w':=by
 obtain ⟨W0,hW0⟩:∃ W0,W0=w.alloc (.cells #[.string f.a,.string f.b,.string f.r,.string f.c,.string f.d] 29):=⟨_,rfl⟩;have HB0:ag w W0:=by rw [hW0]; exact (TT _ _).alloc (TS _) _
 have hbx:vW W0 w.heap.size f:=by rw [hW0]; exact World.alloc_heap_new w _
 obtain ⟨c0,c1,c2,c3,c4,cl⟩:=hbx.c;have VG:Hid (∀ W':World,(W'.cell? ⟨w.heap.size,0,none⟩=some (.string f.a)∧W'.cell? ⟨w.heap.size,1,none⟩=some (.string f.b)∧W'.cell? ⟨w.heap.size,2,none⟩=some (.string f.r)∧W'.cell? ⟨w.heap.size,3,none⟩=some (.string f.c)∧W'.cell? ⟨w.heap.size,4,none⟩=some (.string f.d)∧ag w W')→Calls prog 14 #[.slice ad rs.length cap,.slice UJ ts.length cap'] W' (DJ (bC st rs ts) W')):=fun W' h=>sI st ad cap rs UJ cap' ts W' hlen (hs.below h.2.2.2.2.2) hl hfr hcp hlt (hst.below h.2.2.2.2.2) hft hle;have hLl:=pI st (rs:=rs) (ts:=ts);clear hs hl hfr hcp hst hft hle hbx;go_enter func11,ntmps11;go_wp2_with fail;rw [← hW0];clear hW0
 go_region_held3 (fun w'=>w'.cell? ⟨w.heap.size,0,none⟩=some (.string f.a)∧w'.cell? ⟨w.heap.size,1,none⟩=some (.string f.b)∧w'.cell? ⟨w.heap.size,2,none⟩=some (.string f.r)∧w'.cell? ⟨w.heap.size,3,none⟩=some (.string f.c)∧w'.cell? ⟨w.heap.size,4,none⟩=some (.string f.d)∧ag w w')
  (first | assumption | exact P6 (by assumption) hbx | exact ⟨c0,c1,c2,c3,c4,HB0.drew⟩)
  (first | (go_at_call 14; refine (VG.out _ (by assumption)).mono ?_; rintro e w' ⟨⟨L,v,rfl,hp,-,hown⟩,hbx⟩; obtain ⟨Zk,Xe,rfl,hsl⟩:=mW hown; have HLL:Hid (L.length≤1048576):=(by show _≤_; rw [hp.length_eq]; exact TZ hLl (by decide))) | (go_at_call 51; refine (Bt Zk Xe L f _ HLL.out (by first | exact hsl | exact hsl.below (TT _ _))).mono ?_; rintro e w'' ⟨rfl,hbx⟩))
 rename_i hJ;have HG:=aC hJ.2.2.2.2.2;have HE:=aC (M5 hp f);clear hJ hown hsl hp c0 c1 c2 c3 c4;go_wp2;go_ret;exact ⟨by rw [HE.out]; rfl,HG.out⟩
end
end Go.Proofs.YtajkkeikihhejaaGreat
