/- The document's look whether data are right, and its change of data. -/
import Derived.Test.YteoflgocljfgeaaGreatDoorJ35
open Go.Proofs.Tryz
set_option maxHeartbeats 80000000
namespace Go.Proofs.YteoflgocljfgeaaGreatDoor
set_option maxRecDepth 100000
set_option linter.unusedVariables false
open Go.ChangeShapes Go.WideShapes Go.ChangeAt Go.RowKit
open Pl
theorem Hd {p:Tp→Bool} {ts:List Tp} {k:Nat} (h:k < ts.length):(ts.take (k + 1)).all p=((ts.take k).all p && p ts[k]):=by
 rw [List.take_succ_eq_append_getElem h,List.all_append]; simp
theorem Kc {p:Tp→Bool} {ts:List Tp} {k:Nat} (h:k < ts.length) (hp:p ts[k]=false):ts.all p=false:=by
 rw [List.all_eq_false];exact ⟨_,List.getElem_mem h,by rw [hp]; decide⟩
def cZ (fit:Tp→Bool) (sok:Bool) (ts:List Tp):Bool:=sok && dH ts && ts.all fit
theorem CR (sv:Value) (fit:Tp→Bool) (sok:Bool) (ad:Option Addr) (cap:Nat) (ts:List Tp) (w:World) (hlen:ts.length≤1048576) (hs:Sl w ad ts) (hf:∀ x ∈ ts,x.fits)
  (hsok:∀ w1:World,Below w.heap.size w w1→Calls prog 45 #[sv] w1 fun e w'=>e=.returned (.bool sok)∧Below w1.heap.size w1 w')
  (hfit:∀ (t:Tp) (w1:World),t.fits→Below w.heap.size w w1→Calls prog 47 #[sv,.agg #[.string t.a,.string t.b,.string t.r,.string t.c,.string t.d,.string t.s]] w1 fun e w'=>e=.returned (.bool (fit t))∧Below w1.heap.size w1 w') :
  Calls prog 24 #[sv,.slice ad ts.length cap] w fun e w'=>e=.returned (.bool (cZ fit sok ts))∧Below w.heap.size w w':=by
 have HS:=aC hs;have HF:=aC hf;have HSO:=aC hsok;have HFT:=aC hfit;have hml:ts.length≤maxLen:=by unfold maxLen; omega
 clear hs hf hsok hfit;go_enter func24,ntmps24;go_wp2_with fail;refine (HSO.out _ (Below.refl _ _)).mono ?_;rintro e w1 ⟨rfl,hb1⟩;have HB1:=aC hb1;clear hb1;cases sok with
 | false =>
  have HN:Hid (cZ fit false ts=false):=by show _=_; unfold cZ; simp
  go_wp2;go_ret;exact ⟨by rw [HN.out]; rfl,HB1.out⟩
 | true =>
  go_wp2_with fail;refine (lF ad cap ts _ hml (HS.out.below HB1.out) HF.out).mono ?_;rintro e w2 ⟨he,hb2⟩;have HB2:=aC (HB1.out.trans (hb2.mono HB1.out.size));clear hb2;cases h2:dH ts with
  | false =>
   rw [h2] at he; subst he;have HN:Hid (cZ fit true ts=false):=by show _=_; unfold cZ; rw [h2]; simp
   go_wp2;go_ret;exact ⟨by rw [HN.out]; rfl,HB2.out⟩
  | true =>
   rw [h2] at he; subst he;have HN:Hid (cZ fit true ts=ts.all fit):=by show _=_; unfold cZ; rw [h2]; simp
   clear h2;go_wp2;go_loopw [5] (fun i wr=>∃ k:Nat,k≤ts.length∧i=.int .i64 (k:Int)∧Hid ((ts.take k).all fit=true)∧Hid (Below w.heap.size w wr)) (fun i _=>ts.length - (intOf i).toNat);case atStart=>exact ⟨0,Nat.zero_le _,rfl,rfl,HB2⟩
   case round =>
    obtain ⟨k,hk,rfl,HAL,HB⟩:=hrel;by_cases hlt:k < ts.length
    ·rcases HS.out.below HB.out with hnil | ⟨b,off,rfl,hb,hr⟩
     ·rw [hnil] at hlt; simp at hlt
     obtain ⟨t0,t1,t2,t3,t4,t5⟩:=hr k hlt;have hk1:=bR k;have hk2:(k:Int) < (ts.length:Int):=by omega
     have HC:=aC (HFT.out ts[k] wr (HF.out _ (List.getElem_mem hlt)) HB.out);have HAT:=aC (Hd (p:=fit) hlt);have HAH:=aC (Kc (p:=fit) hlt);clear hr;go_wp2_with fail;refine HC.out.mono ?_;rintro e w3 ⟨he,hb3⟩;have HB3:=aC (HB.out.trans (hb3.mono HB.out.size));clear hb3 t0 t1 t2 t3 t4 t5;cases hfx:fit ts[k] with
     | false =>
      rw [hfx] at he; subst he;have HE:Hid (cZ fit true ts=false):=HN.out.trans (HAH.out hfx);go_wp2;go_ret;exact ⟨by rw [HE.out]; rfl,HB3.out⟩
     | true =>
      rw [hfx] at he; subst he;have HA2:Hid ((ts.take (k + 1)).all fit=true):=by show _=_; rw [HAT.out,HAL.out,hfx]; rfl
      go_wp2;go_roundw;case rel=>exact ⟨k + 1,by omega,by go_num,HA2,HB3⟩
      case measure=>simp [intOf] <;> omega
    ·obtain rfl:k=ts.length:=by omega
     have HE:Hid (cZ fit true ts=true):=by show _=_; rw [HN.out]; have:=HAL.out; rw [List.take_length] at this; exact this
     go_wp2;go_ret;exact ⟨by rw [HE.out]; rfl,HB.out⟩
def qJ (fit:Tp→Bool) (sok:Bool) (ts:List Tp) (k:Int) (t:Tp):Int:=if cZ fit sok ts then aP fit ts k t else 1
def mU (fit:Tp→Bool) (sok:Bool) (ts:List Tp) (k:Int) (t:Tp):List Tp:=if cZ fit sok ts then jJ fit ts k t else []
theorem su {fit:Tp→Bool} {sok:Bool} {ts:List Tp} (h:cZ fit sok ts=true):sok=true∧dH ts=true∧ts.all fit=true:=by
 unfold cZ at h;simp only [Bool.and_eq_true] at h;exact ⟨h.1.1,h.1.2,h.2⟩
theorem uU (sv:Value) (fit:Tp→Bool) (sok:Bool) (b off cap:Nat) (ts:List Tp) (k:Int) (t:Tp) (w:World) (hlen:ts.length≤1048576) (hcp:ts.length≤cap) (hb:b < w.heap.size) (hr:dL w b off ts) (hf:∀ x ∈ ts,x.fits) (ht:t.fits)
  (hsok:∀ w1:World,Below w.heap.size w w1→Calls prog 45 #[sv] w1 fun e w'=>e=.returned (.bool sok)∧Below w1.heap.size w1 w')
  (hfit:∀ (t:Tp) (w1:World),t.fits→Below w.heap.size w w1→Calls prog 47 #[sv,.agg #[.string t.a,.string t.b,.string t.r,.string t.c,.string t.d,.string t.s]] w1 fun e w'=>e=.returned (.bool (fit t))∧Below w1.heap.size w1 w') :
  Calls prog 8 #[sv,.slice (some ⟨b,off,none⟩) ts.length cap,.agg #[.int .i64 k,.string t.a,.string t.b,.string t.r,.string t.c,.string t.d,.string t.s]] w fun e w'=>∃ v,e=.returned (.tuple #[v,.int .i64 (qJ fit sok ts k t)])∧w'.ownsRow w.heap.size 41 6 v (mU fit sok ts k t).length (aB (mU fit sok ts k t))∧Below w.heap.size w w':=by
 have HR:=aC hr;have HF:=aC hf;have HT:=aC ht;have HSO:=aC hsok;have HFT:=aC hfit;clear hr hf ht hsok hfit;obtain ⟨W0,hW0⟩:∃ W0,W0=w.alloc (.cells #[.int .i64 k,.string t.a,.string t.b,.string t.r,.string t.c,.string t.d,.string t.s] 43):=⟨_,rfl⟩;have HX0:Hid (lN W0 w.heap.size k t):=by show lN _ _ _ _; rw [hW0]; refine ⟨?_,?_,?_,?_,?_,?_,?_,?_⟩ <;> simp
 have HB0:=Be hW0;have HSL0:Hid (Sl W0 (some ⟨b,off,none⟩) ts):=.inr ⟨b,off,rfl,Nat.lt_of_lt_of_le hb HB0.out.size,HR.out.below HB0.out hb⟩;go_enter func8,ntmps8;go_wp2_with fail;rw [← hW0];clear hW0;refine (CR sv fit sok _ cap ts W0 hlen HSL0.out HF.out (fun w1 h=>HSO.out w1 (HB0.out.trans (h.mono HB0.out.size))) (fun t w1 ht h=>HFT.out t w1 ht (HB0.out.trans (h.mono HB0.out.size)))).mono ?_;rintro e w1 ⟨he,hb1⟩;have HB1:=aC (HB0.out.trans (hb1.mono HB0.out.size));have HX1:=aC (HX0.out.below hb1);clear hb1 HX0 HB0 HSL0;cases hra:cZ fit sok ts with
 | false =>
  rw [hra] at he; subst he;have HC:Hid (qJ fit sok ts k t=1∧mU fit sok ts k t=[]):=by show _∧_; unfold qJ mU; rw [hra]; exact ⟨rfl,rfl⟩
  go_wp2;exact bodyPost_ret (v:=.tuple #[.slice none 0 0,.int .i64 1]) (by simp [results,Tryz.results8,go_sem]) rfl ⟨_,by rw [HC.out.1],by rw [HC.out.2]; exact World.ownsRow_nil _ _ _ _,HB1.out⟩
 | true =>
  rw [hra] at he; subst he;have HC:Hid (qJ fit sok ts k t=aP fit ts k t∧mU fit sok ts k t=jJ fit ts k t):=by show _∧_; unfold qJ mU; rw [hra]; exact ⟨rfl,rfl⟩
  have HU:=aC (xG (su hra).2.1);obtain ⟨x0,x1,x2,x3,x4,x5,x6,xl⟩:=HX1.out;go_wp2_with fail;refine (yH sv fit b off cap ts k t w1 (fun w2 h=>HFT.out t w2 HT.out (HB1.out.trans (h.mono HB1.out.size))) HU.out.2.2 hcp (HR.out.below HB1.out hb) (Nat.lt_of_lt_of_le hb HB1.out.size) HF.out HT.out).mono ?_;rintro e w2 ⟨g,c,rfl,hown,hb2⟩;have HO:=aC (eY hown HB1.out.size);have HB2:=aC (HB1.out.trans (hb2.mono HB1.out.size));clear hown hb2;go_wp2;exact bodyPost_ret (v:=.tuple #[.slice (some ⟨g,0,none⟩) (jJ fit ts k t).length c,.int .i64 (aP fit ts k t)]) (by simp [results,Tryz.results8,go_sem]) rfl ⟨_,by rw [HC.out.1],by rw [HC.out.2]; exact HO.out,HB2.out⟩
open Go.Maps
theorem EM {fit:Tp→Bool} {ts:List Tp} {k:Int} {t:Tp} (h:aP fit ts k t ≠ 0):2≤aP fit ts k t∧aP fit ts k t≤6:=by
 unfold aP at h ⊢
 repeat' split at h
 all_goals (repeat' split)
 all_goals simp_all
theorem Ke {w W w':World} {D g:Nat} {y x0 x1 x2 x3 x4 x5 x6:Value} (h:W.cell? ⟨D,0,none⟩=some y∧W.cell? ⟨g,0,none⟩=some x0∧W.cell? ⟨g,1,none⟩=some x1∧W.cell? ⟨g,2,none⟩=some x2∧W.cell? ⟨g,3,none⟩=some x3∧W.cell? ⟨g,4,none⟩=some x4∧W.cell? ⟨g,5,none⟩=some x5∧W.cell? ⟨g,6,none⟩=some x6∧D < W.heap.size∧g < W.heap.size∧Below w.heap.size w W) (hb:Below W.heap.size W w'):w'.cell? ⟨D,0,none⟩=some y∧w'.cell? ⟨g,0,none⟩=some x0∧w'.cell? ⟨g,1,none⟩=some x1∧w'.cell? ⟨g,2,none⟩=some x2∧w'.cell? ⟨g,3,none⟩=some x3∧w'.cell? ⟨g,4,none⟩=some x4∧w'.cell? ⟨g,5,none⟩=some x5∧w'.cell? ⟨g,6,none⟩=some x6∧D < w'.heap.size∧g < w'.heap.size∧Below w.heap.size w w':=by
 obtain ⟨h0,g0,g1,g2,g3,g4,g5,g6,hn,hm,hB⟩:=h;have hc:∀ o,w'.cell? ⟨D,o,none⟩=W.cell? ⟨D,o,none⟩:=fun o=>hb.cell (p:=⟨D,o,none⟩) hn;have hd:∀ o,w'.cell? ⟨g,o,none⟩=W.cell? ⟨g,o,none⟩:=fun o=>hb.cell (p:=⟨g,o,none⟩) hm;exact ⟨(hc _).trans h0,(hd _).trans g0,(hd _).trans g1,(hd _).trans g2,(hd _).trans g3,(hd _).trans g4,(hd _).trans g5,(hd _).trans g6,Nat.lt_of_lt_of_le hn hb.size,Nat.lt_of_lt_of_le hm hb.size,hB.trans (hb.mono hB.size)⟩
def MV (fit:Tp→Bool) (rs:List TR) (a:Nat→Addr) (w:World) (ts:List Tp) (k:Int) (t:Tp) (e:Ending) (w':World):Prop :=
 Below w.heap.size w w'∧((gJ fit rs ts=false∧e=.returned (.tuple #[.slice none 0 0,.iface 283 (.pointer (some (a 0)))])) ∨
  (gJ fit rs ts=true∧aP fit ts k t=0∧∃ v,e=.returned (.tuple #[v,.nilIface])∧w'.ownsRow w.heap.size 41 6 v (bX ts k t).length (aB (bX ts k t))) ∨
  (gJ fit rs ts=true∧∃ (g p:Nat) (v:Value),aP fit ts k t=g∧2≤g∧g≤6∧e=.returned (.tuple #[.slice none 0 0,.iface 70 (.pointer (some ⟨p,0,none⟩))])∧w.heap.size≤p∧w'.cell? ⟨p,0,none⟩=some (.iface 283 (.pointer (some (a g))))∧w'.cell? ⟨p,1,none⟩=some v∧w'.ownsRow w.heap.size 41 6 v ts.length (aB ts)))
theorem CS (fit:Tp→Bool) (a:Nat→Addr) (ad:Option Addr) (cap:Nat) (rs:List TR) (ad':Option Addr) (cap':Nat) (ts:List Tp) (k:Int) (t:Tp) (w:World) (hE:ErrsD w a) (hlen:rs.length≤1048576) (hs:gp w ad rs) (hl:∀ r ∈ rs,r.light) (hfr:∀ r ∈ rs,r.fits) (hC:∀ w1:World,Below w.heap.size w w1→Calls prog 73 #[.slice ad rs.length cap] w1 (EJ (ah rs) w1)) (hfb:aA (ah rs)=true→∀ t:Tp,t.ok=true→ou (ah rs) t.a t.r ⟨t.c,t.s⟩=fit t) (hlt:ts.length≤1048576) (hst:Sv w ad' cap' ts) (hft:∀ x ∈ ts,x.fits) (ht:t.fits) :
  Calls prog 28 #[.slice ad rs.length cap,.slice ad' ts.length cap',.agg #[.int .i64 k,.string t.a,.string t.b,.string t.r,.string t.c,.string t.d,.string t.s]] w (MV fit rs a w ts k t):=by
 have HE:=aC hE;have HS:=aC hs;have HL:=aC hl;have HFR:=aC hfr;have HC:=aC hC;have HFB:=aC hfb;have HST:=aC hst;have HFT:=aC hft;have HT:=aC ht;clear hE hs hl hfr hC hfb hst hft ht;obtain ⟨W0,hW0⟩:∃ W0,W0=w.alloc (.cells #[.int .i64 k,.string t.a,.string t.b,.string t.r,.string t.c,.string t.d,.string t.s] 43):=⟨_,rfl⟩;have HX0:Hid (lN W0 w.heap.size k t):=by show lN _ _ _ _; rw [hW0]; refine ⟨?_,?_,?_,?_,?_,?_,?_,?_⟩ <;> simp
 have HB0:=Be hW0;have hw0:w.heap.size < W0.heap.size:=by rw [hW0]; simp
 go_enter func28,ntmps28;go_wp2_with fail;rw [← hW0];clear hW0;refine (EL fit ad cap rs ad' cap' ts W0 hlen (HS.out.below HB0.out) HL.out HFR.out (HC.out W0 HB0.out) HFB.out hlt (HST.out.below HB0.out).sl HFT.out).mono ?_;rintro e w1 ⟨hb1,hor⟩;have HB1:=aC (HB0.out.trans (hb1.mono HB0.out.size));have HX1:=aC (HX0.out.below hb1);have HE1:=aC (HE.out.below HB1.out);rcases hor with ⟨hr,rfl⟩ | ⟨hr,D,br,bp,bt,nr,np,Mr,Mp,vo,vu,f,rfl,hbt,hLs,hDA⟩
 ·have HR:=aC hr;obtain ⟨-,c0,-⟩:=HE1.out.cell 0 (by omega) (by omega);clear hb1 hr;go_wp2_with fail;go_quiet (fail);go_wp2;exact bodyPost_ret (v:=.tuple #[.slice none 0 0,.iface 283 (.pointer (some (a 0)))]) (by simp [results,Tryz.results28,go_sem]) rfl ⟨below_drewN HB1.out _,.inl ⟨HR.out,rfl⟩⟩
 ·have HR:=aC hr;obtain ⟨hsd,htu,-⟩:=su (fit:=fit) (sok:=aA (ah rs)) (ts:=ts) hr;have HU:=aC (xG htu);have HSD:=aC hsd;have HTAB:=aC (wN (dG.1 hsd).1);have HDA:=aC hDA;obtain ⟨x0,x1,x2,x3,x4,x5,x6,xl⟩:=HX1.out;have H0:Hid ((fun w'=>w'.cell? ⟨D,0,none⟩=some (.map (some bt))∧w'.cell? ⟨w.heap.size,0,none⟩=some (.int .i64 k)∧w'.cell? ⟨w.heap.size,1,none⟩=some (.string t.a)∧w'.cell? ⟨w.heap.size,2,none⟩=some (.string t.b)∧w'.cell? ⟨w.heap.size,3,none⟩=some (.string t.r)∧w'.cell? ⟨w.heap.size,4,none⟩=some (.string t.c)∧w'.cell? ⟨w.heap.size,5,none⟩=some (.string t.d)∧w'.cell? ⟨w.heap.size,6,none⟩=some (.string t.s)∧D < w'.heap.size∧w.heap.size < w'.heap.size∧Below w1.heap.size w1 w') w1.drew):=⟨hDA.dat.c0,x0,x1,x2,x3,x4,x5,x6,hDA.dat.lt,xl,(Below.refl _ _).drew⟩;have HCALL:Hid (∀ W',(fun w'=>w'.cell? ⟨D,0,none⟩=some (.map (some bt))∧w'.cell? ⟨w.heap.size,0,none⟩=some (.int .i64 k)∧w'.cell? ⟨w.heap.size,1,none⟩=some (.string t.a)∧w'.cell? ⟨w.heap.size,2,none⟩=some (.string t.b)∧w'.cell? ⟨w.heap.size,3,none⟩=some (.string t.r)∧w'.cell? ⟨w.heap.size,4,none⟩=some (.string t.c)∧w'.cell? ⟨w.heap.size,5,none⟩=some (.string t.d)∧w'.cell? ⟨w.heap.size,6,none⟩=some (.string t.s)∧D < w'.heap.size∧w.heap.size < w'.heap.size∧Below w1.heap.size w1 w') W'→Calls prog 56 #[.map (some bt),.slice ad' ts.length cap',.agg #[.int .i64 k,.string t.a,.string t.b,.string t.r,.string t.c,.string t.d,.string t.s]] W' (L8 W' fit ts k t)):=fun W' hS'=>by
   have hb':=hS'.2.2.2.2.2.2.2.2.2.2;have hBw':Below w.heap.size w W':=HB1.out.trans (hb'.mono HB1.out.size);refine CE (.map (some bt)) fit ad' cap' ts k t W' (HE.out.below hBw').errs (fun w5 hok hb5=>?_) HU.out.2.2 (HST.out.below hBw') HFT.out HU.out.1 HU.out.2.1 HT.out;refine (xJ bt 36 rs ad (mr rs) t.a t.b t.r t.c t.d t.s w5 ((HDA.out.tab.below hb').below hb5) HTAB.out (HS.out.below (hBw'.trans (hb5.mono hBw'.size))) HL.out HT.out.1 HT.out.2.2.1).mono ?_;rintro e w6 ⟨rfl,hb6⟩;exact ⟨by rw [HFB.out HSD.out t hok],hb6⟩
  clear x0 x1 x2 x3 x4 x5 x6 hb1 hr hDA hsd htu hLs;by_cases hz:aP fit ts k t=0
  ·have HZ:=aC hz;go_wp2_with fail
   go_region_held3 (fun w'=>w'.cell? ⟨D,0,none⟩=some (.map (some bt))∧w'.cell? ⟨w.heap.size,0,none⟩=some (.int .i64 k)∧w'.cell? ⟨w.heap.size,1,none⟩=some (.string t.a)∧w'.cell? ⟨w.heap.size,2,none⟩=some (.string t.b)∧w'.cell? ⟨w.heap.size,3,none⟩=some (.string t.r)∧w'.cell? ⟨w.heap.size,4,none⟩=some (.string t.c)∧w'.cell? ⟨w.heap.size,5,none⟩=some (.string t.d)∧w'.cell? ⟨w.heap.size,6,none⟩=some (.string t.s)∧D < w'.heap.size∧w.heap.size < w'.heap.size∧Below w1.heap.size w1 w')
    (first | assumption | exact Ke (by assumption) hbx | exact H0.out)
    (first | (go_at_call 56; refine (HCALL.out _ (by assumption)).mono ?_; rintro e w' ⟨hbx,⟨-,v,rfl,hown⟩ | ⟨hnz,-⟩⟩; rotate_left; exact absurd HZ.out hnz))
   have HBE:Hid (Below w.heap.size w w'):=HB1.out.trans ((Below.refl _ _).drew.trans hbx |>.mono HB1.out.size);have HO:=aC (eY hown HB1.out.size);clear hbx hown;go_wp2;exact bodyPost_ret (v:=.tuple #[v,.nilIface]) (by simp [results,Tryz.results28,go_sem]) rfl ⟨HBE.out,.inr (.inl ⟨HR.out,HZ.out,v,rfl,HO.out⟩)⟩
  ·have HZ:=aC hz;have hrg:=EM hz;obtain ⟨gc,hgc⟩:∃ gc:Nat,aP fit ts k t=gc:=⟨(aP fit ts k t).toNat,by omega⟩;go_wp2_with fail
   go_region_held3 (fun w'=>w'.cell? ⟨D,0,none⟩=some (.map (some bt))∧w'.cell? ⟨w.heap.size,0,none⟩=some (.int .i64 k)∧w'.cell? ⟨w.heap.size,1,none⟩=some (.string t.a)∧w'.cell? ⟨w.heap.size,2,none⟩=some (.string t.b)∧w'.cell? ⟨w.heap.size,3,none⟩=some (.string t.r)∧w'.cell? ⟨w.heap.size,4,none⟩=some (.string t.c)∧w'.cell? ⟨w.heap.size,5,none⟩=some (.string t.d)∧w'.cell? ⟨w.heap.size,6,none⟩=some (.string t.s)∧D < w'.heap.size∧w.heap.size < w'.heap.size∧Below w1.heap.size w1 w')
    (first | assumption | exact Ke (by assumption) hbx | exact H0.out)
    (first | (go_at_call 56; refine (HCALL.out _ (by assumption)).mono ?_; rintro e w' ⟨hbx,⟨h0,-⟩ | ⟨-,g,T,u,v,rfl,hgp,hc0,hcE,hc1,hown⟩⟩; exact absurd h0 HZ.out))
   have HBE:Hid (Below w.heap.size w w'):=HB1.out.trans ((Below.refl _ _).drew.trans hbx |>.mono HB1.out.size);have HO:=aC (eY hown HB1.out.size);have HCE:Hid (w'.cell? ⟨g,0,none⟩=some (.iface 283 (.pointer (some (a gc))))):=by
    show _=_;have h1:=(HE1.out.cell gc (by omega) (by omega)).2.1;have h2:w1.cell? ⟨gc,0,none⟩=some (.iface T u):=by rw [hgc,Int.toNat_natCast] at hcE; exact hcE
    rw [hc0,← h2,h1]
   have HC1:=aC hc1;have HGC:=aC hgc;have hgp':w.heap.size≤g:=Nat.le_trans HB1.out.size hgp;have hg2:2≤gc∧gc≤6:=by omega
   clear hbx hown hc0 hcE hc1 hgc hrg hz hgp;go_wp2;exact bodyPost_ret (v:=.tuple #[.slice none 0 0,.iface 70 (.pointer (some ⟨g,0,none⟩))]) (by simp [results,Tryz.results28,go_sem]) rfl ⟨HBE.out,.inr (.inr ⟨HR.out,gc,g,v,HGC.out,hg2.1,hg2.2,rfl,hgp',HCE.out,HC1.out,HO.out⟩)⟩
theorem tO (ad:Option Addr) (cap:Nat) (rs:List TR) (w:World) (hlen:rs.length≤1048576) (hs:gp w ad rs) (hl:∀ r ∈ rs,r.light) (hf:∀ r ∈ rs,r.fits) (hcp:∀ r ∈ rs,r.caps) :
  Calls prog 39 #[.slice ad rs.length cap] w fun e w'=>e=.returned (.bool (aA (ah rs)))∧Below w.heap.size w w':=by
 have HC:=rY ad cap rs w hlen hs hl hf hcp;clear hs hl hf hcp;go_enter func39,ntmps39;go_wp2_with fail;refine HC.mono ?_;rintro e w6 ⟨hL,hb6⟩;rcases hL with ⟨bS,nS,σ,rfl,hS,-⟩ | ⟨rfl,hno⟩
 ·have HY:=ut hS;have HY2:Hid (aA (ah rs)=true):=HY;clear HY hS HC;go_wp2;go_ret;exact ⟨ag HY2.out.symm,hb6⟩
 ·have HY2:Hid (aA (ah rs)=false):=di hno;clear hno HC;go_wp2;go_ret;exact ⟨ag HY2.out.symm,hb6⟩
end Go.Proofs.YteoflgocljfgeaaGreatDoor
