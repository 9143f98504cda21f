/- The document's look whether data are right, and its change of data. -/
import Derived.Test.YtpnjoniolfmbnaaGreatDoorJ8
import Derived.Test.YtpnjoniolfmbnaaGreatDoorEqTupS
import Derived.Test.YtpnjoniolfmbnaaGreatDoorJ11
import Derived.Test.YtpnjoniolfmbnaaGreatDoorDataOf
import Derived.Test.YtpnjoniolfmbnaaGreatDoorJ2
import Derived.Test.YtpnjoniolfmbnaaGreatDoorJ3
namespace Go.Proofs.YtpnjoniolfmbnaaGreatDoor
set_option maxRecDepth 100000
set_option linter.unusedVariables false
open Go.ChangeShapes Go.WideShapes Go.ChangeAt Go.RowKit
open Pl
theorem all_takeA {p:Tp→Bool} {ts:List Tp} {k:Nat} (h:k < ts.length):(ts.take (k + 1)).all p=((ts.take k).all p && p ts[k]):=by
 rw [List.take_succ_eq_append_getElem h,List.all_append]; simp
theorem all_hitA {p:Tp→Bool} {ts:List Tp} {k:Nat} (h:k < ts.length) (hp:p ts[k]=false):ts.all p=false:=by
 rw [List.all_eq_false]
 exact ⟨_,List.getElem_mem h,by rw [hp]; decide⟩
def rightA (fit:Tp→Bool) (sok:Bool) (ts:List Tp):Bool:=sok && tupsB ts && ts.all fit
set_option maxHeartbeats 4000000 in
theorem l4Right_any (sv:Value) (fit:Tp→Bool) (sok:Bool) (ad:Option Addr) (cap:Nat) (ts:List Tp) (w:World) (hlen:ts.length≤1048576) (hs:Sl w ad ts) (hf:∀ x ∈ ts,x.fits)
  (hsok:∀ w1:World,Below w.heap.size w w1→Calls Tryz.prog 50 #[sv] w1 fun e w'=>e=.returned (.bool sok)∧Below w1.heap.size w1 w')
  (hfit:∀ (t:Tp) (w1:World),t.fits→Below w.heap.size w w1→Calls Tryz.prog 69 #[sv,.agg #[.string t.a,.string t.b,.string t.r,.string t.c,.string t.d,.string t.s]] w1 fun e w'=>e=.returned (.bool (fit t))∧Below w1.heap.size w1 w') :
  Calls Tryz.prog 36 #[sv,.slice ad ts.length cap] w fun e w'=>e=.returned (.bool (rightA fit sok ts))∧Below w.heap.size w w':=by
 have HS:=toHA hs
 have HF:=toHA hf
 have HSO:=toHA hsok
 have HFT:=toHA hfit
 have hml:ts.length≤maxLen:=by unfold maxLen; omega
 clear hs hf hsok hfit
 go_enter Tryz.func36,Tryz.ntmps36
 go_wp2_with fail
 refine (HSO.out _ (Below.refl _ _)).mono ?_
 rintro e w1 ⟨rfl,hb1⟩
 have HB1:=toHA hb1
 clear hb1
 cases sok with
 | false =>
  have HN:Hid (rightA fit false ts=false):=by show _=_; unfold rightA; simp
  go_wp2
  go_ret
  exact ⟨by rw [HN.out]; rfl,HB1.out⟩
 | true =>
  go_wp2_with fail
  refine (specTuplesOk_any ad cap ts _ hml (HS.out.below HB1.out) HF.out).mono ?_
  rintro e w2 ⟨he,hb2⟩
  have HB2:=toHA (HB1.out.trans (hb2.mono HB1.out.size))
  clear hb2
  cases h2:tupsB ts with
  | false =>
   rw [h2] at he; subst he
   have HN:Hid (rightA fit true ts=false):=by show _=_; unfold rightA; rw [h2]; simp
   go_wp2
   go_ret
   exact ⟨by rw [HN.out]; rfl,HB2.out⟩
  | true =>
   rw [h2] at he; subst he
   have HN:Hid (rightA fit true ts=ts.all fit):=by show _=_; unfold rightA; rw [h2]; simp
   clear h2
   go_wp2
   go_loopw [5] (fun i wr=>∃ k:Nat,k≤ts.length∧i=.int .i64 (k:Int)∧Hid ((ts.take k).all fit=true)∧Hid (Below w.heap.size w wr)) (fun i _=>ts.length - (intOf i).toNat)
   case atStart=>exact ⟨0,Nat.zero_le _,rfl,rfl,HB2⟩
   case round =>
    obtain ⟨k,hk,rfl,HAL,HB⟩:=hrel
    by_cases hlt:k < ts.length
    ·rcases HS.out.below HB.out with hnil | ⟨b,off,rfl,hb,hr⟩
     ·rw [hnil] at hlt; simp at hlt
     obtain ⟨t0,t1,t2,t3,t4,t5⟩:=hr k hlt
     have hk1:(0:Int)≤(k:Int):=by omega
     have hk2:(k:Int) < (ts.length:Int):=by omega
     have HC:=toHA (HFT.out ts[k] wr (HF.out _ (List.getElem_mem hlt)) HB.out)
     have HAT:=toHA (all_takeA (p:=fit) hlt)
     have HAH:=toHA (all_hitA (p:=fit) hlt)
     clear hr
     go_wp2_with fail
     refine HC.out.mono ?_
     rintro e w3 ⟨he,hb3⟩
     have HB3:=toHA (HB.out.trans (hb3.mono HB.out.size))
     clear hb3 t0 t1 t2 t3 t4 t5
     cases hfx:fit ts[k] with
     | false =>
      rw [hfx] at he; subst he
      have HE:Hid (rightA fit true ts=false):=HN.out.trans (HAH.out hfx)
      go_wp2
      go_ret
      exact ⟨by rw [HE.out]; rfl,HB3.out⟩
     | true =>
      rw [hfx] at he; subst he
      have HA2:Hid ((ts.take (k + 1)).all fit=true):=by show _=_; rw [HAT.out,HAL.out,hfx]; rfl
      go_wp2
      go_roundw
      case rel=>exact ⟨k + 1,by omega,by go_num,HA2,HB3⟩
      case measure=>first | (simp [intOf]; done) | (simp [intOf]; omega)
    ·obtain rfl:k=ts.length:=by omega
     have HE:Hid (rightA fit true ts=true):=by show _=_; rw [HN.out]; have:=HAL.out; rw [List.take_length] at this; exact this
     go_wp2
     go_ret
     exact ⟨by rw [HE.out]; rfl,HB.out⟩
def appC (fit:Tp→Bool) (sok:Bool) (ts:List Tp) (k:Int) (t:Tp):Int:=if rightA fit sok ts then codeT fit ts k t else 1
def appL (fit:Tp→Bool) (sok:Bool) (ts:List Tp) (k:Int) (t:Tp):List Tp:=if rightA fit sok ts then doneT fit ts k t else []
theorem right_up {fit:Tp→Bool} {sok:Bool} {ts:List Tp} (h:rightA fit sok ts=true):sok=true∧tupsB ts=true∧ts.all fit=true:=by
 unfold rightA at h
 simp only [Bool.and_eq_true] at h
 exact ⟨h.1.1,h.1.2,h.2⟩
set_option maxHeartbeats 4000000 in
theorem specApplied_any (sv:Value) (fit:Tp→Bool) (sok:Bool) (b off cap:Nat) (ts:List Tp) (k:Int) (t:Tp) (w:World) (hlen:ts.length≤1048576) (hcp:ts.length≤cap) (hb:b < w.heap.size) (hr:Row6 w b off ts) (hf:∀ x ∈ ts,x.fits) (ht:t.fits)
  (hsok:∀ w1:World,Below w.heap.size w w1→Calls Tryz.prog 50 #[sv] w1 fun e w'=>e=.returned (.bool sok)∧Below w1.heap.size w1 w')
  (hfit:∀ (t:Tp) (w1:World),t.fits→Below w.heap.size w w1→Calls Tryz.prog 69 #[sv,.agg #[.string t.a,.string t.b,.string t.r,.string t.c,.string t.d,.string t.s]] w1 fun e w'=>e=.returned (.bool (fit t))∧Below w1.heap.size w1 w') :
  Calls Tryz.prog 9 #[sv,.slice (some ⟨b,off,none⟩) ts.length cap,.agg #[.int .i64 k,.string t.a,.string t.b,.string t.r,.string t.c,.string t.d,.string t.s]] w fun e w'=>∃ v,e=.returned (.tuple #[v,.int .i64 (appC fit sok ts k t)])∧w'.ownsRow w.heap.size 29 6 v (appL fit sok ts k t).length (rows6 (appL fit sok ts k t))∧Below w.heap.size w w':=by
 have HR:=toHA hr
 have HF:=toHA hf
 have HT:=toHA ht
 have HSO:=toHA hsok
 have HFT:=toHA hfit
 clear hr hf ht hsok hfit
 obtain ⟨W0,hW0⟩:∃ W0,W0=w.alloc (.cells #[.int .i64 k,.string t.a,.string t.b,.string t.r,.string t.c,.string t.d,.string t.s] 31):=⟨_,rfl⟩
 have HX0:Hid (Box7 W0 w.heap.size k t):=by show Box7 _ _ _ _; rw [hW0]; refine ⟨?_,?_,?_,?_,?_,?_,?_,?_⟩ <;> simp
 have HB0:Hid (Below w.heap.size w W0):=by show Below _ _ _; rw [hW0]; exact (Below.refl _ _).alloc (Nat.le_refl _) _
 have HSL0:Hid (Sl W0 (some ⟨b,off,none⟩) ts):=.inr ⟨b,off,rfl,Nat.lt_of_lt_of_le hb HB0.out.size,HR.out.below HB0.out hb⟩
 go_enter Tryz.func9,Tryz.ntmps9
 go_wp2_with fail
 rw [← hW0]
 clear hW0
 refine (l4Right_any sv fit sok _ cap ts W0 hlen HSL0.out HF.out (fun w1 h=>HSO.out w1 (HB0.out.trans (h.mono HB0.out.size))) (fun t w1 ht h=>HFT.out t w1 ht (HB0.out.trans (h.mono HB0.out.size)))).mono ?_
 rintro e w1 ⟨he,hb1⟩
 have HB1:=toHA (HB0.out.trans (hb1.mono HB0.out.size))
 have HX1:=toHA (HX0.out.below hb1)
 clear hb1 HX0 HB0 HSL0
 cases hra:rightA fit sok ts with
 | false =>
  rw [hra] at he; subst he
  have HC:Hid (appC fit sok ts k t=1∧appL fit sok ts k t=[]):=by show _∧_; unfold appC appL; rw [hra]; exact ⟨rfl,rfl⟩
  go_wp2
  exact bodyPost_ret (v:=.tuple #[.slice none 0 0,.int .i64 1]) (by simp [results,Tryz.results9,go_sem]) rfl ⟨_,by rw [HC.out.1],by rw [HC.out.2]; exact World.ownsRow_nil _ _ _ _,HB1.out⟩
 | true =>
  rw [hra] at he; subst he
  have HC:Hid (appC fit sok ts k t=codeT fit ts k t∧appL fit sok ts k t=doneT fit ts k t):=by show _∧_; unfold appC appL; rw [hra]; exact ⟨rfl,rfl⟩
  have HU:=toHA (up_of (right_up hra).2.1)
  obtain ⟨x0,x1,x2,x3,x4,x5,x6,xl⟩:=HX1.out
  go_wp2_with fail
  refine (l6Applied_any sv fit b off cap ts k t w1 (fun w2 h=>HFT.out t w2 HT.out (HB1.out.trans (h.mono HB1.out.size))) HU.out.2.2 hcp (HR.out.below HB1.out hb) (Nat.lt_of_lt_of_le hb HB1.out.size) HF.out HT.out).mono ?_
  rintro e w2 ⟨g,c,rfl,hown,hb2⟩
  have HO:=toHA (own_down hown HB1.out.size)
  have HB2:=toHA (HB1.out.trans (hb2.mono HB1.out.size))
  clear hown hb2
  go_wp2
  exact bodyPost_ret (v:=.tuple #[.slice (some ⟨g,0,none⟩) (doneT fit ts k t).length c,.int .i64 (codeT fit ts k t)]) (by simp [results,Tryz.results9,go_sem]) rfl ⟨_,by rw [HC.out.1],by rw [HC.out.2]; exact HO.out,HB2.out⟩
end Go.Proofs.YtpnjoniolfmbnaaGreatDoor
namespace Go.Proofs.YtpnjoniolfmbnaaGreatDoor
set_option maxRecDepth 100000
set_option linter.unusedVariables false
open Go.ChangeShapes Go.WideShapes Go.ChangeAt Go.RowKit Go.Maps
open Pl
theorem code_range {fit:Tp→Bool} {ts:List Tp} {k:Int} {t:Tp} (h:codeT fit ts k t ≠ 0):2≤codeT fit ts k t∧codeT fit ts k t≤6:=by
 unfold codeT at h ⊢
 repeat' split at h
 all_goals (repeat' split)
 all_goals simp_all
theorem keep8d {w W w':World} {D g:Nat} {y x0 x1 x2 x3 x4 x5 x6:Value} (h:W.cell? ⟨D,0,none⟩=some y∧W.cell? ⟨g,0,none⟩=some x0∧W.cell? ⟨g,1,none⟩=some x1∧W.cell? ⟨g,2,none⟩=some x2∧W.cell? ⟨g,3,none⟩=some x3∧W.cell? ⟨g,4,none⟩=some x4∧W.cell? ⟨g,5,none⟩=some x5∧W.cell? ⟨g,6,none⟩=some x6∧D < W.heap.size∧g < W.heap.size∧Below w.heap.size w W) (hb:Below W.heap.size W w'):w'.cell? ⟨D,0,none⟩=some y∧w'.cell? ⟨g,0,none⟩=some x0∧w'.cell? ⟨g,1,none⟩=some x1∧w'.cell? ⟨g,2,none⟩=some x2∧w'.cell? ⟨g,3,none⟩=some x3∧w'.cell? ⟨g,4,none⟩=some x4∧w'.cell? ⟨g,5,none⟩=some x5∧w'.cell? ⟨g,6,none⟩=some x6∧D < w'.heap.size∧g < w'.heap.size∧Below w.heap.size w w':=by
 obtain ⟨h0,g0,g1,g2,g3,g4,g5,g6,hn,hm,hB⟩:=h
 have hc:∀ o,w'.cell? ⟨D,o,none⟩=W.cell? ⟨D,o,none⟩:=fun o=>hb.cell (p:=⟨D,o,none⟩) hn
 have hd:∀ o,w'.cell? ⟨g,o,none⟩=W.cell? ⟨g,o,none⟩:=fun o=>hb.cell (p:=⟨g,o,none⟩) hm
 exact ⟨(hc _).trans h0,(hd _).trans g0,(hd _).trans g1,(hd _).trans g2,(hd _).trans g3,(hd _).trans g4,(hd _).trans g5,(hd _).trans g6,Nat.lt_of_lt_of_le hn hb.size,Nat.lt_of_lt_of_le hm hb.size,hB.trans (hb.mono hB.size)⟩
def APost2 (fit:Tp→Bool) (rs:List TR) (a:Nat→Addr) (w:World) (ts:List Tp) (k:Int) (t:Tp) (e:Ending) (w':World):Prop :=
 Below w.heap.size w w'∧((rightB fit rs ts=false∧e=.returned (.tuple #[.slice none 0 0,.iface 292 (.pointer (some (a 0)))])) ∨
  (rightB fit rs ts=true∧codeT fit ts k t=0∧∃ v,e=.returned (.tuple #[v,.nilIface])∧w'.ownsRow w.heap.size 29 6 v (nextT ts k t).length (rows6 (nextT ts k t))) ∨
  (rightB fit rs ts=true∧∃ (g p:Nat) (v:Value),codeT fit ts k t=g∧2≤g∧g≤6∧e=.returned (.tuple #[.slice none 0 0,.iface 73 (.pointer (some ⟨p,0,none⟩))])∧w.heap.size≤p∧w'.cell? ⟨p,0,none⟩=some (.iface 292 (.pointer (some (a g))))∧w'.cell? ⟨p,1,none⟩=some v∧w'.ownsRow w.heap.size 29 6 v ts.length (rows6 ts)))
set_option maxHeartbeats 8000000 in
theorem applied_any (fit:Tp→Bool) (a:Nat→Addr) (ad:Option Addr) (cap:Nat) (rs:List TR) (ad':Option Addr) (cap':Nat) (ts:List Tp) (k:Int) (t:Tp) (w:World) (hE:ErrsD w a) (hlen:rs.length≤1048576) (hs:SlT w ad rs) (hl:∀ r ∈ rs,r.light) (hfr:∀ r ∈ rs,r.fits) (hC:∀ w1:World,Below w.heap.size w w1→Calls Tryz.prog 74 #[.slice ad rs.length cap] w1 (OPost2 (tys rs) w1)) (hfb:schemaD (tys rs)=true→∀ t:Tp,t.ok=true→fitsI (tys rs) t.a t.r ⟨t.c,t.s⟩=fit t) (hlt:ts.length≤1048576) (hst:Sv w ad' cap' ts) (hft:∀ x ∈ ts,x.fits) (ht:t.fits) :
  Calls Tryz.prog 33 #[.slice ad rs.length cap,.slice ad' ts.length cap',.agg #[.int .i64 k,.string t.a,.string t.b,.string t.r,.string t.c,.string t.d,.string t.s]] w (APost2 fit rs a w ts k t):=by
 have HE:=toHA hE
 have HS:=toHA hs
 have HL:=toHA hl
 have HFR:=toHA hfr
 have HC:=toHA hC
 have HFB:=toHA hfb
 have HST:=toHA hst
 have HFT:=toHA hft
 have HT:=toHA ht
 clear hE hs hl hfr hC hfb hst hft ht
 obtain ⟨W0,hW0⟩:∃ W0,W0=w.alloc (.cells #[.int .i64 k,.string t.a,.string t.b,.string t.r,.string t.c,.string t.d,.string t.s] 31):=⟨_,rfl⟩
 have HX0:Hid (Box7 W0 w.heap.size k t):=by show Box7 _ _ _ _; rw [hW0]; refine ⟨?_,?_,?_,?_,?_,?_,?_,?_⟩ <;> simp
 have HB0:Hid (Below w.heap.size w W0):=by show Below _ _ _; rw [hW0]; exact (Below.refl _ _).alloc (Nat.le_refl _) _
 have hw0:w.heap.size < W0.heap.size:=by rw [hW0]; simp
 go_enter Tryz.func33,Tryz.ntmps33
 go_wp2_with fail
 rw [← hW0]
 clear hW0
 refine (dataOf_any fit ad cap rs ad' cap' ts W0 hlen (HS.out.below HB0.out) HL.out HFR.out (HC.out W0 HB0.out) HFB.out hlt (HST.out.below HB0.out).sl HFT.out).mono ?_
 rintro e w1 ⟨hb1,hor⟩
 have HB1:=toHA (HB0.out.trans (hb1.mono HB0.out.size))
 have HX1:=toHA (HX0.out.below hb1)
 have HE1:=toHA (HE.out.below HB1.out)
 rcases hor with ⟨hr,rfl⟩ | ⟨hr,D,br,bp,bt,nr,np,Mr,Mp,vo,vu,f,rfl,hbt,hLs,hDA⟩
 ·have HR:=toHA hr
  obtain ⟨-,c0,-⟩:=HE1.out.cell 0 (by omega) (by omega)
  clear hb1 hr
  go_wp2_with fail
  go_quiet (fail)
  go_wp2
  exact bodyPost_ret (v:=.tuple #[.slice none 0 0,.iface 292 (.pointer (some (a 0)))]) (by simp [results,Tryz.results33,go_sem]) rfl ⟨below_drewN HB1.out _,.inl ⟨HR.out,rfl⟩⟩
 ·have HR:=toHA hr
  obtain ⟨hsd,htu,-⟩:=right_up (fit:=fit) (sok:=schemaD (tys rs)) (ts:=ts) hr
  have HU:=toHA (up_of htu)
  have HSD:=toHA hsd
  have HTAB:=toHA (tab_of (schemaD_iff.1 hsd).1)
  have HDA:=toHA hDA
  obtain ⟨x0,x1,x2,x3,x4,x5,x6,xl⟩:=HX1.out
  have H0:Hid ((fun w'=>w'.cell? ⟨D,0,none⟩=some (.map (some bt))∧w'.cell? ⟨w.heap.size,0,none⟩=some (.int .i64 k)∧w'.cell? ⟨w.heap.size,1,none⟩=some (.string t.a)∧w'.cell? ⟨w.heap.size,2,none⟩=some (.string t.b)∧w'.cell? ⟨w.heap.size,3,none⟩=some (.string t.r)∧w'.cell? ⟨w.heap.size,4,none⟩=some (.string t.c)∧w'.cell? ⟨w.heap.size,5,none⟩=some (.string t.d)∧w'.cell? ⟨w.heap.size,6,none⟩=some (.string t.s)∧D < w'.heap.size∧w.heap.size < w'.heap.size∧Below w1.heap.size w1 w') w1.drew):=⟨hDA.dat.c0,x0,x1,x2,x3,x4,x5,x6,hDA.dat.lt,xl,(Below.refl _ _).drew⟩
  have HCALL:Hid (∀ W',(fun w'=>w'.cell? ⟨D,0,none⟩=some (.map (some bt))∧w'.cell? ⟨w.heap.size,0,none⟩=some (.int .i64 k)∧w'.cell? ⟨w.heap.size,1,none⟩=some (.string t.a)∧w'.cell? ⟨w.heap.size,2,none⟩=some (.string t.b)∧w'.cell? ⟨w.heap.size,3,none⟩=some (.string t.r)∧w'.cell? ⟨w.heap.size,4,none⟩=some (.string t.c)∧w'.cell? ⟨w.heap.size,5,none⟩=some (.string t.d)∧w'.cell? ⟨w.heap.size,6,none⟩=some (.string t.s)∧D < w'.heap.size∧w.heap.size < w'.heap.size∧Below w1.heap.size w1 w') W'→Calls Tryz.prog 52 #[.map (some bt),.slice ad' ts.length cap',.agg #[.int .i64 k,.string t.a,.string t.b,.string t.r,.string t.c,.string t.d,.string t.s]] W' (CPost W' fit ts k t)):=fun W' hS'=>by
   have hb':=hS'.2.2.2.2.2.2.2.2.2.2
   have hBw':Below w.heap.size w W':=HB1.out.trans (hb'.mono HB1.out.size)
   refine changed_any (.map (some bt)) fit ad' cap' ts k t W' (HE.out.below hBw').errs (fun w5 hok hb5=>?_) HU.out.2.2 (HST.out.below hBw') HFT.out HU.out.1 HU.out.2.1 HT.out
   refine (fits_any bt 36 rs ad (tabM rs) t.a t.b t.r t.c t.d t.s w5 ((HDA.out.tab.below hb').below hb5) HTAB.out (HS.out.below (hBw'.trans (hb5.mono hBw'.size))) HL.out HT.out.1 HT.out.2.2.1).mono ?_
   rintro e w6 ⟨rfl,hb6⟩
   exact ⟨by rw [HFB.out HSD.out t hok],hb6⟩
  clear x0 x1 x2 x3 x4 x5 x6 hb1 hr hDA hsd htu hLs
  by_cases hz:codeT fit ts k t=0
  ·have HZ:=toHA hz
   go_wp2_with fail
   go_region_held3 (fun w'=>w'.cell? ⟨D,0,none⟩=some (.map (some bt))∧w'.cell? ⟨w.heap.size,0,none⟩=some (.int .i64 k)∧w'.cell? ⟨w.heap.size,1,none⟩=some (.string t.a)∧w'.cell? ⟨w.heap.size,2,none⟩=some (.string t.b)∧w'.cell? ⟨w.heap.size,3,none⟩=some (.string t.r)∧w'.cell? ⟨w.heap.size,4,none⟩=some (.string t.c)∧w'.cell? ⟨w.heap.size,5,none⟩=some (.string t.d)∧w'.cell? ⟨w.heap.size,6,none⟩=some (.string t.s)∧D < w'.heap.size∧w.heap.size < w'.heap.size∧Below w1.heap.size w1 w')
    (first | assumption | exact keep8d (by assumption) hbx | exact H0.out)
    (first | (go_at_call 52; refine (HCALL.out _ (by assumption)).mono ?_; rintro e w' ⟨hbx,⟨-,v,rfl,hown⟩ | ⟨hnz,-⟩⟩; rotate_left; exact absurd HZ.out hnz))
   have HBE:Hid (Below w.heap.size w w'):=HB1.out.trans ((Below.refl _ _).drew.trans hbx |>.mono HB1.out.size)
   have HO:=toHA (own_down hown HB1.out.size)
   clear hbx hown
   go_wp2
   exact bodyPost_ret (v:=.tuple #[v,.nilIface]) (by simp [results,Tryz.results33,go_sem]) rfl ⟨HBE.out,.inr (.inl ⟨HR.out,HZ.out,v,rfl,HO.out⟩)⟩
  ·have HZ:=toHA hz
   have hrg:=code_range hz
   obtain ⟨gc,hgc⟩:∃ gc:Nat,codeT fit ts k t=gc:=⟨(codeT fit ts k t).toNat,by omega⟩
   go_wp2_with fail
   go_region_held3 (fun w'=>w'.cell? ⟨D,0,none⟩=some (.map (some bt))∧w'.cell? ⟨w.heap.size,0,none⟩=some (.int .i64 k)∧w'.cell? ⟨w.heap.size,1,none⟩=some (.string t.a)∧w'.cell? ⟨w.heap.size,2,none⟩=some (.string t.b)∧w'.cell? ⟨w.heap.size,3,none⟩=some (.string t.r)∧w'.cell? ⟨w.heap.size,4,none⟩=some (.string t.c)∧w'.cell? ⟨w.heap.size,5,none⟩=some (.string t.d)∧w'.cell? ⟨w.heap.size,6,none⟩=some (.string t.s)∧D < w'.heap.size∧w.heap.size < w'.heap.size∧Below w1.heap.size w1 w')
    (first | assumption | exact keep8d (by assumption) hbx | exact H0.out)
    (first | (go_at_call 52; refine (HCALL.out _ (by assumption)).mono ?_; rintro e w' ⟨hbx,⟨h0,-⟩ | ⟨-,g,T,u,v,rfl,hgp,hc0,hcE,hc1,hown⟩⟩; exact absurd h0 HZ.out))
   have HBE:Hid (Below w.heap.size w w'):=HB1.out.trans ((Below.refl _ _).drew.trans hbx |>.mono HB1.out.size)
   have HO:=toHA (own_down hown HB1.out.size)
   have HCE:Hid (w'.cell? ⟨g,0,none⟩=some (.iface 292 (.pointer (some (a gc))))):=by
    show _=_
    have h1:=(HE1.out.cell gc (by omega) (by omega)).2.1
    have h2:w1.cell? ⟨gc,0,none⟩=some (.iface T u):=by rw [hgc,Int.toNat_natCast] at hcE; exact hcE
    rw [hc0,← h2,h1]
   have HC1:=toHA hc1
   have HGC:=toHA hgc
   have hgp':w.heap.size≤g:=Nat.le_trans HB1.out.size hgp
   have hg2:2≤gc∧gc≤6:=by omega
   clear hbx hown hc0 hcE hc1 hgc hrg hz hgp
   go_wp2
   exact bodyPost_ret (v:=.tuple #[.slice none 0 0,.iface 73 (.pointer (some ⟨g,0,none⟩))]) (by simp [results,Tryz.results33,go_sem]) rfl ⟨HBE.out,.inr (.inr ⟨HR.out,gc,g,v,HGC.out,hg2.1,hg2.2,rfl,hgp',HCE.out,HC1.out,HO.out⟩)⟩
end Go.Proofs.YtpnjoniolfmbnaaGreatDoor
namespace Go.Proofs.YtpnjoniolfmbnaaGreatDoor
set_option maxRecDepth 100000
set_option linter.unusedVariables false
open Go.ChangeShapes Go.WideShapes Go.ChangeAt Go.RowKit
open Pl
def At7 (w:World) (b off:Nat) (c:Int × Tp):Prop:=w.cell? ⟨b,off,none⟩=some (.int .i64 c.1)∧w.cell? ⟨b,off + 1,none⟩=some (.string c.2.a)∧w.cell? ⟨b,off + 2,none⟩=some (.string c.2.b)∧w.cell? ⟨b,off + 3,none⟩=some (.string c.2.r)∧w.cell? ⟨b,off + 4,none⟩=some (.string c.2.c)∧w.cell? ⟨b,off + 5,none⟩=some (.string c.2.d)∧w.cell? ⟨b,off + 6,none⟩=some (.string c.2.s)
def SlC (w:World) (ad:Option Addr) (cs:List (Int × Tp)):Prop:=cs=[] ∨ ∃ b off,ad=some ⟨b,off,none⟩∧b < w.heap.size∧∀ (i:Nat) (h:i < cs.length),At7 w b (off + i * 7) cs[i]
theorem SlC.below {w w':World} {ad:Option Addr} {cs:List (Int × Tp)} (h:SlC w ad cs) (hb:Below w.heap.size w w'):SlC w' ad cs:=by
 rcases h with h | ⟨b,off,e,hl,hr⟩
 ·exact .inl h
 ·refine .inr ⟨b,off,e,Nat.lt_of_lt_of_le hl hb.size,fun i hi=>?_⟩
  have hc:∀ o,w'.cell? ⟨b,o,none⟩=w.cell? ⟨b,o,none⟩:=fun o=>hb.cell (p:=⟨b,o,none⟩) hl
  obtain ⟨h0,h1,h2,h3,h4,h5,h6⟩:=hr i hi
  exact ⟨(hc _).trans h0,(hc _).trans h1,(hc _).trans h2,(hc _).trans h3,(hc _).trans h4,(hc _).trans h5,(hc _).trans h6⟩
theorem own_row0 {w:World} {base g n c:Nat} {ts:List Tp} (h:w.ownsRow base 29 6 (.slice (some ⟨g,0,none⟩) n c) n (rows6 ts)) (hn:n=ts.length):Row6 w g 0 ts∧g < w.heap.size∧n≤c∧base≤g:=by
 have hlt:=h.lt g rfl
 refine ⟨?_,hlt.2,?_,hlt.1⟩
 ·subst hn
  intro i hi
  have key:∀ j,j < 6→w.cell? ⟨g,0 + i * 6 + j,none⟩=(ts[i]).row[j]?:=fun j hj=>by
   rw [h.cellAt (0 + i * 6 + j) (by have:=rows6_len ts; omega),← rows6_at ts i hi j hj,Nat.zero_add]
  exact ⟨key 0 (by omega),key 1 (by omega),key 2 (by omega),key 3 (by omega),key 4 (by omega),key 5 (by omega)⟩
 ·rcases h.2 with ⟨e,-⟩ | ⟨g',cap',cur,e,-,-,hle,-⟩
  ·cases e
  ·injection e with e1 e2 e3; omega
theorem own_row6 {w:World} {base g c:Nat} {ts:List Tp} (h:w.ownsRow base 29 6 (.slice (some ⟨g,0,none⟩) ts.length c) ts.length (rows6 ts)):Row6 w g 0 ts∧g < w.heap.size∧ts.length≤c:=⟨(own_row0 h rfl).1,(own_row0 h rfl).2.1,(own_row0 h rfl).2.2.1⟩
end Go.Proofs.YtpnjoniolfmbnaaGreatDoor
namespace Go.Proofs.YtpnjoniolfmbnaaGreatDoor
open Go.ChangeShapes Go.WideShapes Go.ChangeAt Go.RowKit
open Pl
theorem szTup_neg {a b r c d s:ByteArray} {left:Int} (h:szTup a b r c d s left < 0):szTup a b r c d s left=-1:=by
 unfold szTup at h ⊢
 repeat (split; · rfl)
 simp only [*,if_false] at h
theorem szChange_any (k:Int) (a b r c d s:ByteArray) (left:Int) (w:World) (ha:a.size≤maxLen) (hb:b.size≤maxLen) (hr:r.size≤maxLen) (hc:c.size≤maxLen) (hd:d.size≤maxLen) (hs:s.size≤maxLen) (h0:0≤left) (h1:left≤1048576) :
  Calls Tryz.prog 14 #[.agg #[.int .i64 k,.string a,.string b,.string r,.string c,.string d,.string s],.int .i64 left] w fun e w'=>e=.returned (.int .i64 (szTup a b r c d s left))∧Below w.heap.size w w':=by
 have hle:=szTup_le a b r c d s left
 go_enter Tryz.func14,Tryz.ntmps14
 go_wp2_with fail
 refine (szTuple_any _ _ _ _ _ _ _ _ ha hb hr hc hd hs h0 h1).mono ?_
 rintro e w1 ⟨rfl,hb1⟩
 have HB1:Below w.heap.size w w1:=((Below.refl _ _).alloc (Nat.le_refl _) _).trans (hb1.mono (by simp))
 clear hb1
 by_cases hn:szTup a b r c d s left < 0
 ·go_wp2
  go_ret
  exact ⟨ret_int (szTup_neg hn).symm,HB1⟩
 ·go_wp2
  go_ret
  exact ⟨rfl,HB1⟩
set_option maxHeartbeats 400000 in
theorem toChange_any (k:Int) (a b r c d s:ByteArray) (w:World) :
  Calls Tryz.prog 17 #[.agg #[.int .i64 k,.string a,.string b,.string r,.string c,.string d,.string s]] w fun e w'=>e=.returned (.agg #[.int .i64 k,.string a,.string b,.string r,.string c,.string d,.string s])∧Below w.heap.size w w':=by
 go_enter Tryz.func17,Tryz.ntmps17
 go_wp2_with fail
 refine (toTuple_any _ _ _ _ _ _ _).mono ?_
 rintro e w1 ⟨rfl,hb1⟩
 obtain ⟨hc1,hf1⟩:=bcell hb1
 have hz1:w.heap.size + 1 + 1 < w1.heap.size:=by have:=hb1.size; simp at this; omega
 have hy1:w.heap.size + 1 < w1.heap.size:=by omega
 have hx1:w.heap.size < w1.heap.size:=by omega
 have HB1:Below w.heap.size w w1:=Below.trans (by
  repeat (first | exact Below.refl _ _ | refine Below.setCell ?_ (by first | (simp; done) | (simp; omega)) _ | refine Below.alloc ?_ (by first | (simp; done) | (simp; omega)) _)) (hb1.mono (by simp; omega))
 clear hb1
 go_wp2
 exact bodyPost_ret (v:=.agg #[.int .i64 k,.string a,.string b,.string r,.string c,.string d,.string s]) (by simp [results,Tryz.results17,go_sem, *]) rfl ⟨rfl,by
  repeat (first | refine Below.setCell ?_ (by first | (simp; done) | (simp; omega)) _ | with_reducible exact HB1)⟩
end Go.Proofs.YtpnjoniolfmbnaaGreatDoor
namespace Go.Proofs.YtpnjoniolfmbnaaGreatDoor
set_option maxRecDepth 100000
set_option linter.unusedVariables false
open Go.ChangeShapes Go.WideShapes Go.ChangeAt Go.RowKit
open Pl
def Row7 (w:World) (b off:Nat) (cs:List (Int × Tp)):Prop:=∀ (i:Nat) (h:i < cs.length),At7 w b (off + i * 7) cs[i]
theorem At7.same {w w':World} {b off:Nat} {t:Int × Tp} (h:At7 w b off t) (hc:∀ o,w'.cell? ⟨b,o,none⟩=w.cell? ⟨b,o,none⟩):At7 w' b off t:=by
 obtain ⟨h0,h1,h2,h3,h4,h5,h6⟩:=h
 exact ⟨(hc _).trans h0,(hc _).trans h1,(hc _).trans h2,(hc _).trans h3,(hc _).trans h4,(hc _).trans h5,(hc _).trans h6⟩
theorem Row7.below {w w':World} {b off B:Nat} {ts:List (Int × Tp)} (h:Row7 w b off ts) (hB:Below B w w') (hb:b < B):Row7 w' b off ts :=
 fun i hi=>(h i hi).same fun o=>hB.cell (p:=⟨b,o,none⟩) hb
def put7 (w:World) (g o:Nat) (c:Int × Tp):World:=put6 (w.setCell ⟨g,o,none⟩ (.int .i64 c.1)) g (o + 1) c.2
theorem put7_far (w:World) (g o:Nat) (c:Int × Tp) (j:Nat) (h:j < o ∨ o + 7≤j):(put7 w g o c).cell? ⟨g,j,none⟩=w.cell? ⟨g,j,none⟩:=by
 unfold put7
 rw [put6_far _ _ _ _ _ (by omega),setO (by omega)]
theorem put7_at {w:World} {g o:Nat} (c:Int × Tp) (h:∀ j,j < 7→(w.cell? ⟨g,o + j,none⟩).isSome=true):At7 (put7 w g o c) g o c:=by
 have h0:(put7 w g o c).cell? ⟨g,o,none⟩=some (.int .i64 c.1):=by
  unfold put7
  rw [put6_far _ _ _ _ _ (by omega)]
  obtain ⟨u,hu⟩:=Option.isSome_iff_exists.mp (h 0 (by omega))
  exact setS hu
 obtain ⟨a0,a1,a2,a3,a4,a5⟩:=put6_at (w:=w.setCell ⟨g,o,none⟩ (.int .i64 c.1)) (g:=g) (o:=o + 1) c.2 fun j hj=>by
  rw [setO (by omega),show o + 1 + j=o + (1 + j) by omega]
  exact h (1 + j) (by omega)
 exact ⟨h0,a0,a1,a2,a3,a4,a5⟩
theorem put7_frozen (w:World) (g o:Nat) (c:Int × Tp) (x:Addr):(put7 w g o c).frozen? x=w.frozen? x:=by simp [put7,put6]
theorem put7_below {B:Nat} {w0 w:World} {g o:Nat} {c:Int × Tp} (h:Below B w0 w) (hg:B≤g):Below B w0 (put7 w g o c):=put6_below (h.setCell (by exact hg) _) hg
theorem put7_size (w:World) (g o:Nat) (c:Int × Tp):(put7 w g o c).heap.size=w.heap.size:=by simp [put7,put6]
structure FillC (w wr:World) (g:Nat) (ts:List (Int × Tp)) (k:Nat):Prop where
 below:Below w.heap.size w wr
 ge:w.heap.size≤g
 lt:g < wr.heap.size
 done:∀ (i:Nat) (h:i < ts.length),i < k→At7 wr g (0 + i * 7) ts[i]
 there:∀ j,j < ts.length * 7→(wr.cell? ⟨g,j,none⟩).isSome=true
 free:∀ j,wr.frozen? ⟨g,j,none⟩=false
theorem FillC.later {w wr w1:World} {g:Nat} {ts:List (Int × Tp)} {k:Nat} (h:FillC w wr g ts k) (hb:Below wr.heap.size wr w1):FillC w w1 g ts k where
 below:=h.below.trans (hb.mono h.below.size)
 ge:=h.ge
 lt:=Nat.lt_of_lt_of_le h.lt hb.size
 done i hi hk:=(h.done i hi hk).same fun o=>hb.cell (p:=⟨g,o,none⟩) h.lt
 there j hj:=by rw [hb.cell (p:=⟨g,j,none⟩) h.lt]; exact h.there j hj
 free j:=by rw [hb.frozen (p:=⟨g,j,none⟩) h.lt]; exact h.free j
theorem FillC.put {w wr:World} {g:Nat} {ts:List (Int × Tp)} {k:Nat} (h:FillC w wr g ts k) (hk:k < ts.length):FillC w (put7 wr g (k * 7) ts[k]) g ts (k + 1) where
 below:=put7_below h.below h.ge
 ge:=h.ge
 lt:=by rw [put7_size]; exact h.lt
 done i hi hik:=by
  by_cases e:i=k
  ·subst e
   rw [Nat.zero_add]
   exact put7_at _ (fun j hj=>h.there _ (by omega))
  ·obtain ⟨a0,a1,a2,a3,a4,a5,a6⟩:=h.done i hi (by omega)
   refine ⟨?_,?_,?_,?_,?_,?_,?_⟩ <;> (rw [put7_far _ _ _ _ _ (by omega)]; assumption)
 there j hj:=by
  by_cases hin:j < k * 7 ∨ k * 7 + 7≤j
  ·rw [put7_far _ _ _ _ _ hin]; exact h.there j hj
  ·obtain ⟨a0,a1,a2,a3,a4,a5,a6⟩:=put7_at (w:=wr) (g:=g) (o:=k * 7) ts[k] (fun j hj=>h.there _ (by omega))
   have hj6:j=k * 7 ∨ j=k * 7 + 1 ∨ j=k * 7 + 2 ∨ j=k * 7 + 3 ∨ j=k * 7 + 4 ∨ j=k * 7 + 5 ∨ j=k * 7 + 6:=by omega
   rcases hj6 with e | e | e | e | e | e | e
   ·rw [e,a0]; rfl
   ·rw [e,a1]; rfl
   ·rw [e,a2]; rfl
   ·rw [e,a3]; rfl
   ·rw [e,a4]; rfl
   ·rw [e,a5]; rfl
   ·rw [e,a6]; rfl
 free j:=by rw [put7_frozen]; exact h.free j
theorem FillC.sl {w w':World} {g:Nat} {ts:List (Int × Tp)} (h:FillC w w' g ts ts.length):SlC w' (some ⟨g,0,none⟩) ts:=.inr ⟨g,0,rfl,h.lt,fun i hi=>h.done i hi hi⟩
end Go.Proofs.YtpnjoniolfmbnaaGreatDoor
