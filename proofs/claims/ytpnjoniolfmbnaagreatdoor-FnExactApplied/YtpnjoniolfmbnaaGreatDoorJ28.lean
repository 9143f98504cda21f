/- Lists of tuples in memory of their own; two lists of tuples that are the same are told so. -/
import Derived.Test.YtpnjoniolfmbnaaGreatDoorEqTupS
import Derived.Test.YtpnjoniolfmbnaaGreatDoorMarkTup
import Derived.Test.YtpnjoniolfmbnaaGreatDoorJ4
import Derived.Test.YtpnjoniolfmbnaaGreatDoorJ27
import Derived.Test.YtpnjoniolfmbnaaGreatDoorChanged
import Derived.Test.YtpnjoniolfmbnaaGreatDoorJ23
import Derived.Test.YtpnjoniolfmbnaaGreatDoorJ15
namespace Go.Proofs.YtpnjoniolfmbnaaGreatDoor
set_option maxRecDepth 100000
open Go.ChangeShapes Go.WideShapes Go.ChangeAt Go.RowKit
open Pl
def OwnL (B:Nat) (w:World) (ad:Option Addr) (L:List Tp):Prop:=Sl w ad L∧(L ≠ []→∃ g,ad=some ⟨g,0,none⟩∧B≤g∧Free w g)
theorem OwnL.mono {B B':Nat} {w:World} {ad:Option Addr} {L:List Tp} (h:OwnL B w ad L) (hB:B'≤B):OwnL B' w ad L:=⟨h.1,fun k=>by obtain ⟨g,e,h1,h2⟩:=h.2 k; exact ⟨g,e,Nat.le_trans hB h1,h2⟩⟩
theorem eqTupleS_none (ad ad':Option Addr) (cap cap':Nat) (w:World) :
  Calls Tryz.prog 18 #[.slice ad 0 cap,.slice ad' 0 cap'] w fun e w'=>e=.returned (.bool true)∧Below w.heap.size w w':=by
 go_enter Tryz.func18,Tryz.ntmps18
 go_wp2
 refine wp_loop_rounds 1 ?_
 rw [rounds_succ]
 go_wp2
 go_ret
 exact ⟨rfl,Below.refl _ _⟩
theorem eqTupleS_any (ad ad':Option Addr) (cap cap':Nat) (ts:List Tp) (w:World) (hlen:ts.length≤maxLen) (hs:Sl w ad ts) (hs':Sl w ad' ts) :
  Calls Tryz.prog 18 #[.slice ad ts.length cap,.slice ad' ts.length cap'] w fun e w'=>e=.returned (.bool true)∧Below w.heap.size w w':=by
 by_cases h:ts=[]
 ·subst h; exact eqTupleS_none ad ad' cap cap' w
 ·rcases hs with h1 | ⟨b,off,rfl,hb,hr⟩
  ·exact absurd h1 h
  rcases hs' with h1 | ⟨b',off',rfl,hb',hr'⟩
  ·exact absurd h1 h
  exact eqTupleS_same b b' off off' cap cap' ts w hlen hr hb hr' hb'
theorem sl_lt {w:World} {ad:Option Addr} {L:List Tp} (h:Sl w ad L) (hne:L ≠ []) {g o:Nat} (e:ad=some ⟨g,o,none⟩):g < w.heap.size:=by
 rcases h with h | ⟨b,off,e2,hb,-⟩
 ·exact absurd h hne
 ·rw [e] at e2; injection e2 with e2; injection e2 with e2 e3; omega
theorem OwnL.later {B:Nat} {w w':World} {ad:Option Addr} {L:List Tp} (h:OwnL B w ad L) (hb:Below w.heap.size w w'):OwnL B w' ad L:=⟨h.1.below hb,fun hne=>by
 obtain ⟨g,e,h1,h2⟩:=h.2 hne
 exact ⟨g,e,h1,fun j=>mF hb (sl_lt h.1 hne e) (h2 j)⟩⟩
theorem OwnL.chg {B:Nat} {S:Nat→Prop} {w w':World} {ad:Option Addr} {L:List Tp} (h:OwnL B w ad L) (hc:Chg S w w') (hn:∀ g,B≤g→¬ S g):OwnL B w' ad L:=⟨h.1.chg hc (fun g o hne e=>by
  obtain ⟨g',e',h1,-⟩:=h.2 hne
  rw [e] at e'; injection e' with e'; injection e' with e' e3
  exact hn g (by omega)),fun hne=>by
 obtain ⟨g,e,h1,h2⟩:=h.2 hne
 exact ⟨g,e,h1,hc.free g (sl_lt h.1 hne e) h2⟩⟩
theorem Six.chg {S:Nat→Prop} {w w':World} {g:Nat} {t:Tp} (h:Six w g t) (hc:Chg S w w') (hn:¬ S g):Six w' g t:=by
 obtain ⟨h0,h1,h2,h3,h4,h5,hl⟩:=h
 exact ⟨by rw [hc.cell hl hn]; exact h0,by rw [hc.cell hl hn]; exact h1,by rw [hc.cell hl hn]; exact h2,by rw [hc.cell hl hn]; exact h3,by rw [hc.cell hl hn]; exact h4,by rw [hc.cell hl hn]; exact h5,Nat.lt_of_lt_of_le hl hc.size⟩
end Go.Proofs.YtpnjoniolfmbnaaGreatDoor
namespace Go.Proofs.YtpnjoniolfmbnaaGreatDoor
set_option maxRecDepth 100000
open Go.ChangeShapes Go.WideShapes Go.ChangeAt Go.RowKit Go.Maps
open Pl
def noFit (ts:List Ty) (t:Tp):Bool:=!fitsS ts t.a t.b t.r t.c t.d t.s
theorem ownL_of {w:World} {base n:Nat} {v:Value} {ts:List Tp} (h:w.ownsRow base 29 6 v n (rows6 ts)) (hn:n=ts.length):∃ ad cap,v=.slice ad ts.length cap∧OwnL base w ad ts:=by
 obtain ⟨ad,cap,hv,hsl,hg⟩:=ownsT h hn
 refine ⟨ad,cap,hv,hsl,fun hne=>?_⟩
 rcases h.2 with ⟨rfl,h0⟩ | ⟨g,cap',cur,rfl,hbg,-⟩
 ·rw [hn] at h0; exact absurd (List.length_eq_zero_iff.1 h0) hne
 ·injection hv with e1 e2 e3
  exact ⟨g,e1.symm,hbg,(hg g e1.symm).2.2⟩
theorem fits_both {rs:List TR} {t:Tp} (h:schemaD (tys rs)=true) (ht:t.ok=true):fitsI (tys rs) t.a t.r ⟨t.c,t.s⟩=!noFit (tys rs) t:=by
 have hSP:=schemaD_iff.1 h
 have h1:fitsI (tys rs) t.a t.r ⟨t.c,t.s⟩=inPre (allowP (relOr (tys rs) t.a t.r)) (allowP (relOr (tys rs) t.a t.r)).length ⟨t.c,t.s⟩:=fit_same _ (own_rel hSP _ _)
 have h2:tupB t.a t.b t.r t.c t.d t.s=true:=ht
 rw [h1]
 unfold noFit fitsS
 rw [h2]
 simp
end Go.Proofs.YtpnjoniolfmbnaaGreatDoor
namespace Go.Proofs.YtpnjoniolfmbnaaGreatDoor
set_option maxRecDepth 100000
set_option linter.unusedVariables false
open Go.ChangeShapes Go.WideShapes Go.ChangeAt Go.RowKit Go.Maps
open Pl
def fitR (rs:List TR) (t:Tp):Bool:=fitsS (tys rs) t.a t.b t.r t.c t.d t.s
theorem fitR_both {rs:List TR} {t:Tp} (h:schemaD (tys rs)=true) (ht:t.ok=true):fitsI (tys rs) t.a t.r ⟨t.c,t.s⟩=fitR rs t:=by
 rw [fits_both h ht]; unfold noFit fitR; simp
theorem ownsSv {w:World} {base:Nat} {v:Value} {ts:List Tp} (h:w.ownsRow base 29 6 v ts.length (rows6 ts)):∃ ad cap,v=.slice ad ts.length cap∧Sv w ad cap ts:=by
 have h':=h
 rcases h.2 with ⟨rfl,h0⟩ | ⟨g,cap,cur,rfl,hb,hg,hc,-⟩
 ·exact ⟨none,0,by rw [h0],.inl ⟨rfl,rfl,List.length_eq_zero_iff.1 h0⟩⟩
 ·obtain ⟨hrow,hl,hle⟩:=own_row6 h'
  exact ⟨_,cap,rfl,.inr ⟨g,0,rfl,hl,hle,hrow⟩⟩
end Go.Proofs.YtpnjoniolfmbnaaGreatDoor
namespace Go.Proofs.YtpnjoniolfmbnaaGreatDoor
set_option maxRecDepth 100000
set_option linter.unusedVariables false
open Go.ChangeShapes Go.WideShapes Go.ChangeAt Go.RowKit Go.Maps
open Pl
theorem appC_no {fit:Tp→Bool} {rs:List TR} {ts:List Tp} {k:Int} {t:Tp} (h:rightB fit rs ts=false):appC fit (schemaD (tys rs)) ts k t=1∧appL fit (schemaD (tys rs)) ts k t=[]:=by
 have h':rightA fit (schemaD (tys rs)) ts=false:=h
 unfold appC appL; rw [h']; exact ⟨rfl,rfl⟩
theorem appC_yes {fit:Tp→Bool} {rs:List TR} {ts:List Tp} {k:Int} {t:Tp} (h:rightB fit rs ts=true):appC fit (schemaD (tys rs)) ts k t=codeT fit ts k t∧appL fit (schemaD (tys rs)) ts k t=doneT fit ts k t:=by
 have h':rightA fit (schemaD (tys rs)) ts=true:=h
 unfold appC appL; rw [h']; exact ⟨rfl,rfl⟩
set_option maxHeartbeats 8000000 in
theorem implApplied_any (fit:Tp→Bool) (a:Nat→Addr) (ad:Option Addr) (cap:Nat) (rs:List TR) (ad':Option Addr) (cap':Nat) (ts:List Tp) (k:Int) (t:Tp) (w:World) (hE:ErrsD w a) (hlen:rs.length≤1048576) (hs:SlT w ad rs) (hl:∀ r ∈ rs,r.light) (hfr:∀ r ∈ rs,r.fits) (hC:∀ w1:World,Below w.heap.size w w1→Calls Tryz.prog 74 #[.slice ad rs.length cap] w1 (OPost2 (tys rs) w1)) (hfb:schemaD (tys rs)=true→∀ t:Tp,t.ok=true→fitsI (tys rs) t.a t.r ⟨t.c,t.s⟩=fit t) (hlt:ts.length≤1048576) (hst:Sv w ad' cap' ts) (hft:∀ x ∈ ts,x.fits) (ht:t.fits) :
  Calls Tryz.prog 8 #[.slice ad rs.length cap,.slice ad' ts.length cap',.agg #[.int .i64 k,.string t.a,.string t.b,.string t.r,.string t.c,.string t.d,.string t.s]] w fun e w'=>∃ v,e=.returned (.tuple #[v,.int .i64 (appC fit (schemaD (tys rs)) ts k t)])∧w'.ownsRow w.heap.size 29 6 v (appL fit (schemaD (tys rs)) ts k t).length (rows6 (appL fit (schemaD (tys rs)) ts k t))∧Below w.heap.size w w':=by
 obtain ⟨W0,hW0⟩:∃ W0,W0=w.alloc (.cells #[.int .i64 k,.string t.a,.string t.b,.string t.r,.string t.c,.string t.d,.string t.s] 31):=⟨_,rfl⟩
 have HX0:Hid (Box7 W0 w.heap.size k t):=by show Box7 _ _ _ _; rw [hW0]; refine ⟨?_,?_,?_,?_,?_,?_,?_,?_⟩ <;> simp
 have HB0:Hid (Below w.heap.size w W0):=by show Below _ _ _; rw [hW0]; exact (Below.refl _ _).alloc (Nat.le_refl _) _
 have HE:=toHA hE
 have HCALL:=toHA (applied_any fit a ad cap rs ad' cap' ts k t W0 (hE.below HB0.out) hlen (hs.below HB0.out) hl hfr (fun w1 h=>hC w1 (HB0.out.trans (h.mono HB0.out.size))) hfb hlt (hst.below HB0.out) hft ht)
 obtain ⟨x0,x1,x2,x3,x4,x5,x6,xl⟩:=HX0.out
 clear hE hs hl hfr hC hfb hst hft ht
 go_enter Tryz.func8,Tryz.ntmps8
 go_wp2_with fail
 rw [← hW0]
 clear hW0
 refine HCALL.out.mono ?_
 rintro e w1 ⟨hb1,hor⟩
 have HB1:=toHA (HB0.out.trans (hb1.mono HB0.out.size))
 obtain ⟨W2,hW2⟩:∃ W2,W2=w1.alloc (.cells #[.pointer none] 73):=⟨_,rfl⟩
 have hb2:Below w1.heap.size w1 W2:=by rw [hW2]; exact (Below.refl _ _).alloc (Nat.le_refl _) _
 have HB2:=toHA (HB1.out.trans (hb2.mono HB1.out.size))
 have HE2:=toHA (HE.out.below HB2.out)
 have hwz:w.heap.size≤W0.heap.size:=HB0.out.size
 have ht0:W2.cell? ⟨w1.heap.size,0,none⟩=some (.pointer none):=by rw [hW2]; simp
 have hf0:W2.frozen? ⟨w1.heap.size,0,none⟩=false:=by rw [hW2]; simp
 have hs2:W2.heap.size=w1.heap.size + 1:=by rw [hW2]; simp
 clear x0 x1 x2 x3 x4 x5 x6 xl HCALL hb1
 rcases hor with ⟨hr,rfl⟩ | ⟨hr,hz,v,rfl,hown⟩ | ⟨hr,g,p,v,hgc,hg2,hg6,rfl,hpl,hc0,hc1,hown⟩
 ·have HA:=toHA (appC_no (k:=k) (t:=t) hr)
  clear hr
  go_wp2_with fail
  rw [← hW2]
  clear hW2
  refine (as_miss (a 0) ⟨w1.heap.size,0,none⟩ W2 HE2.out.typ.2).mono ?_
  rintro e w3 ⟨rfl,hb3⟩
  have HB3:=toHA (HB2.out.trans (hb3.mono HB2.out.size))
  clear hb3
  go_wp2_with fail
  refine (codeOf_wrong a _ (HE.out.below HB3.out)).mono ?_
  rintro e w4 ⟨rfl,rfl⟩
  go_wp2
  exact bodyPost_ret (v:=.tuple #[.slice none 0 0,.int .i64 1]) (by simp [results,Tryz.results8,go_sem]) rfl ⟨_,by rw [HA.out.1],by rw [HA.out.2]; exact World.ownsRow_nil _ _ _ _,HB3.out⟩
 ·have HA:=toHA (appC_yes (k:=k) (t:=t) hr)
  have HL:Hid (appC fit (schemaD (tys rs)) ts k t=0∧appL fit (schemaD (tys rs)) ts k t=nextT ts k t):=⟨HA.out.1.trans hz,HA.out.2.trans (done_yes hz)⟩
  have HO2:=toHA (own_belowA (own_down hown hwz) hb2)
  clear hr hz hown
  go_wp2_with fail
  rw [← hW2]
  clear hW2
  refine (as_nil _ W2).mono ?_
  rintro e w3 ⟨rfl,rfl⟩
  go_wp2_with fail
  refine (codeOf_nil a _ HE2.out).mono ?_
  rintro e w4 ⟨rfl,rfl⟩
  go_wp2
  exact bodyPost_ret (v:=.tuple #[v,.int .i64 0]) (by simp [results,Tryz.results8,go_sem]) rfl ⟨_,by rw [HL.out.1],by rw [HL.out.2]; exact HO2.out,HB2.out⟩
 ·have HA:=toHA (appC_yes (k:=k) (t:=t) hr)
  have HL:Hid (appC fit (schemaD (tys rs)) ts k t=g∧appL fit (schemaD (tys rs)) ts k t=ts):=⟨HA.out.1.trans hgc,HA.out.2.trans (done_no hgc (by omega))⟩
  have hpw:p < w1.heap.size:=World.block_lt_of_cell? w1 ⟨p,0,none⟩ hc0
  obtain ⟨adv,cv,rfl,-⟩:=ownsSv hown
  have HO2:=toHA (own_belowA (own_down hown hwz) hb2)
  have HOL:=toHA hown
  have c0:W2.cell? ⟨p,0,none⟩=_:=(hb2.cell (p:=⟨p,0,none⟩) hpw).trans hc0
  have c1:W2.cell? ⟨p,1,none⟩=_:=(hb2.cell (p:=⟨p,1,none⟩) hpw).trans hc1
  have HC01:=toHA (And.intro c0 c1)
  clear hr hown hc0 hc1 c0 c1
  go_wp2_with fail
  rw [← hW2]
  clear hW2
  refine (as_hit ⟨p,0,none⟩ ⟨w1.heap.size,0,none⟩ (.pointer none) W2 HE2.out.typ.2 ht0 hf0).mono ?_
  rintro e w3 ⟨rfl,W3,hb3,rfl⟩
  obtain ⟨w4,hw4⟩:∃ x,x=W3.setCell ⟨w1.heap.size,0,none⟩ (.pointer (some ⟨p,0,none⟩)):=⟨_,rfl⟩
  have hne:∀ g',g' ≠ w1.heap.size→w4.heap[g']?=W3.heap[g']?:=fun g' e=>by rw [hw4]; exact heap_setCell_other W3 ⟨w1.heap.size,0,none⟩ g' _ e
  have HB4:Hid (Below w.heap.size w w4):=by show Below _ _ _; rw [hw4]; exact (HB2.out.trans (hb3.mono HB2.out.size)).setCell (by show w.heap.size≤w1.heap.size; exact HB1.out.size) _
  have d0:w4.cell? ⟨w1.heap.size,0,none⟩=some (.pointer (some ⟨p,0,none⟩)):=by rw [hw4]; exact setS ((hb3.cell (p:=⟨w1.heap.size,0,none⟩) (by show w1.heap.size < _; omega)).trans ht0)
  have hp4:∀ o,w4.cell? ⟨p,o,none⟩=W2.cell? ⟨p,o,none⟩:=fun o=>(World.cell?_of_block (w:=W3) (a:=⟨p,o,none⟩) (hne p (by omega))).trans (hb3.cell (p:=⟨p,o,none⟩) (by show p < _; omega))
  have d1:=(hp4 0).trans HC01.out.1
  have d2:=(hp4 1).trans HC01.out.2
  have HO4:Hid (w4.ownsRow w.heap.size 29 6 (.slice adv ts.length cv) ts.length (rows6 ts)):=own_block (own_belowA HO2.out hb3) fun g' hg'=>hne g' (by have:=(HOL.out.lt g' hg').2; omega)
  have HE4:=toHA (HE.out.below HB4.out)
  rw [← hw4]
  clear hw4 hb3 hne hp4
  go_wp2_with fail
  refine (codeOf_ref a p g _ HE4.out hg2 hg6 d1).mono ?_
  rintro e w5 ⟨rfl,rfl⟩
  go_wp2
  exact bodyPost_ret (v:=.tuple #[.slice adv ts.length cv,.int .i64 (g:Int)]) (by simp [results,Tryz.results8,go_sem]) rfl ⟨_,by rw [HL.out.1],by rw [HL.out.2]; exact HO4.out,HB4.out⟩
end Go.Proofs.YtpnjoniolfmbnaaGreatDoor
namespace Go.Proofs.YtpnjoniolfmbnaaGreatDoor
set_option linter.unusedVariables false
open Go.ChangeShapes Go.WideShapes Go.ChangeAt Go.RowKit Go.Maps
open Pl
theorem appL_len (fit:Tp→Bool) (sok:Bool) (ts:List Tp) (k:Int) (t:Tp):(appL fit sok ts k t).length≤41:=by
 unfold appL
 cases h:rightA fit sok ts with
 | false=>simp
 | true =>
  obtain ⟨-,h2,-⟩:=right_up h
  obtain ⟨hu,hok,hl⟩:=up_of h2
  simp only [if_true]
  unfold doneT
  split
  ·rename_i hz; have:=(next_right hu hok hl hz).2.2; omega
  ·omega
def apL (rs:List TR) (ts:List Tp) (k:Int) (t:Tp):List Tp:=appL (fitR rs) (schemaD (tys rs)) ts k t
def apC (rs:List TR) (ts:List Tp) (k:Int) (t:Tp):Int:=appC (fitR rs) (schemaD (tys rs)) ts k t
theorem fitR_tysA {rs rs':List TR} (h:tys rs'=tys rs):fitR rs'=fitR rs:=by
 funext t; unfold fitR; rw [h]
theorem ap_tys {rs rs':List TR} (h:tys rs'=tys rs) (ts:List Tp) (k:Int) (t:Tp):apL rs' ts k t=apL rs ts k t∧apC rs' ts k t=apC rs ts k t:=by
 unfold apL apC; rw [fitR_tysA h,h]; exact ⟨rfl,rfl⟩
theorem apL_len (rs:List TR) (ts:List Tp) (k:Int) (t:Tp):(apL rs ts k t).length≤41:=appL_len _ _ _ _ _
theorem specApp_ans (ad:Option Addr) (cap:Nat) (rs:List TR) (b cap':Nat) (ts:List Tp) (k:Int) (t:Tp) (w:World) (hlen:rs.length≤1048576) (hs:SlT w ad rs) (hl:∀ r ∈ rs,r.light) (hfr:∀ r ∈ rs,r.fits) (hlt:ts.length≤1048576) (hcp:ts.length≤cap') (hb:b < w.heap.size) (hr:Row6 w b 0 ts) (hf:∀ x ∈ ts,x.fits) (ht:t.fits) :
  Calls Tryz.prog 9 #[.slice ad rs.length cap,.slice (some ⟨b,0,none⟩) ts.length cap',.agg #[.int .i64 k,.string t.a,.string t.b,.string t.r,.string t.c,.string t.d,.string t.s]] w fun e w'=>∃ (ad5:Option Addr) (cap5:Nat),e=.returned (.tuple #[.slice ad5 (apL rs ts k t).length cap5,.int .i64 (apC rs ts k t)])∧Sl w' ad5 (apL rs ts k t)∧Below w.heap.size w w':=by
 refine (specApplied_any (.slice ad rs.length cap) (fitR rs) (schemaD (tys rs)) b 0 cap' ts k t w hlt hcp hb hr hf ht (fun w1 hb=>specSchemaOk_any ad cap rs w1 hlen (hs.below hb) hl hfr)
  (fun t w1 ht hb=>l2Fits_any ad cap rs t.a t.b t.r t.c t.d t.s w1 hlen (hs.below hb) hl ht.1 ht.2.1 ht.2.2.1 ht.2.2.2.1 ht.2.2.2.2.1 ht.2.2.2.2.2)).mono ?_
 rintro e w' ⟨v,rfl,ho,hb⟩
 obtain ⟨ad5,cap5,rfl,hO⟩:=ownL_of ho rfl
 exact ⟨ad5,cap5,rfl,hO.1,hb⟩
theorem implApp_ans (a:Nat→Addr) (ad:Option Addr) (cap:Nat) (rs:List TR) (b cap':Nat) (ts:List Tp) (k:Int) (t:Tp) (w:World) (hE:ErrsD w a) (hlen:rs.length≤1048576) (hs:SlT w ad rs) (hl:∀ r ∈ rs,r.light) (hfr:∀ r ∈ rs,r.fits) (hcpT:∀ r ∈ rs,r.caps) (hlt:ts.length≤1048576) (hcp:ts.length≤cap') (hb:b < w.heap.size) (hr:Row6 w b 0 ts) (hf:∀ x ∈ ts,x.fits) (ht:t.fits) :
  Calls Tryz.prog 8 #[.slice ad rs.length cap,.slice (some ⟨b,0,none⟩) ts.length cap',.agg #[.int .i64 k,.string t.a,.string t.b,.string t.r,.string t.c,.string t.d,.string t.s]] w fun e w'=>∃ (ad8:Option Addr) (cap8:Nat),e=.returned (.tuple #[.slice ad8 (apL rs ts k t).length cap8,.int .i64 (apC rs ts k t)])∧OwnL w.heap.size w' ad8 (apL rs ts k t)∧Below w.heap.size w w':=by
 refine (implApplied_any (fitR rs) a ad cap rs _ cap' ts k t w hE hlen hs hl hfr (fun w1 hb=>strataOf_any ad cap rs w1 hlen (hs.below hb) hl hfr hcpT) (fun h t ht=>fitR_both h ht) hlt (.inr ⟨b,0,rfl,hb,hcp,hr⟩) hf ht).mono ?_
 rintro e w' ⟨v,rfl,ho,hb⟩
 obtain ⟨ad8,cap8,rfl,hO⟩:=ownL_of ho rfl
 exact ⟨ad8,cap8,rfl,hO,hb⟩
end Go.Proofs.YtpnjoniolfmbnaaGreatDoor
namespace Go.Proofs.YtpnjoniolfmbnaaGreatDoor
open Go.ChangeShapes Go.WideShapes Go.ChangeAt Go.RowKit
open Pl
end Go.Proofs.YtpnjoniolfmbnaaGreatDoor
