/- The library's search by halves in a slice of right tuples, as the program calls it. -/
import Derived.Test.YtpnjoniolfmbnaaGreatDoorJ4
import Derived.Test.YtpnjoniolfmbnaaGreatDoorAhead
import Derived.Deep.RegionHeld3
import Derived.Deep.DrawnRows
namespace Go.Proofs.YtpnjoniolfmbnaaGreatDoor
set_option maxRecDepth 100000
set_option linter.unusedVariables false
open Go.ChangeShapes Go.WideShapes Go.ChangeAt Go.RowKit
open Pl
def cmpTp (x t:Tp):Int:=cmpT x.a x.b x.r x.c x.d x.s t.a t.b t.r t.c t.d t.s
theorem cmp_ahead {x t:Tp} (hx:x.ok=true) (ht:t.ok=true):x.ahead t=decide (cmpTp x t < 0):=aheadB_cmp hx ht
theorem cmpTp_any (x t:Tp) (w:World) (hx:x.fits) (ht:t.fits) :
  Calls Tryz.prog 91 #[.agg #[.string x.a,.string x.b,.string x.r,.string x.c,.string x.d,.string x.s],.agg #[.string t.a,.string t.b,.string t.r,.string t.c,.string t.d,.string t.s]] w fun e w'=>e=.returned (.int .i64 (cmpTp x t))∧Below w.heap.size w w':=by
 obtain ⟨f0,f1,f2,f3,f4,f5⟩:=hx
 obtain ⟨g0,g1,g2,g3,g4,g5⟩:=ht
 exact compareTuples_any _ _ _ _ _ _ _ _ _ _ _ _ w f0 f1 f2 f3 f4 f5 g0 g1 g2 g3 g4 g5
theorem keep12o {w W w':World} {n m p:Nat} {x0 x1 x2 x3 x4 x5 y0 y1 y2 y3 y4 y5:Value} (h:W.cell? ⟨n,p,none⟩=some x0∧W.cell? ⟨n,p + 1,none⟩=some x1∧W.cell? ⟨n,p + 2,none⟩=some x2∧W.cell? ⟨n,p + 3,none⟩=some x3∧W.cell? ⟨n,p + 4,none⟩=some x4∧W.cell? ⟨n,p + 5,none⟩=some x5∧W.cell? ⟨m,0,none⟩=some y0∧W.cell? ⟨m,1,none⟩=some y1∧W.cell? ⟨m,2,none⟩=some y2∧W.cell? ⟨m,3,none⟩=some y3∧W.cell? ⟨m,4,none⟩=some y4∧W.cell? ⟨m,5,none⟩=some y5∧n < W.heap.size∧m < W.heap.size∧Below w.heap.size w W) (hb:Below W.heap.size W w'):w'.cell? ⟨n,p,none⟩=some x0∧w'.cell? ⟨n,p + 1,none⟩=some x1∧w'.cell? ⟨n,p + 2,none⟩=some x2∧w'.cell? ⟨n,p + 3,none⟩=some x3∧w'.cell? ⟨n,p + 4,none⟩=some x4∧w'.cell? ⟨n,p + 5,none⟩=some x5∧w'.cell? ⟨m,0,none⟩=some y0∧w'.cell? ⟨m,1,none⟩=some y1∧w'.cell? ⟨m,2,none⟩=some y2∧w'.cell? ⟨m,3,none⟩=some y3∧w'.cell? ⟨m,4,none⟩=some y4∧w'.cell? ⟨m,5,none⟩=some y5∧n < w'.heap.size∧m < w'.heap.size∧Below w.heap.size w w':=by
 obtain ⟨h0,h1,h2,h3,h4,h5,g0,g1,g2,g3,g4,g5,hn,hm,hB⟩:=h
 have hc:∀ o,w'.cell? ⟨n,o,none⟩=W.cell? ⟨n,o,none⟩:=fun o=>hb.cell (p:=⟨n,o,none⟩) hn
 have hd:∀ o,w'.cell? ⟨m,o,none⟩=W.cell? ⟨m,o,none⟩:=fun o=>hb.cell (p:=⟨m,o,none⟩) hm
 exact ⟨(hc _).trans h0,(hc _).trans h1,(hc _).trans h2,(hc _).trans h3,(hc _).trans h4,(hc _).trans h5,(hd _).trans g0,(hd _).trans g1,(hd _).trans g2,(hd _).trans g3,(hd _).trans g4,(hd _).trans g5,Nat.lt_of_lt_of_le hn hb.size,Nat.lt_of_lt_of_le hm hb.size,hB.trans (hb.mono hB.size)⟩
set_option maxHeartbeats 4000000 in
theorem searchT_any (ad:Option Addr) (cap:Nat) (ts:List Tp) (t:Tp) (w:World) (hlen:ts.length≤1048576) (hs:Sl w ad ts) (hf:∀ x ∈ ts,x.fits) (htf:t.fits) (hu:Up ts) (hok:∀ x ∈ ts,x.ok=true) (ht:t.ok=true) :
  Calls Tryz.prog 90 #[.slice ad ts.length cap,.agg #[.string t.a,.string t.b,.string t.r,.string t.c,.string t.d,.string t.s],.func (.func 91) #[] #[]] w fun e w'=>(∃ (n:Nat) (q:Bool),e=.returned (.tuple #[.int .i64 n,.bool q])∧LowT ts t n)∧Below w.heap.size w w':=by
 have HS:=toHC hs
 have HF:=toHC hf
 have HU:=toHC hu
 have HOK:=toHC hok
 clear hs hf hu hok
 obtain ⟨W,hW⟩:∃ W,W=w.alloc (.cells #[.string t.a,.string t.b,.string t.r,.string t.c,.string t.d,.string t.s] 29):=⟨_,rfl⟩
 have HB0:Hid (Below w.heap.size w W):=by show Below _ _ _; rw [hW]; exact (Below.refl w.heap.size w).alloc (Nat.le_refl _) _
 have HX0:Hid (Six W w.heap.size t):=by show Six _ _ _; rw [hW]; exact six_new w t _
 go_enter Tryz.func90,Tryz.ntmps90
 go_wp2_with fail
 rw [← hW]
 clear hW
 go_loopw [9,10] (fun a b wr=>∃ lo hi:Nat,a=.int .i64 lo∧b=.int .i64 hi∧lo≤hi∧hi≤ts.length∧Hid (Below W.heap.size W wr)∧Hid ((∀ i (h:i < ts.length),i < lo→ts[i].ahead t=true)∧∀ i (h:i < ts.length),hi≤i→ts[i].ahead t=false)) (fun a b _=>(intOf b).toNat - (intOf a).toNat)
 case atStart=>exact ⟨0,ts.length,rfl,rfl,Nat.zero_le _,Nat.le_refl _,Below.refl _ _,fun i h hl=>absurd hl (Nat.not_lt_zero _),fun i h hl=>by omega⟩
 case round =>
  obtain ⟨lo,hi,rfl,rfl,hlh,hin,HB,HI⟩:=hrel
  have HBW:=toHC (HB0.out.trans (HB.out.mono HB0.out.size))
  obtain ⟨a0,a1,a2,a3,a4,a5,al⟩:=HX0.out.below HB.out
  by_cases hlt:lo < hi
  ·have hm:(lo + hi) / 2 < ts.length:=by omega
   rcases HS.out.below HBW.out with hnil | ⟨b,off,rfl,hb,hr⟩
   ·rw [hnil] at hm; simp at hm
   obtain ⟨m,hmm⟩:∃ m,m=(lo + hi) / 2:=⟨_,rfl⟩
   rw [← hmm] at hm
   obtain ⟨t0,t1,t2,t3,t4,t5⟩:=hr m hm
   have HC:=fun W=>toHC (cmpTp_any ts[m] t W (HF.out _ (List.getElem_mem hm)) htf)
   have HA:=toHC (cmp_ahead (HOK.out _ (List.getElem_mem hm)) ht)
   have hm0:(0:Int)≤(m:Int):=by omega
   have hm1:(m:Int) < (ts.length:Int):=by omega
   have hmi:((lo:Int) + (hi:Int)) / 2=(m:Int):=by omega
   have hlm:lo≤m∧m < hi:=by omega
   clear hr hmm
   have H0:Hid ((fun w'=>w'.cell? ⟨b,off + m * 6,none⟩=some (.string ts[m].a)∧w'.cell? ⟨b,off + m * 6 + 1,none⟩=some (.string ts[m].b)∧w'.cell? ⟨b,off + m * 6 + 2,none⟩=some (.string ts[m].r)∧w'.cell? ⟨b,off + m * 6 + 3,none⟩=some (.string ts[m].c)∧w'.cell? ⟨b,off + m * 6 + 4,none⟩=some (.string ts[m].d)∧w'.cell? ⟨b,off + m * 6 + 5,none⟩=some (.string ts[m].s)∧w'.cell? ⟨w.heap.size,0,none⟩=some (.string t.a)∧w'.cell? ⟨w.heap.size,1,none⟩=some (.string t.b)∧w'.cell? ⟨w.heap.size,2,none⟩=some (.string t.r)∧w'.cell? ⟨w.heap.size,3,none⟩=some (.string t.c)∧w'.cell? ⟨w.heap.size,4,none⟩=some (.string t.d)∧w'.cell? ⟨w.heap.size,5,none⟩=some (.string t.s)∧b < w'.heap.size∧w.heap.size < w'.heap.size∧Below W.heap.size W w') wr.drew):=⟨t0,t1,t2,t3,t4,t5,a0,a1,a2,a3,a4,a5,hb,al,HB.out.drew⟩
   clear t0 t1 t2 t3 t4 t5 a0 a1 a2 a3 a4 a5 al
   by_cases hc:cmpTp ts[m] t < 0
   ·go_wp2_with fail
    go_region_held3 (fun w'=>w'.cell? ⟨b,off + m * 6,none⟩=some (.string ts[m].a)∧w'.cell? ⟨b,off + m * 6 + 1,none⟩=some (.string ts[m].b)∧w'.cell? ⟨b,off + m * 6 + 2,none⟩=some (.string ts[m].r)∧w'.cell? ⟨b,off + m * 6 + 3,none⟩=some (.string ts[m].c)∧w'.cell? ⟨b,off + m * 6 + 4,none⟩=some (.string ts[m].d)∧w'.cell? ⟨b,off + m * 6 + 5,none⟩=some (.string ts[m].s)∧w'.cell? ⟨w.heap.size,0,none⟩=some (.string t.a)∧w'.cell? ⟨w.heap.size,1,none⟩=some (.string t.b)∧w'.cell? ⟨w.heap.size,2,none⟩=some (.string t.r)∧w'.cell? ⟨w.heap.size,3,none⟩=some (.string t.c)∧w'.cell? ⟨w.heap.size,4,none⟩=some (.string t.d)∧w'.cell? ⟨w.heap.size,5,none⟩=some (.string t.s)∧b < w'.heap.size∧w.heap.size < w'.heap.size∧Below W.heap.size W w')
     (first | assumption | exact keep12o (by assumption) hbx | exact H0.out)
     (first | (go_at_call 91; refine (HC _).out.mono ?_; rintro e w' ⟨rfl,hbx⟩))
    rename_i hH
    have HBN:=toHC hH.2.2.2.2.2.2.2.2.2.2.2.2.2.2
    have HIN:Hid ((∀ i (h:i < ts.length),i < m + 1→ts[i].ahead t=true)∧∀ i (h:i < ts.length),hi≤i→ts[i].ahead t=false):=⟨low_step HU.out hm (by rw [HA.out]; exact decide_eq_true hc),HI.out.2⟩
    clear hH
    go_wp2
    go_roundw
    case rel=>exact ⟨m + 1,hi,by go_num,rfl,by omega,hin,HBN,HIN⟩
    case measure=>simp [intOf]; omega
   ·go_wp2_with fail
    go_region_held3 (fun w'=>w'.cell? ⟨b,off + m * 6,none⟩=some (.string ts[m].a)∧w'.cell? ⟨b,off + m * 6 + 1,none⟩=some (.string ts[m].b)∧w'.cell? ⟨b,off + m * 6 + 2,none⟩=some (.string ts[m].r)∧w'.cell? ⟨b,off + m * 6 + 3,none⟩=some (.string ts[m].c)∧w'.cell? ⟨b,off + m * 6 + 4,none⟩=some (.string ts[m].d)∧w'.cell? ⟨b,off + m * 6 + 5,none⟩=some (.string ts[m].s)∧w'.cell? ⟨w.heap.size,0,none⟩=some (.string t.a)∧w'.cell? ⟨w.heap.size,1,none⟩=some (.string t.b)∧w'.cell? ⟨w.heap.size,2,none⟩=some (.string t.r)∧w'.cell? ⟨w.heap.size,3,none⟩=some (.string t.c)∧w'.cell? ⟨w.heap.size,4,none⟩=some (.string t.d)∧w'.cell? ⟨w.heap.size,5,none⟩=some (.string t.s)∧b < w'.heap.size∧w.heap.size < w'.heap.size∧Below W.heap.size W w')
     (first | assumption | exact keep12o (by assumption) hbx | exact H0.out)
     (first | (go_at_call 91; refine (HC _).out.mono ?_; rintro e w' ⟨rfl,hbx⟩))
    rename_i hH
    have HBN:=toHC hH.2.2.2.2.2.2.2.2.2.2.2.2.2.2
    have HIN:Hid ((∀ i (h:i < ts.length),i < lo→ts[i].ahead t=true)∧∀ i (h:i < ts.length),m≤i→ts[i].ahead t=false):=⟨HI.out.1,high_step HU.out hm (by rw [HA.out]; exact decide_eq_false (by omega))⟩
    clear hH
    go_wp2
    go_roundw
    case rel=>exact ⟨lo,m,rfl,by go_num,by omega,by omega,HBN,HIN⟩
    case measure=>simp [intOf]; omega
  ·obtain rfl:hi=lo:=by omega
   have HLOW:Hid (LowT ts t hi):=⟨hin,HI.out.1,HI.out.2⟩
   by_cases hlt2:hi < ts.length
   ·rcases HS.out.below HBW.out with hnil | ⟨b,off,rfl,hb,hr⟩
    ·rw [hnil] at hlt2; simp at hlt2
    obtain ⟨t0,t1,t2,t3,t4,t5⟩:=hr hi hlt2
    have HC:=fun W=>toHC (cmpTp_any ts[hi] t W (HF.out _ (List.getElem_mem hlt2)) htf)
    have hm0:(0:Int)≤(hi:Int):=by omega
    have hm1:(hi:Int) < (ts.length:Int):=by omega
    have hd:decide ((hi:Int) < (ts.length:Int))=true:=decide_eq_true hm1
    have hdh:decide ((hi:Int) < (hi:Int))=false:=by simp
    clear hr
    have H0:Hid ((fun w'=>w'.cell? ⟨b,off + hi * 6,none⟩=some (.string ts[hi].a)∧w'.cell? ⟨b,off + hi * 6 + 1,none⟩=some (.string ts[hi].b)∧w'.cell? ⟨b,off + hi * 6 + 2,none⟩=some (.string ts[hi].r)∧w'.cell? ⟨b,off + hi * 6 + 3,none⟩=some (.string ts[hi].c)∧w'.cell? ⟨b,off + hi * 6 + 4,none⟩=some (.string ts[hi].d)∧w'.cell? ⟨b,off + hi * 6 + 5,none⟩=some (.string ts[hi].s)∧w'.cell? ⟨w.heap.size,0,none⟩=some (.string t.a)∧w'.cell? ⟨w.heap.size,1,none⟩=some (.string t.b)∧w'.cell? ⟨w.heap.size,2,none⟩=some (.string t.r)∧w'.cell? ⟨w.heap.size,3,none⟩=some (.string t.c)∧w'.cell? ⟨w.heap.size,4,none⟩=some (.string t.d)∧w'.cell? ⟨w.heap.size,5,none⟩=some (.string t.s)∧b < w'.heap.size∧w.heap.size < w'.heap.size∧Below W.heap.size W w') wr.drew):=⟨t0,t1,t2,t3,t4,t5,a0,a1,a2,a3,a4,a5,hb,al,HB.out.drew⟩
    clear t0 t1 t2 t3 t4 t5 a0 a1 a2 a3 a4 a5 al
    go_wp2_with fail
    go_region_held3 (fun w'=>w'.cell? ⟨b,off + hi * 6,none⟩=some (.string ts[hi].a)∧w'.cell? ⟨b,off + hi * 6 + 1,none⟩=some (.string ts[hi].b)∧w'.cell? ⟨b,off + hi * 6 + 2,none⟩=some (.string ts[hi].r)∧w'.cell? ⟨b,off + hi * 6 + 3,none⟩=some (.string ts[hi].c)∧w'.cell? ⟨b,off + hi * 6 + 4,none⟩=some (.string ts[hi].d)∧w'.cell? ⟨b,off + hi * 6 + 5,none⟩=some (.string ts[hi].s)∧w'.cell? ⟨w.heap.size,0,none⟩=some (.string t.a)∧w'.cell? ⟨w.heap.size,1,none⟩=some (.string t.b)∧w'.cell? ⟨w.heap.size,2,none⟩=some (.string t.r)∧w'.cell? ⟨w.heap.size,3,none⟩=some (.string t.c)∧w'.cell? ⟨w.heap.size,4,none⟩=some (.string t.d)∧w'.cell? ⟨w.heap.size,5,none⟩=some (.string t.s)∧b < w'.heap.size∧w.heap.size < w'.heap.size∧Below W.heap.size W w')
     (first | assumption | exact keep12o (by assumption) hbx | exact H0.out)
     (first | (go_at_call 91; refine (HC _).out.mono ?_; rintro e w' ⟨rfl,hbx⟩))
    rename_i hH
    have HBN:=toHC hH.2.2.2.2.2.2.2.2.2.2.2.2.2.2
    go_wp2
    exact bodyPost_ret (v:=.tuple #[.int .i64 hi,.bool (cmpTp ts[hi] t == 0)]) (by simp [results,Tryz.results90,go_sem]) rfl ⟨⟨hi,_,rfl,HLOW.out⟩,HB0.out.trans (HBN.out.mono HB0.out.size)⟩
   ·have hd:decide ((hi:Int) < (ts.length:Int))=false:=by simp; omega
    have hdh:decide ((hi:Int) < (hi:Int))=false:=by simp
    go_wp2_with fail
    go_quiet (fail)
    go_wp2
    exact bodyPost_ret (v:=.tuple #[.int .i64 hi,.bool false]) (by simp [results,Tryz.results90,go_sem]) rfl ⟨⟨hi,_,rfl,HLOW.out⟩,HB0.out.trans (below_drewN (HB.out.mono HB0.out.size) _)⟩
end Go.Proofs.YtpnjoniolfmbnaaGreatDoor
namespace Go.Proofs.YtpnjoniolfmbnaaGreatDoor
open Go.ChangeShapes Go.WideShapes Go.ChangeAt Go.RowKit Go.Maps
open Pl
theorem HID_drop {p:Prop} (h:p):Hid p:=h
set_option maxRecDepth 8000 in
set_option maxHeartbeats 4000000 in
theorem l1Drop_own (ad:Option Addr) (cap:Nat) (ts:List Tp) (t:Tp) (w:World) (hlen:ts.length≤1048576) (hs:Sl w ad ts) :
  Calls Tryz.prog 72 #[.slice ad ts.length cap,.agg #[.string t.a,.string t.b,.string t.r,.string t.c,.string t.d,.string t.s]] w fun e w'=>∃ (g c:Nat),e=.returned (.slice (some ⟨g,0,none⟩) (dropT ts t).length c)∧w'.ownsRow (w.heap.size + 1) 29 6 (.slice (some ⟨g,0,none⟩) (dropT ts t).length c) (dropT ts t).length (rows6 (dropT ts t))∧Below w.heap.size w w':=by
 obtain ⟨iT,hiT,zT0,zT1,zT2⟩:=info_parts (P:=Tryz.prog) (e:=29) (z:=.agg #[.string ⟨#[]⟩,.string ⟨#[]⟩,.string ⟨#[]⟩,.string ⟨#[]⟩,.string ⟨#[]⟩,.string ⟨#[]⟩]) (size:=6) (bytes:=96) (by kernel_rfl)
 have HIT:Hid (Tryz.prog.info? 29=some iT∧iT.zero=some (.agg #[.string ⟨#[]⟩,.string ⟨#[]⟩,.string ⟨#[]⟩,.string ⟨#[]⟩,.string ⟨#[]⟩,.string ⟨#[]⟩])∧iT.size=6∧iT.bytes=96):=⟨hiT,zT0,zT1,zT2⟩
 have HS:Hid (Sl w ad ts):=hs
 clear hs hiT zT0 zT1 zT2
 obtain ⟨W0,hW0⟩:∃ W0,W0=w.alloc (.cells #[.string t.a,.string t.b,.string t.r,.string t.c,.string t.d,.string t.s] 29):=⟨_,rfl⟩
 have HB0:Hid (Below w.heap.size w W0):=by show Below _ _ _; rw [hW0]; exact (Below.refl _ _).alloc (Nat.le_refl _) _
 have HX0:Hid (W0.cell? ⟨w.heap.size,0,none⟩=some (.string t.a)∧W0.cell? ⟨w.heap.size,1,none⟩=some (.string t.b)∧W0.cell? ⟨w.heap.size,2,none⟩=some (.string t.r)∧W0.cell? ⟨w.heap.size,3,none⟩=some (.string t.c)∧W0.cell? ⟨w.heap.size,4,none⟩=some (.string t.d)∧W0.cell? ⟨w.heap.size,5,none⟩=some (.string t.s)∧w.heap.size < W0.heap.size):=by show _∧_; rw [hW0]; refine ⟨?_,?_,?_,?_,?_,?_,?_⟩ <;> simp
 have HS0:Hid (W0.heap.size=w.heap.size + 1):=by show _=_; rw [hW0]; simp
 have HLIT:Hid ((W0.alloc (.cells #[] 29)).ownsRow (w.heap.size + 1) 29 6 (.slice (some ⟨w.heap.size + 1,0,none⟩) 0 0) 0 (rows6 (dropT (ts.take 0) t))):=by
  show World.ownsRow _ _ _ _ _ _ _
  rw [← HS0.out]
  exact World.ownsRow_lit W0 #[] 0 (Nat.le_refl _) (by unfold maxLen; omega) (by simp)
 have HB1:Hid (Below W0.heap.size W0 (W0.alloc (.cells #[] 29))):=(Below.refl _ _).alloc (Nat.le_refl _) _
 go_enter Tryz.func72,Tryz.ntmps72
 go_wp2
 rw [← hW0]
 clear hW0
 go_loopw [5,6] (fun v i wr=>∃ k:Nat,k≤ts.length∧i=.int .i64 k∧Hid (wr.ownsRow (w.heap.size + 1) 29 6 v (dropT (ts.take k) t).length (rows6 (dropT (ts.take k) t)))∧Hid (Below w.heap.size w wr)∧Hid (wr.cell? ⟨w.heap.size,0,none⟩=some (.string t.a)∧wr.cell? ⟨w.heap.size,1,none⟩=some (.string t.b)∧wr.cell? ⟨w.heap.size,2,none⟩=some (.string t.r)∧wr.cell? ⟨w.heap.size,3,none⟩=some (.string t.c)∧wr.cell? ⟨w.heap.size,4,none⟩=some (.string t.d)∧wr.cell? ⟨w.heap.size,5,none⟩=some (.string t.s)∧w.heap.size < wr.heap.size)∧Hid (∃ g c m,v=.slice (some ⟨g,0,none⟩) m c)) (fun _ i _=>ts.length - (intOf i).toNat)
 case atStart=>exact ⟨0,Nat.zero_le _,rfl,HLIT,HB0.out.trans (HB1.out.mono HB0.out.size),⟨mK HB1.out HX0.out.2.2.2.2.2.2 HX0.out.1,mK HB1.out HX0.out.2.2.2.2.2.2 HX0.out.2.1,mK HB1.out HX0.out.2.2.2.2.2.2 HX0.out.2.2.1,mK HB1.out HX0.out.2.2.2.2.2.2 HX0.out.2.2.2.1,mK HB1.out HX0.out.2.2.2.2.2.2 HX0.out.2.2.2.2.1,mK HB1.out HX0.out.2.2.2.2.2.2 HX0.out.2.2.2.2.2.1,Nat.lt_of_lt_of_le HX0.out.2.2.2.2.2.2 HB1.out.size⟩,⟨_,_,_,rfl⟩⟩
 case round =>
  clear HLIT HB1
  obtain ⟨k,hk,rfl,HOW,HBW,HXB,HSV⟩:=hrel
  by_cases hlt:k < ts.length
  ·rcases HS.out.below HBW.out with hnil | ⟨b,off,rfl,hb,hr⟩
   ·rw [hnil] at hlt; simp at hlt
   obtain ⟨t0,t1,t2,t3,t4,t5⟩:=hr k hlt
   obtain ⟨x0,x1,x2,x3,x4,x5,xl⟩:=HXB.out
   have hk1:(0:Int)≤(k:Int):=by omega
   have hk2:(k:Int) < (ts.length:Int):=by omega
   have hdl:=dropT_len ts t k
   have HDT:=dropT_take (t:=t) hlt
   clear hr
   cases hq:tpEq ts[k] t with
   | true =>
    have heq:=tp_neq ts[k] t (v:=false) (by rw [hq]; rfl)
    have HE:Hid (dropT (ts.take (k + 1)) t=dropT (ts.take k) t):=by show _=_; rw [HDT,hq]; simp
    clear hq HDT
    go_wp2_with fail
    go_region_held3 (fun w'=>w'.cell? ⟨b,off + k * 6,none⟩=some (.string ts[k].a)∧w'.cell? ⟨b,off + k * 6 + 1,none⟩=some (.string ts[k].b)∧w'.cell? ⟨b,off + k * 6 + 2,none⟩=some (.string ts[k].r)∧w'.cell? ⟨b,off + k * 6 + 3,none⟩=some (.string ts[k].c)∧w'.cell? ⟨b,off + k * 6 + 4,none⟩=some (.string ts[k].d)∧w'.cell? ⟨b,off + k * 6 + 5,none⟩=some (.string ts[k].s)∧w'.cell? ⟨w.heap.size,0,none⟩=some (.string t.a)∧w'.cell? ⟨w.heap.size,1,none⟩=some (.string t.b)∧w'.cell? ⟨w.heap.size,2,none⟩=some (.string t.r)∧w'.cell? ⟨w.heap.size,3,none⟩=some (.string t.c)∧w'.cell? ⟨w.heap.size,4,none⟩=some (.string t.d)∧w'.cell? ⟨w.heap.size,5,none⟩=some (.string t.s)∧Below wr.heap.size wr w') (first | assumption | exact ⟨t0,t1,t2,t3,t4,t5,x0,x1,x2,x3,x4,x5,(Below.refl _ _).drew⟩) (fail)
    clear t0 t1 t2 t3 t4 t5 heq
    have HO2:Hid (wr.drew.ownsRow (w.heap.size + 1) 29 6 u5 (dropT (ts.take (k + 1)) t).length (rows6 (dropT (ts.take (k + 1)) t))):=by
     show World.ownsRow _ _ _ _ _ _ _
     rw [HE.out]; exact HOW.out.drew
    have HB2:Hid (Below w.heap.size w wr.drew):=HBW.out.drew
    have HX2:Hid (wr.drew.cell? ⟨w.heap.size,0,none⟩=some (.string t.a)∧wr.drew.cell? ⟨w.heap.size,1,none⟩=some (.string t.b)∧wr.drew.cell? ⟨w.heap.size,2,none⟩=some (.string t.r)∧wr.drew.cell? ⟨w.heap.size,3,none⟩=some (.string t.c)∧wr.drew.cell? ⟨w.heap.size,4,none⟩=some (.string t.d)∧wr.drew.cell? ⟨w.heap.size,5,none⟩=some (.string t.s)∧w.heap.size < wr.drew.heap.size):=HXB.out
    rename_i hH
    clear hH x0 x1 x2 x3 x4 x5
    go_wp2
    go_roundw
    case rel=>exact ⟨k + 1,by omega,by go_num,HO2,HB2,HX2,HSV⟩
    case measure=>first | (simp [intOf]; done) | (simp [intOf]; omega)
   | false =>
    have heq:=tp_neq ts[k] t (v:=true) (by rw [hq]; rfl)
    have HE:Hid (dropT (ts.take (k + 1)) t=dropT (ts.take k) t ++ [ts[k]]):=by show _=_; rw [HDT,hq]; simp
    clear hq HDT
    go_wp2_with fail
    go_region_held3 (fun w'=>w'.cell? ⟨b,off + k * 6,none⟩=some (.string ts[k].a)∧w'.cell? ⟨b,off + k * 6 + 1,none⟩=some (.string ts[k].b)∧w'.cell? ⟨b,off + k * 6 + 2,none⟩=some (.string ts[k].r)∧w'.cell? ⟨b,off + k * 6 + 3,none⟩=some (.string ts[k].c)∧w'.cell? ⟨b,off + k * 6 + 4,none⟩=some (.string ts[k].d)∧w'.cell? ⟨b,off + k * 6 + 5,none⟩=some (.string ts[k].s)∧w'.cell? ⟨w.heap.size,0,none⟩=some (.string t.a)∧w'.cell? ⟨w.heap.size,1,none⟩=some (.string t.b)∧w'.cell? ⟨w.heap.size,2,none⟩=some (.string t.r)∧w'.cell? ⟨w.heap.size,3,none⟩=some (.string t.c)∧w'.cell? ⟨w.heap.size,4,none⟩=some (.string t.d)∧w'.cell? ⟨w.heap.size,5,none⟩=some (.string t.s)∧Below wr.heap.size wr w') (first | assumption | exact ⟨t0,t1,t2,t3,t4,t5,x0,x1,x2,x3,x4,x5,(Below.refl _ _).drew⟩) (fail)
    clear heq x0 x1 x2 x3 x4 x5
    rename_i hH
    clear hH
    obtain ⟨wd,hwd⟩:∃ wd,wd=wr.drew:=⟨_,rfl⟩
    have HOD:Hid (wd.ownsRow (w.heap.size + 1) 29 6 u5 (dropT (ts.take k) t).length (rows6 (dropT (ts.take k) t))):=by rw [hwd]; exact HOW.out.drew
    have HBD:Hid (Below w.heap.size w wd):=by rw [hwd]; exact HBW.out.drew
    have HXD:Hid (wd.cell? ⟨w.heap.size,0,none⟩=some (.string t.a)∧wd.cell? ⟨w.heap.size,1,none⟩=some (.string t.b)∧wd.cell? ⟨w.heap.size,2,none⟩=some (.string t.r)∧wd.cell? ⟨w.heap.size,3,none⟩=some (.string t.c)∧wd.cell? ⟨w.heap.size,4,none⟩=some (.string t.d)∧wd.cell? ⟨w.heap.size,5,none⟩=some (.string t.s)∧w.heap.size < wd.heap.size):=by rw [hwd]; exact HXB.out
    have HTD:Hid (wd.cell? ⟨b,off + k * 6,none⟩=some (.string ts[k].a)∧wd.cell? ⟨b,off + k * 6 + 1,none⟩=some (.string ts[k].b)∧wd.cell? ⟨b,off + k * 6 + 2,none⟩=some (.string ts[k].r)∧wd.cell? ⟨b,off + k * 6 + 3,none⟩=some (.string ts[k].c)∧wd.cell? ⟨b,off + k * 6 + 4,none⟩=some (.string ts[k].d)∧wd.cell? ⟨b,off + k * 6 + 5,none⟩=some (.string ts[k].s)):=by rw [hwd]; exact ⟨t0,t1,t2,t3,t4,t5⟩
    rw [← hwd]
    clear hwd t0 t1 t2 t3 t4 t5
    obtain ⟨t0,t1,t2,t3,t4,t5⟩:=HTD.out
    obtain ⟨W6,hW6⟩:∃ W6,W6=wd.alloc (.cells #[.string ts[k].a,.string ts[k].b,.string ts[k].r,.string ts[k].c,.string ts[k].d,.string ts[k].s] 29):=⟨_,rfl⟩
    have HO6:Hid (W6.ownsRow (w.heap.size + 1) 29 6 u5 (dropT (ts.take k) t).length (rows6 (dropT (ts.take k) t))):=by rw [hW6]; exact HOD.out.alloc _
    have HNW:Hid (∀ j u,ts[k].row[j]?=some u→W6.cell? ((⟨wd.heap.size,0,none⟩:Addr).add j)=some u):=by rw [hW6]; exact row6_news wd ts[k]
    have HB6:Hid (Below wd.heap.size wd W6):=by rw [hW6]; exact (Below.refl _ _).alloc (Nat.le_refl _) _
    have HBD6:Hid (Below w.heap.size w W6):=HBD.out.trans (HB6.out.mono HBD.out.size)
    go_wp2_with (at_builtin; rw [← hW6]; clear hW6; refine wpList_append_own_at _ rfl _ _ 25 rfl (w.heap.size + 1) 29 iT (.agg #[.string ⟨#[]⟩,.string ⟨#[]⟩,.string ⟨#[]⟩,.string ⟨#[]⟩,.string ⟨#[]⟩,.string ⟨#[]⟩]) 6 96 Tryz.underlying25 HIT.out.1 HIT.out.2.1 HIT.out.2.2.1 HIT.out.2.2.2 rfl (by decide) u5 _ (rows6 (dropT (ts.take k) t)) rfl HO6.out ⟨wd.heap.size,0,none⟩ 1 1 ts[k].row rfl rfl HNW.out (row6_one _) (by unfold maxLen; omega) (by omega) (Nat.le_trans (Nat.succ_le_of_lt HXD.out.2.2.2.2.2.2) HB6.out.size) ?_)
    intro v7 w7 hown7 hgr7 _ _
    have HSV7:Hid (∃ g c m,v7=.slice (some ⟨g,0,none⟩) m c):=by
     rcases hown7.2 with ⟨-,h0⟩ | ⟨g,cp,cur,e,-⟩
     ·omega
     ·exact ⟨g,cp,_,e⟩
    have hne:some w.heap.size ≠ u5.ownBlock:=fun e=>by have:=(HOD.out.lt w.heap.size e.symm).1; omega
    have HB7:Hid (Below w.heap.size w w7):=HBD6.out.grown hgr7 HBD6.out.size (fun g hg=>by have:=(HOD.out.lt g hg).1; omega)
    have HO7:Hid (w7.ownsRow (w.heap.size + 1) 29 6 v7 (dropT (ts.take (k + 1)) t).length (rows6 (dropT (ts.take (k + 1)) t))):=by
     show World.ownsRow _ _ _ _ _ _ _
     rw [HE.out,rows6_snoc,List.length_append]; exact hown7
    have HX7:Hid (w7.cell? ⟨w.heap.size,0,none⟩=some (.string t.a)∧w7.cell? ⟨w.heap.size,1,none⟩=some (.string t.b)∧w7.cell? ⟨w.heap.size,2,none⟩=some (.string t.r)∧w7.cell? ⟨w.heap.size,3,none⟩=some (.string t.c)∧w7.cell? ⟨w.heap.size,4,none⟩=some (.string t.d)∧w7.cell? ⟨w.heap.size,5,none⟩=some (.string t.s)∧w.heap.size < w7.heap.size):=⟨hgr7.cell (mK HB6.out HXD.out.2.2.2.2.2.2 HXD.out.1) hne,hgr7.cell (mK HB6.out HXD.out.2.2.2.2.2.2 HXD.out.2.1) hne,hgr7.cell (mK HB6.out HXD.out.2.2.2.2.2.2 HXD.out.2.2.1) hne,hgr7.cell (mK HB6.out HXD.out.2.2.2.2.2.2 HXD.out.2.2.2.1) hne,hgr7.cell (mK HB6.out HXD.out.2.2.2.2.2.2 HXD.out.2.2.2.2.1) hne,hgr7.cell (mK HB6.out HXD.out.2.2.2.2.2.2 HXD.out.2.2.2.2.2.1) hne,Nat.lt_of_lt_of_le HXD.out.2.2.2.2.2.2 (Nat.le_trans HB6.out.size hgr7.size)⟩
    clear hown7 hgr7 t0 t1 t2 t3 t4 t5
    go_wp2
    go_roundw
    case rel=>exact ⟨k + 1,by omega,by go_num,HO7,HB7,HX7,HSV7⟩
    case measure=>first | (simp [intOf]; done) | (simp [intOf]; omega)
  ·obtain rfl:k=ts.length:=by omega
   have HE:Hid (ts.take ts.length=ts):=by show _=_; rw [List.take_length]
   have hown:=HOW.out
   rw [HE.out] at hown
   obtain ⟨g,c,m,hv⟩:=HSV.out
   obtain ⟨ad',cap',hv2,-,-⟩:=ownsT hown rfl
   rw [hv] at hv2
   injection hv2 with _ em _
   subst em
   subst hv
   have HOF:=HID_drop hown
   clear hown
   go_wp2
   go_ret
   exact ⟨g,c,rfl,HOF.out,HBW.out⟩
end Go.Proofs.YtpnjoniolfmbnaaGreatDoor
