/- Contract of the document's function that puts a tuple into its place. -/
import Derived.Test.YtpnjoniolfmbnaaGreatDoorJ4
namespace Go.Proofs.YtpnjoniolfmbnaaGreatDoor
open Go.ChangeShapes Go.WideShapes Go.ChangeAt Go.RowKit Go.Maps
open Pl
set_option maxRecDepth 8000 in
set_option maxHeartbeats 4000000 in
theorem l1Put_own (b off cap:Nat) (ts:List Tp) (t:Tp) (w:World) (hlen:ts.length≤1000) (hcap:ts.length≤cap) (hs:Row6 w b off ts) (hb:b < w.heap.size) (hf:∀ x ∈ ts,x.fits) (ht:t.fits) :
  Calls Tryz.prog 73 #[.slice (some ⟨b,off,none⟩) ts.length cap,.agg #[.string t.a,.string t.b,.string t.r,.string t.c,.string t.d,.string t.s]] w fun e w'=>∃ v:Value,e=.returned v∧w'.ownsRow w.heap.size 29 6 v (putT ts t).length (rows6 (putT ts t))∧Below w.heap.size w w':=by
 obtain ⟨iT,hiT,zT0,zT1,zT2⟩:=info_parts (P:=Tryz.prog) (e:=29) (z:=.agg #[.string ⟨#[]⟩,.string ⟨#[]⟩,.string ⟨#[]⟩,.string ⟨#[]⟩,.string ⟨#[]⟩,.string ⟨#[]⟩]) (size:=6) (bytes:=96) (by kernel_rfl)
 have HIT:Hid (Tryz.prog.info? 29=some iT∧iT.zero=some (.agg #[.string ⟨#[]⟩,.string ⟨#[]⟩,.string ⟨#[]⟩,.string ⟨#[]⟩,.string ⟨#[]⟩,.string ⟨#[]⟩])∧iT.size=6∧iT.bytes=96):=⟨hiT,zT0,zT1,zT2⟩
 have HS:Hid (Row6 w b off ts):=hs
 have HF:Hid (∀ x ∈ ts,x.fits):=hf
 have HT:Hid t.fits:=ht
 clear hs hf ht hiT zT0 zT1 zT2
 obtain ⟨W0,hW0⟩:∃ W0,W0=w.alloc (.cells #[.string t.a,.string t.b,.string t.r,.string t.c,.string t.d,.string t.s] 29):=⟨_,rfl⟩
 have HB0:Hid (Below w.heap.size w W0):=by show Below _ _ _; rw [hW0]; exact (Below.refl _ _).alloc (Nat.le_refl _) _
 have HX0:Hid (Six W0 w.heap.size t):=by show Six _ _ _; rw [hW0]; exact six_new w t _
 go_enter Tryz.func73,Tryz.ntmps73
 go_wp2
 rw [← hW0]
 clear hW0
 go_loopw [5] (fun i wr=>∃ k:Nat,k≤ts.length∧i=.int .i64 k∧Hid (∀ i (h:i < ts.length),i < k→ts[i].ahead t=true)∧Hid (Below w.heap.size w wr)∧Hid (Six wr w.heap.size t)) (fun i _=>ts.length - (intOf i).toNat)
 case atStart=>exact ⟨0,Nat.zero_le _,rfl,fun i h hi=>by omega,HB0,HX0⟩
 case round =>
  clear HX0 HB0
  obtain ⟨k,hk,rfl,HU,HB,HX⟩:=hrel
  have hk1:(0:Int)≤(k:Int):=by omega
  by_cases hlt:k < ts.length
  ·have hk2:(k:Int) < (ts.length:Int):=by omega
   obtain ⟨t0,t1,t2,t3,t4,t5⟩:=(HS.out.below HB.out hb) k hlt
   obtain ⟨x0,x1,x2,x3,x4,x5,xl⟩:=HX.out
   have hbr:b < wr.heap.size:=Nat.lt_of_lt_of_le hb HB.out.size
   obtain ⟨f0,f1,f2,f3,f4,f5⟩:=HF.out _ (List.getElem_mem hlt)
   obtain ⟨e0,e1,e2,e3,e4,e5⟩:=HT.out
   have HA:Hid (∀ W,Calls Tryz.prog 103 #[.agg #[.string ts[k].a,.string ts[k].b,.string ts[k].r,.string ts[k].c,.string ts[k].d,.string ts[k].s],.agg #[.string t.a,.string t.b,.string t.r,.string t.c,.string t.d,.string t.s]] W fun e w'=>e=.returned (.bool (ts[k].ahead t))∧Below W.heap.size W w'):=fun W=>specAhead_any _ _ _ _ _ _ _ _ _ _ _ _ W f0 f1 f2 f3 f4 f5 e0 e1 e2 e3 e4 e5
   clear f0 f1 f2 f3 f4 f5 e0 e1 e2 e3 e4 e5
   have H0:wr.drew.cell? ⟨b,off + k * 6,none⟩=some (.string ts[k].a)∧wr.drew.cell? ⟨b,off + k * 6 + 1,none⟩=some (.string ts[k].b)∧wr.drew.cell? ⟨b,off + k * 6 + 2,none⟩=some (.string ts[k].r)∧wr.drew.cell? ⟨b,off + k * 6 + 3,none⟩=some (.string ts[k].c)∧wr.drew.cell? ⟨b,off + k * 6 + 4,none⟩=some (.string ts[k].d)∧wr.drew.cell? ⟨b,off + k * 6 + 5,none⟩=some (.string ts[k].s)∧wr.drew.cell? ⟨w.heap.size,0,none⟩=some (.string t.a)∧wr.drew.cell? ⟨w.heap.size,1,none⟩=some (.string t.b)∧wr.drew.cell? ⟨w.heap.size,2,none⟩=some (.string t.r)∧wr.drew.cell? ⟨w.heap.size,3,none⟩=some (.string t.c)∧wr.drew.cell? ⟨w.heap.size,4,none⟩=some (.string t.d)∧wr.drew.cell? ⟨w.heap.size,5,none⟩=some (.string t.s)∧b < wr.drew.heap.size∧w.heap.size < wr.drew.heap.size∧Below w.heap.size w wr.drew:=⟨t0,t1,t2,t3,t4,t5,x0,x1,x2,x3,x4,x5,hbr,xl,HB.out.drew⟩
   clear t0 t1 t2 t3 t4 t5 x0 x1 x2 x3 x4 x5
   generalize hq:ts[k].ahead t=q at HA
   cases q with
   | true =>
    have HQ:Hid (ts[k].ahead t=true):=hq
    clear hq
    go_wp2_with fail
    go_region_held3 (fun w'=>w'.cell? ⟨b,off + k * 6,none⟩=some (.string ts[k].a)∧w'.cell? ⟨b,off + k * 6 + 1,none⟩=some (.string ts[k].b)∧w'.cell? ⟨b,off + k * 6 + 2,none⟩=some (.string ts[k].r)∧w'.cell? ⟨b,off + k * 6 + 3,none⟩=some (.string ts[k].c)∧w'.cell? ⟨b,off + k * 6 + 4,none⟩=some (.string ts[k].d)∧w'.cell? ⟨b,off + k * 6 + 5,none⟩=some (.string ts[k].s)∧w'.cell? ⟨w.heap.size,0,none⟩=some (.string t.a)∧w'.cell? ⟨w.heap.size,1,none⟩=some (.string t.b)∧w'.cell? ⟨w.heap.size,2,none⟩=some (.string t.r)∧w'.cell? ⟨w.heap.size,3,none⟩=some (.string t.c)∧w'.cell? ⟨w.heap.size,4,none⟩=some (.string t.d)∧w'.cell? ⟨w.heap.size,5,none⟩=some (.string t.s)∧b < w'.heap.size∧w.heap.size < w'.heap.size∧Below w.heap.size w w')
     (first | assumption | exact keepPut (by assumption) hbx | exact H0)
     (first | (go_at_call 103; refine (HA.out _).mono ?_; rintro e w' ⟨rfl,hbx⟩))
    rename_i hH
    obtain ⟨-,-,-,-,-,-,x0,x1,x2,x3,x4,x5,-,xl,gB⟩:=hH
    have HB2:=HID gB
    have HX2:=HID (six_of x0 x1 x2 x3 x4 x5 xl)
    have HU2:Hid (∀ i (h:i < ts.length),i < k + 1→ts[i].ahead t=true):=fun i h hi=>by
     by_cases e:i=k
     ·subst e; exact HQ.out
     ·exact HU.out i h (by omega)
    clear x0 x1 x2 x3 x4 x5 gB hbx H0 HA HQ HU HB HX
    go_wp2
    go_roundw
    case rel=>exact ⟨k + 1,by omega,by go_num,HU2,HB2,HX2⟩
    case measure=>first | (simp [intOf]; done) | (simp [intOf]; omega)
   | false =>
    have HQ:Hid (ts[k].ahead t=false):=hq
    clear hq
    go_wp2_with fail
    go_region_held3 (fun w'=>w'.cell? ⟨b,off + k * 6,none⟩=some (.string ts[k].a)∧w'.cell? ⟨b,off + k * 6 + 1,none⟩=some (.string ts[k].b)∧w'.cell? ⟨b,off + k * 6 + 2,none⟩=some (.string ts[k].r)∧w'.cell? ⟨b,off + k * 6 + 3,none⟩=some (.string ts[k].c)∧w'.cell? ⟨b,off + k * 6 + 4,none⟩=some (.string ts[k].d)∧w'.cell? ⟨b,off + k * 6 + 5,none⟩=some (.string ts[k].s)∧w'.cell? ⟨w.heap.size,0,none⟩=some (.string t.a)∧w'.cell? ⟨w.heap.size,1,none⟩=some (.string t.b)∧w'.cell? ⟨w.heap.size,2,none⟩=some (.string t.r)∧w'.cell? ⟨w.heap.size,3,none⟩=some (.string t.c)∧w'.cell? ⟨w.heap.size,4,none⟩=some (.string t.d)∧w'.cell? ⟨w.heap.size,5,none⟩=some (.string t.s)∧b < w'.heap.size∧w.heap.size < w'.heap.size∧Below w.heap.size w w')
     (first | assumption | exact keepPut (by assumption) hbx | exact H0)
     (first | (go_at_call 103; refine (HA.out _).mono ?_; rintro e w' ⟨rfl,hbx⟩))
    rename_i hH
    obtain ⟨-,-,-,-,-,-,x0,x1,x2,x3,x4,x5,-,xl,gB⟩:=hH
    have HP:=HID (putT_at ts t k hk HU.out (fun _=>HQ.out))
    have HBW:=HID gB
    have HXW:=HID (six_of x0 x1 x2 x3 x4 x5 xl)
    clear hbx H0 HA HQ HU HB HX gB x0 x1 x2 x3 x4 x5
    obtain ⟨W1,hW1⟩:∃ W1,W1=w'.alloc (.cells #[] 29):=⟨_,rfl⟩
    have HLIT:Hid (W1.ownsRow w'.heap.size 29 6 (.slice (some ⟨w'.heap.size,0,none⟩) 0 0) 0 []):=by
     show World.ownsRow _ _ _ _ _ _ _
     rw [hW1]
     exact World.ownsRow_lit w' #[] 0 (Nat.le_refl _) (by unfold maxLen; omega) (by simp)
    have HBW1:Hid (Below w'.heap.size w' W1):=by show Below _ _ _; rw [hW1]; exact (Below.refl _ _).alloc (Nat.le_refl _) _
    have HR1:Hid (Row6 W1 b off ts):=(HS.out.below HBW.out hb).below HBW1.out (Nat.lt_of_lt_of_le hb HBW.out.size)
    have HX1:Hid (Six W1 w.heap.size t):=HXW.out.below HBW1.out
    have HB1:Hid (Below w.heap.size w W1):=HBW.out.trans (HBW1.out.mono HBW.out.size)
    have hWs:w.heap.size < w'.heap.size:=HXW.out.2.2.2.2.2.2
    have hb1:b < W1.heap.size:=Nat.lt_of_lt_of_le hb HB1.out.size
    have hkc:k≤cap:=by omega
    have hz1:w'.heap.size≤W1.heap.size:=HBW1.out.size
    clear HBW HXW HBW1 
    go_wp2_with (at_builtin; rw [← hW1]; clear hW1; refine wpList_append_own_at _ rfl _ _ 25 rfl w'.heap.size 29 iT (.agg #[.string ⟨#[]⟩,.string ⟨#[]⟩,.string ⟨#[]⟩,.string ⟨#[]⟩,.string ⟨#[]⟩,.string ⟨#[]⟩]) 6 96 Tryz.underlying25 HIT.out.1 HIT.out.2.1 HIT.out.2.2.1 HIT.out.2.2.2 rfl (by decide) _ 0 [] rfl HLIT.out ⟨b,off,none⟩ k cap (rows6 (ts.take k)) rfl (by rw [rows6_len,List.length_take]; congr 1; omega) (row6_cells (row6_take HR1.out k)) (rows6_one _) (by unfold maxLen; omega) (by omega) hz1 ?_)
    intro v2 w2 hown2 hgr2 _ _
    have HO2:Hid (w2.ownsRow w'.heap.size 29 6 v2 k (rows6 (ts.take k))):=by
     show World.ownsRow _ _ _ _ _ _ _
     first | exact hown2 | (rw [Nat.zero_add,List.nil_append] at hown2; exact hown2)
    have hne:some w.heap.size ≠ Value.ownBlock (.slice (some ⟨w'.heap.size,0,none⟩) 0 0):=fun e=>by simp [Value.ownBlock] at e; omega
    have hnb:some b ≠ Value.ownBlock (.slice (some ⟨w'.heap.size,0,none⟩) 0 0):=fun e=>by simp [Value.ownBlock] at e; omega
    have HX2:Hid (Six w2 w.heap.size t):=HX1.out.grown hgr2 hne
    have HR2:Hid (Row6 w2 b off ts):=row6_grown HR1.out hgr2 hb1 hnb
    have HB2:Hid (Below w.heap.size w w2):=HB1.out.grown hgr2 HB1.out.size (fun g hg=>by simp [Value.ownBlock] at hg; omega)
    have hz2:w'.heap.size≤w2.heap.size:=Nat.le_trans hz1 hgr2.size
    clear hown2 hgr2 HLIT HX1 HR1 HB1 hne hnb
    obtain ⟨x0,x1,x2,x3,x4,x5,xl2⟩:=HX2.out
    obtain ⟨W3,hW3⟩:∃ W3,W3=w2.alloc (.cells #[.string t.a,.string t.b,.string t.r,.string t.c,.string t.d,.string t.s] 29):=⟨_,rfl⟩
    have HO3:Hid (W3.ownsRow w'.heap.size 29 6 v2 k (rows6 (ts.take k))):=by show World.ownsRow _ _ _ _ _ _ _; rw [hW3]; exact HO2.out.alloc _
    have HNW:Hid (∀ j u,t.row[j]?=some u→W3.cell? ((⟨w2.heap.size,0,none⟩:Addr).add j)=some u):=by show ∀ j u,_; rw [hW3]; exact row6_news w2 t
    have HB23:Hid (Below w2.heap.size w2 W3):=by show Below _ _ _; rw [hW3]; exact (Below.refl _ _).alloc (Nat.le_refl _) _
    have HB3:Hid (Below w.heap.size w W3):=HB2.out.trans (HB23.out.mono HB2.out.size)
    have HR3:Hid (Row6 W3 b off ts):=HR2.out.below HB23.out (Nat.lt_of_lt_of_le hb HB2.out.size)
    have hz3:w'.heap.size≤W3.heap.size:=Nat.le_trans hz2 HB23.out.size
    have hb3:b < W3.heap.size:=Nat.lt_of_lt_of_le hb HB3.out.size
    clear HB23 HB2 HR2 HX2 hb1 hz1 hz2
    go_wp2_with (at_builtin; rw [← hW3]; clear hW3; refine wpList_append_own_at _ rfl _ _ 25 rfl w'.heap.size 29 iT (.agg #[.string ⟨#[]⟩,.string ⟨#[]⟩,.string ⟨#[]⟩,.string ⟨#[]⟩,.string ⟨#[]⟩,.string ⟨#[]⟩]) 6 96 Tryz.underlying25 HIT.out.1 HIT.out.2.1 HIT.out.2.2.1 HIT.out.2.2.2 rfl (by decide) v2 k (rows6 (ts.take k)) rfl HO3.out ⟨w2.heap.size,0,none⟩ 1 1 t.row rfl rfl HNW.out (row6_one _) (by unfold maxLen; omega) (by omega) hz3 ?_)
    intro v4 w4 hown4 hgr4 _ _
    have hnb:some b ≠ v2.ownBlock:=fun e=>by have:=(HO2.out.lt b e.symm).1; omega
    have HR4:Hid (Row6 w4 b off ts):=row6_grown HR3.out hgr4 hb3 hnb
    have HB4:Hid (Below w.heap.size w w4):=HB3.out.grown hgr4 HB3.out.size (fun g hg=>by have:=(HO2.out.lt g hg).1; omega)
    have HO4:Hid (w4.ownsRow w'.heap.size 29 6 v4 (k + 1) (rows6 (ts.take k) ++ t.row)):=hown4
    have hz4:w'.heap.size≤w4.heap.size:=Nat.le_trans hz3 hgr4.size
    clear hown4 hgr4 HO3 HO2 HNW HB3 HR3 hb3 hz3 hnb x0 x1 x2 x3 x4 x5 xl2
    have hdl:(ts.drop k).length=ts.length - k:=List.length_drop
    clear hdl
    go_wp2_with (at_builtin; refine wpList_append_own_at _ rfl _ _ 25 rfl w'.heap.size 29 iT (.agg #[.string ⟨#[]⟩,.string ⟨#[]⟩,.string ⟨#[]⟩,.string ⟨#[]⟩,.string ⟨#[]⟩,.string ⟨#[]⟩]) 6 96 Tryz.underlying25 HIT.out.1 HIT.out.2.1 HIT.out.2.2.1 HIT.out.2.2.2 rfl (by decide) v4 (k + 1) (rows6 (ts.take k) ++ t.row) rfl HO4.out ⟨b,off + k * 6,none⟩ (ts.length - k) (cap - k) (rows6 (ts.drop k)) rfl (by rw [rows6_len,List.length_drop]) (row6_cells (row6_drop HR4.out k)) (rows6_one _) (by unfold maxLen; omega) (by omega) hz4 ?_)
    intro v5 w5 hown5 hgr5 _ _
    have HB5:Hid (Below w.heap.size w w5):=HB4.out.grown hgr5 HB4.out.size (fun g hg=>by have:=(HO4.out.lt g hg).1; omega)
    have hlp:(putT ts t).length=k + 1 + (ts.length - k):=by rw [HP.out]; simp; omega
    have hown6:w5.ownsRow w'.heap.size 29 6 v5 (putT ts t).length (rows6 (putT ts t)):=by
     rw [hlp,HP.out,show ts.take k ++ t::ts.drop k=(ts.take k ++ [t]) ++ ts.drop k by simp,rows6_append,rows6_snoc]; first | exact hown5 | (rw [List.append_assoc]; exact hown5)
    have HO6:=HID (ownsRow_base hown6 (Nat.le_of_lt hWs))
    clear hown5 hown6 hgr5 hlp
    go_wp2
    go_ret
    exact ⟨v5,rfl,HO6.out,HB5.out⟩
  ·have hd:decide ((k:Int) < (ts.length:Int))=false:=by simp; omega
   go_wp2_with fail
   go_quiet (fail)
   have HP:=HID (putT_at ts t k hk HU.out (fun h=>absurd h hlt))
   obtain ⟨W9,hW9⟩:∃ W9,wr.drewN nq=W9:=⟨_,rfl⟩
   have HBW:Hid (Below w.heap.size w W9):=by show Below _ _ _; rw [← hW9]; exact ⟨HB.out.os,HB.out.tape,HB.out.output,HB.out.size,HB.out.block⟩
   have HXW:Hid (Six W9 w.heap.size t):=by show Six _ _ _; rw [← hW9]; exact HX.out
   rw [hW9]
   clear hW9 HU HB HX hd
   obtain ⟨W1,hW1⟩:∃ W1,W1=W9.alloc (.cells #[] 29):=⟨_,rfl⟩
   have HLIT:Hid (W1.ownsRow W9.heap.size 29 6 (.slice (some ⟨W9.heap.size,0,none⟩) 0 0) 0 []):=by
    show World.ownsRow _ _ _ _ _ _ _
    rw [hW1]
    exact World.ownsRow_lit W9 #[] 0 (Nat.le_refl _) (by unfold maxLen; omega) (by simp)
   have HBW1:Hid (Below W9.heap.size W9 W1):=by show Below _ _ _; rw [hW1]; exact (Below.refl _ _).alloc (Nat.le_refl _) _
   have HR1:Hid (Row6 W1 b off ts):=(HS.out.below HBW.out hb).below HBW1.out (Nat.lt_of_lt_of_le hb HBW.out.size)
   have HX1:Hid (Six W1 w.heap.size t):=HXW.out.below HBW1.out
   have HB1:Hid (Below w.heap.size w W1):=HBW.out.trans (HBW1.out.mono HBW.out.size)
   have hWs:w.heap.size < W9.heap.size:=HXW.out.2.2.2.2.2.2
   have hb1:b < W1.heap.size:=Nat.lt_of_lt_of_le hb HB1.out.size
   have hkc:k≤cap:=by omega
   have hz1:W9.heap.size≤W1.heap.size:=HBW1.out.size
   clear HBW HXW HBW1 
   go_wp2_with (at_builtin; rw [← hW1]; clear hW1; refine wpList_append_own_at _ rfl _ _ 25 rfl W9.heap.size 29 iT (.agg #[.string ⟨#[]⟩,.string ⟨#[]⟩,.string ⟨#[]⟩,.string ⟨#[]⟩,.string ⟨#[]⟩,.string ⟨#[]⟩]) 6 96 Tryz.underlying25 HIT.out.1 HIT.out.2.1 HIT.out.2.2.1 HIT.out.2.2.2 rfl (by decide) _ 0 [] rfl HLIT.out ⟨b,off,none⟩ k cap (rows6 (ts.take k)) rfl (by rw [rows6_len,List.length_take]; congr 1; omega) (row6_cells (row6_take HR1.out k)) (rows6_one _) (by unfold maxLen; omega) (by omega) hz1 ?_)
   intro v2 w2 hown2 hgr2 _ _
   have HO2:Hid (w2.ownsRow W9.heap.size 29 6 v2 k (rows6 (ts.take k))):=by
    show World.ownsRow _ _ _ _ _ _ _
    first | exact hown2 | (rw [Nat.zero_add,List.nil_append] at hown2; exact hown2)
   have hne:some w.heap.size ≠ Value.ownBlock (.slice (some ⟨W9.heap.size,0,none⟩) 0 0):=fun e=>by simp [Value.ownBlock] at e; omega
   have hnb:some b ≠ Value.ownBlock (.slice (some ⟨W9.heap.size,0,none⟩) 0 0):=fun e=>by simp [Value.ownBlock] at e; omega
   have HX2:Hid (Six w2 w.heap.size t):=HX1.out.grown hgr2 hne
   have HR2:Hid (Row6 w2 b off ts):=row6_grown HR1.out hgr2 hb1 hnb
   have HB2:Hid (Below w.heap.size w w2):=HB1.out.grown hgr2 HB1.out.size (fun g hg=>by simp [Value.ownBlock] at hg; omega)
   have hz2:W9.heap.size≤w2.heap.size:=Nat.le_trans hz1 hgr2.size
   clear hown2 hgr2 HLIT HX1 HR1 HB1 hne hnb
   obtain ⟨x0,x1,x2,x3,x4,x5,xl2⟩:=HX2.out
   obtain ⟨W3,hW3⟩:∃ W3,W3=w2.alloc (.cells #[.string t.a,.string t.b,.string t.r,.string t.c,.string t.d,.string t.s] 29):=⟨_,rfl⟩
   have HO3:Hid (W3.ownsRow W9.heap.size 29 6 v2 k (rows6 (ts.take k))):=by show World.ownsRow _ _ _ _ _ _ _; rw [hW3]; exact HO2.out.alloc _
   have HNW:Hid (∀ j u,t.row[j]?=some u→W3.cell? ((⟨w2.heap.size,0,none⟩:Addr).add j)=some u):=by show ∀ j u,_; rw [hW3]; exact row6_news w2 t
   have HB23:Hid (Below w2.heap.size w2 W3):=by show Below _ _ _; rw [hW3]; exact (Below.refl _ _).alloc (Nat.le_refl _) _
   have HB3:Hid (Below w.heap.size w W3):=HB2.out.trans (HB23.out.mono HB2.out.size)
   have HR3:Hid (Row6 W3 b off ts):=HR2.out.below HB23.out (Nat.lt_of_lt_of_le hb HB2.out.size)
   have hz3:W9.heap.size≤W3.heap.size:=Nat.le_trans hz2 HB23.out.size
   have hb3:b < W3.heap.size:=Nat.lt_of_lt_of_le hb HB3.out.size
   clear HB23 HB2 HR2 HX2 hb1 hz1 hz2
   go_wp2_with (at_builtin; rw [← hW3]; clear hW3; refine wpList_append_own_at _ rfl _ _ 25 rfl W9.heap.size 29 iT (.agg #[.string ⟨#[]⟩,.string ⟨#[]⟩,.string ⟨#[]⟩,.string ⟨#[]⟩,.string ⟨#[]⟩,.string ⟨#[]⟩]) 6 96 Tryz.underlying25 HIT.out.1 HIT.out.2.1 HIT.out.2.2.1 HIT.out.2.2.2 rfl (by decide) v2 k (rows6 (ts.take k)) rfl HO3.out ⟨w2.heap.size,0,none⟩ 1 1 t.row rfl rfl HNW.out (row6_one _) (by unfold maxLen; omega) (by omega) hz3 ?_)
   intro v4 w4 hown4 hgr4 _ _
   have hnb:some b ≠ v2.ownBlock:=fun e=>by have:=(HO2.out.lt b e.symm).1; omega
   have HR4:Hid (Row6 w4 b off ts):=row6_grown HR3.out hgr4 hb3 hnb
   have HB4:Hid (Below w.heap.size w w4):=HB3.out.grown hgr4 HB3.out.size (fun g hg=>by have:=(HO2.out.lt g hg).1; omega)
   have HO4:Hid (w4.ownsRow W9.heap.size 29 6 v4 (k + 1) (rows6 (ts.take k) ++ t.row)):=hown4
   have hz4:W9.heap.size≤w4.heap.size:=Nat.le_trans hz3 hgr4.size
   clear hown4 hgr4 HO3 HO2 HNW HB3 HR3 hb3 hz3 hnb x0 x1 x2 x3 x4 x5 xl2
   have hdl:(ts.drop k).length=ts.length - k:=List.length_drop
   clear hdl
   by_cases hce:cap=k
   all_goals
    go_wp2_with (at_builtin; refine wpList_append_own_at _ rfl _ _ 25 rfl W9.heap.size 29 iT (.agg #[.string ⟨#[]⟩,.string ⟨#[]⟩,.string ⟨#[]⟩,.string ⟨#[]⟩,.string ⟨#[]⟩,.string ⟨#[]⟩]) 6 96 Tryz.underlying25 HIT.out.1 HIT.out.2.1 HIT.out.2.2.1 HIT.out.2.2.2 rfl (by decide) v4 (k + 1) (rows6 (ts.take k) ++ t.row) rfl HO4.out _ (ts.length - k) _ (rows6 (ts.drop k)) rfl (by rw [rows6_len,List.length_drop]) (news_none (by omega) _ _) (rows6_one _) (by unfold maxLen; omega) (by omega) hz4 ?_)
    intro v5 w5 hown5 hgr5 _ _
    have HB5:Hid (Below w.heap.size w w5):=HB4.out.grown hgr5 HB4.out.size (fun g hg=>by have:=(HO4.out.lt g hg).1; omega)
    have hlp:(putT ts t).length=k + 1 + (ts.length - k):=by rw [HP.out]; simp; omega
    have hown6:w5.ownsRow W9.heap.size 29 6 v5 (putT ts t).length (rows6 (putT ts t)):=by
     rw [hlp,HP.out,show ts.take k ++ t::ts.drop k=(ts.take k ++ [t]) ++ ts.drop k by simp,rows6_append,rows6_snoc]; first | exact hown5 | (rw [List.append_assoc]; exact hown5)
    have HO6:=HID (ownsRow_base hown6 (Nat.le_of_lt hWs))
    clear hown5 hown6 hgr5 hlp
    go_wp2
    go_ret
    exact ⟨v5,rfl,HO6.out,HB5.out⟩
end Go.Proofs.YtpnjoniolfmbnaaGreatDoor
