/- What a slice of types that can be read leads to: a schema whose strings and lists fit. -/
import Derived.Test.YtpnjoniolfmbnaaGreatDoorJ15
import Derived.Test.YtpnjoniolfmbnaaGreatDoorJ30
import Derived.Test.YtpnjoniolfmbnaaGreatDoorToSchema
import Derived.Test.YtpnjoniolfmbnaaGreatDoorRows
import Derived.OpenShut
import Derived.ShutString
import Derived.ChangeOld
import Derived.Lib.SmallJoins
import Derived.Test.YtpnjoniolfmbnaaGreatDoorJ2
import Derived.Deep.Slices
namespace Go.Proofs.YtpnjoniolfmbnaaGreatDoor
open Go.ChangeShapes Go.WideShapes Go.ChangeAt Go.RowKit Go.Joins Go.Deep
section
variable {H:Type} {enc:TypeId × Value→H} {W:World} {base:Nat} {sp:Nat→Bool} {held:Bool}
theorem cellsRR:Tryz.prog.cellsOf 203=2:=by kernel_rfl
theorem cellsInRR:Tryz.prog.cellsOf 201=1:=by kernel_rfl
set_option maxRecDepth 100000 in
theorem readRR {fuel:Nat} {cs:List Value} {x:DataW H × List MemPlace} (h:DataW.trod enc Tryz.prog W base sp held fuel 203 cs=some x) :
  ∃ r:RR,cs=[.string r.name,.slice r.ad r.rows.length r.cap]∧r.ok W∧r.fits:=by
 obtain ⟨y0,y1,n,-,hl,h0,h1⟩:=trod_struct2 Tryz.underlying203 h
 rw [cellsRR] at hl
 match cs,hl with
 | [c0,c1],_ =>
  simp only [cellsStr',cellsInRR,List.drop_zero,List.drop_succ_cons,List.take_succ_cons,List.take_zero] at h0 h1
  obtain ⟨a,e0,-,wa⟩:=DataW.trod_string Tryz.underlying9 h0
  obtain ⟨ad,len,cap,e1⟩:∃ ad len cap,c1=.slice ad len cap:=by
   rcases open_slice Tryz.underlying201 h1 with ⟨hcs,-⟩ | ⟨a,l,c,m,n,D,Pl,hcs,-⟩
   ·simp at hcs; exact ⟨_,_,_,hcs⟩
   ·simp at hcs; exact ⟨_,_,_,hcs⟩
  simp at e0
  subst e0 e1
  obtain ⟨rs,rfl,hs,hf,hm⟩:=open_exprs h1
  exact ⟨⟨a,rs,ad,cap⟩,rfl,hs,wa,hm,hf⟩
theorem open_rels {fuel:Nat} {ad:Option Addr} {len cap:Nat} {x:DataW H × List MemPlace} (h:DataW.trod enc Tryz.prog W base sp held fuel 87 [.slice ad len cap]=some x) :
  ∃ rs:List RR,rs.length=len∧SlR W ad rs∧(∀ r ∈ rs,r.fits)∧len≤maxLen:=by
 rcases open_slice Tryz.underlying87 h with ⟨hcs,-⟩ | ⟨a,l,c,m,n,D,Pl,hcs,-,hlc,hcm,hm,-,hel⟩
 ·simp at hcs
  obtain ⟨rfl,rfl,rfl⟩:=hcs
  exact ⟨[],rfl,.inl rfl,(fun t ht=>by cases ht),by unfold maxLen; omega⟩
 ·simp at hcs
  obtain ⟨rfl,rfl,rfl⟩:=hcs
  have hle:len≤m:=by rw [hm]; split <;> omega
  by_cases h0:len=0
  ·subst h0
   exact ⟨[],rfl,.inl rfl,(fun t ht=>by cases ht),by omega⟩
  have key:∀ i,i < len→∃ r:RR,(∀ j,j < 2→W.cell? ((a.add (i * 2)).add j)=[Value.string r.name,.slice r.ad r.rows.length r.cap][j]?)∧r.ok W∧r.fits:=by
   intro i hi
   obtain ⟨cs',hc,hd⟩:=hel i (by omega)
   rw [cellsRR] at hc
   obtain ⟨r,rfl,hh⟩:=readRR hd
   exact ⟨r,fun j hj=>(World.cells?_some hc).2.2 j hj,hh⟩
  have hspot:a.spot=none:=by
   obtain ⟨t,ht,-⟩:=key 0 (by omega)
   have:=ht 0 (by omega)
   have e:(a.add (0 * 2)).add 0=a:=by simp [Addr.add]
   rw [e] at this
   exact World.cell?_spot this
  obtain ⟨b,off,spot⟩:=a
  simp only at hspot
  subst hspot
  obtain ⟨f,hf⟩:=@choose_lt RR ⟨⟨⟨#[]⟩,[],none,0⟩⟩ len _ key
  have at2:∀ i,i < len→AtR W b (off + i * 2) (f i):=by
   intro i hi
   obtain ⟨hc,-⟩:=hf i hi
   simp only [add_none'] at hc
   exact ⟨hc 0 (by omega),hc 1 (by omega)⟩
  refine ⟨(List.range len).map f,by simp,.inr ⟨b,off,rfl,?_,?_,?_⟩,?_,by omega⟩
  ·exact World.block_lt_of_cell? W ⟨b,off + 0 * 2,none⟩ (at2 0 (by omega)).1
  ·intro i hi
   have hi':i < len:=by simpa using hi
   simpa using at2 i hi'
  ·intro t ht
   simp only [List.mem_map,List.mem_range] at ht
   obtain ⟨i,hi,rfl⟩:=ht
   exact (hf i hi).2.1
  ·intro t ht
   simp only [List.mem_map,List.mem_range] at ht
   obtain ⟨i,hi,rfl⟩:=ht
   exact (hf i hi).2.2
theorem cellsTR:Tryz.prog.cellsOf 89=2:=by kernel_rfl
theorem cellsInTR:Tryz.prog.cellsOf 87=1:=by kernel_rfl
set_option maxRecDepth 100000 in
theorem readTR {fuel:Nat} {cs:List Value} {x:DataW H × List MemPlace} (h:DataW.trod enc Tryz.prog W base sp held fuel 89 cs=some x) :
  ∃ r:TR,cs=[.string r.name,.slice r.ad r.rows.length r.cap]∧r.ok W∧r.fits:=by
 obtain ⟨y0,y1,n,-,hl,h0,h1⟩:=trod_struct2 Tryz.underlying89 h
 rw [cellsTR] at hl
 match cs,hl with
 | [c0,c1],_ =>
  simp only [cellsStr',cellsInTR,List.drop_zero,List.drop_succ_cons,List.take_succ_cons,List.take_zero] at h0 h1
  obtain ⟨a,e0,-,wa⟩:=DataW.trod_string Tryz.underlying9 h0
  obtain ⟨ad,len,cap,e1⟩:∃ ad len cap,c1=.slice ad len cap:=by
   rcases open_slice Tryz.underlying87 h1 with ⟨hcs,-⟩ | ⟨a,l,c,m,n,D,Pl,hcs,-⟩
   ·simp at hcs; exact ⟨_,_,_,hcs⟩
   ·simp at hcs; exact ⟨_,_,_,hcs⟩
  simp at e0
  subst e0 e1
  obtain ⟨rs,rfl,hs,hf,hm⟩:=open_rels h1
  exact ⟨⟨a,rs,ad,cap⟩,rfl,hs,wa,hm,hf⟩
theorem open_types {fuel:Nat} {ad:Option Addr} {len cap:Nat} {x:DataW H × List MemPlace} (h:DataW.trod enc Tryz.prog W base sp held fuel 38 [.slice ad len cap]=some x) :
  ∃ rs:List TR,rs.length=len∧SlT W ad rs∧(∀ r ∈ rs,r.fits)∧len≤maxLen:=by
 rcases open_slice Tryz.underlying38 h with ⟨hcs,-⟩ | ⟨a,l,c,m,n,D,Pl,hcs,-,hlc,hcm,hm,-,hel⟩
 ·simp at hcs
  obtain ⟨rfl,rfl,rfl⟩:=hcs
  exact ⟨[],rfl,.inl rfl,(fun t ht=>by cases ht),by unfold maxLen; omega⟩
 ·simp at hcs
  obtain ⟨rfl,rfl,rfl⟩:=hcs
  have hle:len≤m:=by rw [hm]; split <;> omega
  by_cases h0:len=0
  ·subst h0
   exact ⟨[],rfl,.inl rfl,(fun t ht=>by cases ht),by omega⟩
  have key:∀ i,i < len→∃ r:TR,(∀ j,j < 2→W.cell? ((a.add (i * 2)).add j)=[Value.string r.name,.slice r.ad r.rows.length r.cap][j]?)∧r.ok W∧r.fits:=by
   intro i hi
   obtain ⟨cs',hc,hd⟩:=hel i (by omega)
   rw [cellsTR] at hc
   obtain ⟨r,rfl,hh⟩:=readTR hd
   exact ⟨r,fun j hj=>(World.cells?_some hc).2.2 j hj,hh⟩
  have hspot:a.spot=none:=by
   obtain ⟨t,ht,-⟩:=key 0 (by omega)
   have:=ht 0 (by omega)
   have e:(a.add (0 * 2)).add 0=a:=by simp [Addr.add]
   rw [e] at this
   exact World.cell?_spot this
  obtain ⟨b,off,spot⟩:=a
  simp only at hspot
  subst hspot
  obtain ⟨f,hf⟩:=@choose_lt TR ⟨⟨⟨#[]⟩,[],none,0⟩⟩ len _ key
  have at2:∀ i,i < len→AtT W b (off + i * 2) (f i):=by
   intro i hi
   obtain ⟨hc,-⟩:=hf i hi
   simp only [add_none'] at hc
   exact ⟨hc 0 (by omega),hc 1 (by omega)⟩
  refine ⟨(List.range len).map f,by simp,.inr ⟨b,off,rfl,?_,?_,?_⟩,?_,by omega⟩
  ·exact World.block_lt_of_cell? W ⟨b,off + 0 * 2,none⟩ (at2 0 (by omega)).1
  ·intro i hi
   have hi':i < len:=by simpa using hi
   simpa using at2 i hi'
  ·intro t ht
   simp only [List.mem_map,List.mem_range] at ht
   obtain ⟨i,hi,rfl⟩:=ht
   exact (hf i hi).2.1
  ·intro t ht
   simp only [List.mem_map,List.mem_range] at ht
   obtain ⟨i,hi,rfl⟩:=ht
   exact (hf i hi).2.2
end
end Go.Proofs.YtpnjoniolfmbnaaGreatDoor
namespace Go.Proofs.YtpnjoniolfmbnaaGreatDoor
open Go.ChangeShapes Go.WideShapes Go.ChangeAt Go.RowKit
open Pl
set_option maxHeartbeats 1000000 in
theorem eqRelation_same (r r':RR) (w:World) (he:r'.p=r.p) (hr:r.ok w) (hr':r'.ok w) (hl:r.light) :
  Calls Tryz.prog 117 #[r.val,r'.val] w fun e w'=>e=.returned (.bool true)∧Below w.heap.size w w':=by
 obtain ⟨name,rows,ad,cap⟩:=r
 obtain ⟨name',rows',ad',cap'⟩:=r'
 simp only [RR.p,Rl.mk.injEq] at he
 obtain ⟨rfl,he⟩:=he
 obtain ⟨l1,l2⟩:=hl
 have HO:Hid (SlE w ad rows):=hr
 have HO':Hid (SlE w ad' rows'):=hr'
 have HL:Hid (∀ q ∈ rows,q.e.light):=l2
 have HE:Hid (exs rows'=exs rows):=he
 simp only at l1
 simp only [RR.val]
 clear hr hr' l2 he
 have HB:Hid (Below w.heap.size w ((w.alloc (.cells #[.string name',.slice ad rows.length cap] 117)).alloc (.cells #[.string name',.slice ad' rows'.length cap'] 117))):=((Below.refl w.heap.size w).alloc (Nat.le_refl _) _).alloc (by simp) _
 go_enter Tryz.func117,Tryz.ntmps117
 go_wp2_with fail
 refine (eqExprS_same ad ad' cap cap' rows rows' _ l1 HE.out (SlE.below HO.out HB.out) (SlE.below HO'.out HB.out) HL.out).mono ?_
 rintro e w1 ⟨rfl,hb1⟩
 have HB1:Hid (Below w.heap.size w w1):=HB.out.trans (hb1.mono HB.out.size)
 clear hb1 HB
 go_wp2
 go_ret
 exact ⟨rfl,HB1.out⟩
theorem keepRR {wr W w':World} {b b' o o':Nat} {x0 x1 y0 y1:Value} (h:W.cell? ⟨b,o,none⟩=some x0∧W.cell? ⟨b,o + 1,none⟩=some x1∧W.cell? ⟨b',o',none⟩=some y0∧W.cell? ⟨b',o' + 1,none⟩=some y1∧b < W.heap.size∧b' < W.heap.size∧Below wr.heap.size wr W) (hb:Below W.heap.size W w') :
  w'.cell? ⟨b,o,none⟩=some x0∧w'.cell? ⟨b,o + 1,none⟩=some x1∧w'.cell? ⟨b',o',none⟩=some y0∧w'.cell? ⟨b',o' + 1,none⟩=some y1∧b < w'.heap.size∧b' < w'.heap.size∧Below wr.heap.size wr w':=keep4 h hb
theorem keepBRR {wr W:World} {b b' o o':Nat} {x0 x1 y0 y1:Value} (h:W.cell? ⟨b,o,none⟩=some x0∧W.cell? ⟨b,o + 1,none⟩=some x1∧W.cell? ⟨b',o',none⟩=some y0∧W.cell? ⟨b',o' + 1,none⟩=some y1∧b < W.heap.size∧b' < W.heap.size∧Below wr.heap.size wr W):Below wr.heap.size wr W:=h.2.2.2.2.2.2
set_option maxHeartbeats 2000000 in
theorem eqRelationS_same (ad ad':Option Addr) (cap cap':Nat) (rs rs':List RR) (w:World) (hlen:rs.length≤1048576) (he:rls rs'=rls rs) (hs:SlR w ad rs) (hs':SlR w ad' rs') (hl:∀ r ∈ rs,r.light) :
  Calls Tryz.prog 83 #[.slice ad rs.length cap,.slice ad' rs'.length cap'] w fun e w'=>e=.returned (.bool true)∧Below w.heap.size w w':=by
 have hll:rs'.length=rs.length:=by rw [← rls_len,he,rls_len]
 have HSL:Hid (SlR w ad rs):=hs
 have HSM:Hid (SlR w ad' rs'):=hs'
 have HLI:Hid (∀ r ∈ rs,r.light):=hl
 have HEE:Hid (rls rs'=rls rs):=he
 have HLL:Hid (rs'.length=rs.length):=hll
 rw [hll]
 clear hs hs' hl he hll
 go_enter Tryz.func83,Tryz.ntmps83
 go_wp2
 go_loopw [5] (fun i wr=>∃ k:Nat,k≤rs.length∧i=.int .i64 k∧Below w.heap.size w wr) (fun i _=>rs.length - (intOf i).toNat)
 case atStart=>exact ⟨0,Nat.zero_le _,rfl,Below.refl _ _⟩
 case round =>
  obtain ⟨k,hk,rfl,hB⟩:=hrel
  by_cases hlt:k < rs.length
  ·have hlt':k < rs'.length:=by rw [HLL.out]; exact hlt
   rcases HSL.out.below hB with rfl | ⟨b,off,rfl,hb,hr,hok⟩
   ·simp at hlt
   rcases HSM.out.below hB with rfl | ⟨b',off',rfl,hb',hr',hok'⟩
   ·simp at hlt'
   obtain ⟨t0,t1⟩:=hr k hlt
   obtain ⟨q0,q1⟩:=hr' k hlt'
   have HK1:Hid (rs[k].ok wr):=hok rs[k] (List.getElem_mem hlt)
   have HK2:Hid (rs'[k].ok wr):=hok' rs'[k] (List.getElem_mem hlt')
   have HK3:Hid (rs'[k].p=rs[k].p):=by
    have h1:(rls rs')[k]?=(rls rs)[k]?:=by rw [HEE.out]
    show _=_
    simpa [rls,hlt,hlt'] using h1
   have HK4:Hid (rs[k].light):=HLI.out rs[k] (List.getElem_mem hlt)
   have hk1:(0:Int)≤(k:Int):=by omega
   have hk2:(k:Int) < (rs.length:Int):=by omega
   clear hr hr' hok hok'
   go_wp2_with fail
   go_region_held3 (fun w'=>w'.cell? ⟨b,off + k * 2,none⟩=some (.string rs[k].name)∧w'.cell? ⟨b,off + k * 2 + 1,none⟩=some (.slice rs[k].ad rs[k].rows.length rs[k].cap)∧w'.cell? ⟨b',off' + k * 2,none⟩=some (.string rs'[k].name)∧w'.cell? ⟨b',off' + k * 2 + 1,none⟩=some (.slice rs'[k].ad rs'[k].rows.length rs'[k].cap)∧b < w'.heap.size∧b' < w'.heap.size∧Below wr.heap.size wr w')
    (first | assumption | exact keepRR (by assumption) hbx | exact ⟨t0,t1,q0,q1,hb,hb',(Below.refl _ _).drew⟩)
    (first | (go_at_call 117; refine (eqRelation_same rs[k] rs'[k] _ HK3.out (HK1.out.below (keepBRR (by assumption))) (HK2.out.below (keepBRR (by assumption))) HK4.out).mono ?_; rintro e w' ⟨rfl,hbx⟩))
   rename_i hH
   obtain ⟨-,-,-,-,-,-,gB⟩:=hH
   clear t0 t1 q0 q1 hb hb'
   go_wp2
   go_roundw
   case rel=>exact ⟨k + 1,by omega,by go_num,hB.trans (gB.mono hB.size)⟩
   case measure=>simp [intOf]; omega
  ·go_wp2
   go_ret
   exact ⟨rfl,hB⟩
set_option maxHeartbeats 1000000 in
theorem eqType_same (r r':TR) (w:World) (he:r'.p=r.p) (hr:r.ok w) (hr':r'.ok w) (hl:r.light) :
  Calls Tryz.prog 47 #[r.val,r'.val] w fun e w'=>e=.returned (.bool true)∧Below w.heap.size w w':=by
 obtain ⟨name,rows,ad,cap⟩:=r
 obtain ⟨name',rows',ad',cap'⟩:=r'
 simp only [TR.p,Ty.mk.injEq] at he
 obtain ⟨rfl,he⟩:=he
 obtain ⟨l1,l2⟩:=hl
 have HO:Hid (SlR w ad rows):=hr
 have HO':Hid (SlR w ad' rows'):=hr'
 have HL:Hid (∀ q ∈ rows,q.light):=l2
 have HE:Hid (rls rows'=rls rows):=he
 simp only at l1
 simp only [TR.val]
 clear hr hr' l2 he
 have HB:Hid (Below w.heap.size w ((w.alloc (.cells #[.string name',.slice ad rows.length cap] 93)).alloc (.cells #[.string name',.slice ad' rows'.length cap'] 93))):=((Below.refl w.heap.size w).alloc (Nat.le_refl _) _).alloc (by simp) _
 go_enter Tryz.func47,Tryz.ntmps47
 go_wp2_with fail
 refine (eqRelationS_same ad ad' cap cap' rows rows' _ l1 HE.out (SlR.below HO.out HB.out) (SlR.below HO'.out HB.out) HL.out).mono ?_
 rintro e w1 ⟨rfl,hb1⟩
 have HB1:Hid (Below w.heap.size w w1):=HB.out.trans (hb1.mono HB.out.size)
 clear hb1 HB
 go_wp2
 go_ret
 exact ⟨rfl,HB1.out⟩
theorem keepTR {wr W w':World} {b b' o o':Nat} {x0 x1 y0 y1:Value} (h:W.cell? ⟨b,o,none⟩=some x0∧W.cell? ⟨b,o + 1,none⟩=some x1∧W.cell? ⟨b',o',none⟩=some y0∧W.cell? ⟨b',o' + 1,none⟩=some y1∧b < W.heap.size∧b' < W.heap.size∧Below wr.heap.size wr W) (hb:Below W.heap.size W w') :
  w'.cell? ⟨b,o,none⟩=some x0∧w'.cell? ⟨b,o + 1,none⟩=some x1∧w'.cell? ⟨b',o',none⟩=some y0∧w'.cell? ⟨b',o' + 1,none⟩=some y1∧b < w'.heap.size∧b' < w'.heap.size∧Below wr.heap.size wr w':=keep4 h hb
theorem keepBTR {wr W:World} {b b' o o':Nat} {x0 x1 y0 y1:Value} (h:W.cell? ⟨b,o,none⟩=some x0∧W.cell? ⟨b,o + 1,none⟩=some x1∧W.cell? ⟨b',o',none⟩=some y0∧W.cell? ⟨b',o' + 1,none⟩=some y1∧b < W.heap.size∧b' < W.heap.size∧Below wr.heap.size wr W):Below wr.heap.size wr W:=h.2.2.2.2.2.2
set_option maxHeartbeats 2000000 in
theorem eqTypeS_same (ad ad':Option Addr) (cap cap':Nat) (rs rs':List TR) (w:World) (hlen:rs.length≤1048576) (he:tys rs'=tys rs) (hs:SlT w ad rs) (hs':SlT w ad' rs') (hl:∀ r ∈ rs,r.light) :
  Calls Tryz.prog 19 #[.slice ad rs.length cap,.slice ad' rs'.length cap'] w fun e w'=>e=.returned (.bool true)∧Below w.heap.size w w':=by
 have hll:rs'.length=rs.length:=by rw [← tys_len,he,tys_len]
 have HSL:Hid (SlT w ad rs):=hs
 have HSM:Hid (SlT w ad' rs'):=hs'
 have HLI:Hid (∀ r ∈ rs,r.light):=hl
 have HEE:Hid (tys rs'=tys rs):=he
 have HLL:Hid (rs'.length=rs.length):=hll
 rw [hll]
 clear hs hs' hl he hll
 go_enter Tryz.func19,Tryz.ntmps19
 go_wp2
 go_loopw [5] (fun i wr=>∃ k:Nat,k≤rs.length∧i=.int .i64 k∧Below w.heap.size w wr) (fun i _=>rs.length - (intOf i).toNat)
 case atStart=>exact ⟨0,Nat.zero_le _,rfl,Below.refl _ _⟩
 case round =>
  obtain ⟨k,hk,rfl,hB⟩:=hrel
  by_cases hlt:k < rs.length
  ·have hlt':k < rs'.length:=by rw [HLL.out]; exact hlt
   rcases HSL.out.below hB with rfl | ⟨b,off,rfl,hb,hr,hok⟩
   ·simp at hlt
   rcases HSM.out.below hB with rfl | ⟨b',off',rfl,hb',hr',hok'⟩
   ·simp at hlt'
   obtain ⟨t0,t1⟩:=hr k hlt
   obtain ⟨q0,q1⟩:=hr' k hlt'
   have HK1:Hid (rs[k].ok wr):=hok rs[k] (List.getElem_mem hlt)
   have HK2:Hid (rs'[k].ok wr):=hok' rs'[k] (List.getElem_mem hlt')
   have HK3:Hid (rs'[k].p=rs[k].p):=by
    have h1:(tys rs')[k]?=(tys rs)[k]?:=by rw [HEE.out]
    show _=_
    simpa [tys,hlt,hlt'] using h1
   have HK4:Hid (rs[k].light):=HLI.out rs[k] (List.getElem_mem hlt)
   have hk1:(0:Int)≤(k:Int):=by omega
   have hk2:(k:Int) < (rs.length:Int):=by omega
   clear hr hr' hok hok'
   go_wp2_with fail
   go_region_held3 (fun w'=>w'.cell? ⟨b,off + k * 2,none⟩=some (.string rs[k].name)∧w'.cell? ⟨b,off + k * 2 + 1,none⟩=some (.slice rs[k].ad rs[k].rows.length rs[k].cap)∧w'.cell? ⟨b',off' + k * 2,none⟩=some (.string rs'[k].name)∧w'.cell? ⟨b',off' + k * 2 + 1,none⟩=some (.slice rs'[k].ad rs'[k].rows.length rs'[k].cap)∧b < w'.heap.size∧b' < w'.heap.size∧Below wr.heap.size wr w')
    (first | assumption | exact keepTR (by assumption) hbx | exact ⟨t0,t1,q0,q1,hb,hb',(Below.refl _ _).drew⟩)
    (first | (go_at_call 47; refine (eqType_same rs[k] rs'[k] _ HK3.out (HK1.out.below (keepBTR (by assumption))) (HK2.out.below (keepBTR (by assumption))) HK4.out).mono ?_; rintro e w' ⟨rfl,hbx⟩))
   rename_i hH
   obtain ⟨-,-,-,-,-,-,gB⟩:=hH
   clear t0 t1 q0 q1 hb hb'
   go_wp2
   go_roundw
   case rel=>exact ⟨k + 1,by omega,by go_num,hB.trans (gB.mono hB.size)⟩
   case measure=>simp [intOf]; omega
  ·go_wp2
   go_ret
   exact ⟨rfl,hB⟩
end Go.Proofs.YtpnjoniolfmbnaaGreatDoor
namespace Go.Proofs.YtpnjoniolfmbnaaGreatDoor
open Go.ChangeShapes Go.WideShapes Go.ChangeAt Go.RowKit Go.Joins
theorem list2 {α:Type} {l:List α} (h:l.length=2):∃ a b,l=[a,b]:=by
 match l,h with
 | [a,b],_=>exact ⟨a,b,rfl⟩
theorem list6 {α:Type} {l:List α} (h:l.length=6):∃ a b c d e f,l=[a,b,c,d,e,f]:=by
 match l,h with
 | [a,b,c,d,e,f],_=>exact ⟨a,b,c,d,e,f,rfl⟩
theorem cellsObj:Tryz.prog.cellsOf 40=2:=by kernel_rfl
theorem cellsTup:Tryz.prog.cellsOf 42=6:=by kernel_rfl
theorem cellsStr:Tryz.prog.cellsOf 9=1:=by kernel_rfl
theorem read_obj {H:Type} {enc:TypeId × Value→H} {w:World} {base:Nat} {sp:Nat→Bool} {held:Bool} {fuel:Nat} {cs:List Value} {x:DataW H × List MemPlace}
  (h:DataW.trod enc Tryz.prog w base sp held fuel 40 cs=some x):∃ a b:ByteArray,cs=[.string a,.string b]∧a.size≤maxLen∧b.size≤maxLen:=by
 obtain ⟨y0,y1,n,-,hl,h0,h1⟩:=trod_struct2 Tryz.underlying40 h
 rw [cellsObj] at hl
 obtain ⟨c0,c1,rfl⟩:=list2 hl
 simp only [cellsStr,List.drop_zero,List.drop_succ_cons,List.take_succ_cons,List.take_zero] at h0 h1
 obtain ⟨a,e0,-,wa⟩:=DataW.trod_string Tryz.underlying9 h0
 obtain ⟨b,e1,-,wb⟩:=DataW.trod_string Tryz.underlying9 h1
 simp at e0 e1
 subst e0 e1
 exact ⟨a,b,rfl,wa,wb⟩
theorem read_tup {H:Type} {enc:TypeId × Value→H} {w:World} {base:Nat} {sp:Nat→Bool} {held:Bool} {fuel:Nat} {cs:List Value} {x:DataW H × List MemPlace}
  (h:DataW.trod enc Tryz.prog w base sp held fuel 42 cs=some x):∃ a b r c d s:ByteArray,cs=[.string a,.string b,.string r,.string c,.string d,.string s] ∧
   a.size≤maxLen∧b.size≤maxLen∧r.size≤maxLen∧c.size≤maxLen∧d.size≤maxLen∧s.size≤maxLen:=by
 obtain ⟨y0,y1,y2,y3,n,-,hl,h0,h1,h2,h3⟩:=trod_struct4 Tryz.underlying42 h
 rw [cellsTup] at hl
 obtain ⟨c0,c1,c2,c3,c4,c5,rfl⟩:=list6 hl
 simp only [cellsStr,cellsObj,List.drop_zero,List.drop_succ_cons,List.take_succ_cons,List.take_zero] at h0 h1 h2 h3
 obtain ⟨a,b,e0,wa,wb⟩:=read_obj h0
 obtain ⟨r,e1,-,wr⟩:=DataW.trod_string Tryz.underlying9 h1
 obtain ⟨c,d,e2,wc,wd⟩:=read_obj h2
 obtain ⟨s,e3,-,ws⟩:=DataW.trod_string Tryz.underlying9 h3
 simp at e0 e1 e2 e3
 obtain ⟨rfl,rfl⟩:=e0
 obtain ⟨rfl,rfl⟩:=e2
 subst e1 e3
 exact ⟨a,b,r,c,d,s,rfl,wa,wb,wr,wc,wd,ws⟩
end Go.Proofs.YtpnjoniolfmbnaaGreatDoor
namespace Go.Proofs.YtpnjoniolfmbnaaGreatDoor
open Go.ChangeShapes Go.WideShapes Go.ChangeAt Go.RowKit Go.Joins Go.Deep
theorem add_noneT (b off x:Nat):(⟨b,off,none⟩:Addr).add x=⟨b,off + x,none⟩:=by
 unfold Addr.add
 by_cases h:x=0
 ·subst h; simp
 ·simp [h]
theorem open_tups {H:Type} {enc:TypeId × Value→H} {W:World} {base:Nat} {sp:Nat→Bool} {held:Bool} {fuel:Nat} {ad:Option Addr} {len cap:Nat} {x:DataW H × List MemPlace}
  (h:DataW.trod enc Tryz.prog W base sp held fuel 39 [.slice ad len cap]=some x):∃ ts:List Tp,ts.length=len∧Sl W ad ts∧(∀ t ∈ ts,t.fits)∧len≤maxLen:=by
 rcases open_slice Tryz.underlying39 h with ⟨hcs,-⟩ | ⟨a,l,c,m,n,D,Pl,hcs,-,hlc,hcm,hm,-,hel⟩
 ·simp at hcs
  obtain ⟨rfl,rfl,rfl⟩:=hcs
  exact ⟨[],rfl,.inl rfl,(fun t ht=>by cases ht),by unfold maxLen; omega⟩
 ·simp at hcs
  obtain ⟨rfl,rfl,rfl⟩:=hcs
  have hle:len≤m:=by rw [hm]; split <;> omega
  by_cases h0:len=0
  ·subst h0
   exact ⟨[],rfl,.inl rfl,(fun t ht=>by cases ht),by omega⟩
  have key:∀ i,i < len→∃ t:Tp,(∀ j,j < 6→W.cell? ((a.add (i * 6)).add j)=[Value.string t.a,.string t.b,.string t.r,.string t.c,.string t.d,.string t.s][j]?)∧t.fits:=by
   intro i hi
   obtain ⟨cs',hc,hd⟩:=hel i (by omega)
   rw [cellsTup] at hc
   obtain ⟨ta,tb,tr,tc,td,ts,rfl,hh⟩:=read_tup hd
   exact ⟨⟨ta,tb,tr,tc,td,ts⟩,fun j hj=>(World.cells?_some hc).2.2 j hj,hh⟩
  have hspot:a.spot=none:=by
   obtain ⟨t,ht,-⟩:=key 0 (by omega)
   have:=ht 0 (by omega)
   have e:(a.add (0 * 6)).add 0=a:=by simp [Addr.add]
   rw [e] at this
   exact World.cell?_spot this
  obtain ⟨b,off,spot⟩:=a
  simp only at hspot
  subst hspot
  obtain ⟨f,hf⟩:=@choose_lt Tp ⟨⟨⟨#[]⟩,⟨#[]⟩,⟨#[]⟩,⟨#[]⟩,⟨#[]⟩,⟨#[]⟩⟩⟩ len _ key
  have at6:∀ i,i < len→At6 W b (off + i * 6) (f i):=by
   intro i hi
   obtain ⟨hc,-⟩:=hf i hi
   simp only [add_noneT] at hc
   exact ⟨hc 0 (by omega),hc 1 (by omega),hc 2 (by omega),hc 3 (by omega),hc 4 (by omega),hc 5 (by omega)⟩
  refine ⟨(List.range len).map f,by simp,.inr ⟨b,off,rfl,?_,?_⟩,?_,by omega⟩
  ·exact World.block_lt_of_cell? W ⟨b,off + 0 * 6,none⟩ (at6 0 (by omega)).1
  ·intro i hi
   have hi':i < len:=by simpa using hi
   simpa using at6 i hi'
  ·intro t ht
   simp only [List.mem_map,List.mem_range] at ht
   obtain ⟨i,hi,rfl⟩:=ht
   exact (hf i hi).2
end Go.Proofs.YtpnjoniolfmbnaaGreatDoor
namespace Go.Proofs.YtpnjoniolfmbnaaGreatDoor
open Go.ChangeShapes Go.WideShapes Go.ChangeAt Go.RowKit Go.Joins
theorem list7 {α:Type} {l:List α} (h:l.length=7):∃ x a b c d e f,l=[x,a,b,c,d,e,f]:=by
 match l,h with
 | [x,a,b,c,d,e,f],_=>exact ⟨x,a,b,c,d,e,f,rfl⟩
theorem cellsChg:Tryz.prog.cellsOf 44=7:=by kernel_rfl
theorem cellsI64c:Tryz.prog.cellsOf 2=1:=by kernel_rfl
theorem read_chg {H:Type} {enc:TypeId × Value→H} {w:World} {base:Nat} {sp:Nat→Bool} {held:Bool} {fuel:Nat} {cs:List Value} {x:DataW H × List MemPlace}
  (h:DataW.trod enc Tryz.prog w base sp held fuel 44 cs=some x):∃ (k:Int) (a b r c d s:ByteArray),cs=[.int .i64 k,.string a,.string b,.string r,.string c,.string d,.string s] ∧
   a.size≤maxLen∧b.size≤maxLen∧r.size≤maxLen∧c.size≤maxLen∧d.size≤maxLen∧s.size≤maxLen:=by
 obtain ⟨y0,y1,n,-,hl,h0,h1⟩:=trod_struct2 Tryz.underlying44 h
 rw [cellsChg] at hl
 obtain ⟨c0,c1,c2,c3,c4,c5,c6,rfl⟩:=list7 hl
 simp only [cellsI64c,cellsTup,List.drop_zero,List.drop_succ_cons,List.take_succ_cons,List.take_zero] at h0 h1
 obtain ⟨k,e0,-,-⟩:=DataW.trod_int Tryz.underlying2 h0
 obtain ⟨a,b,r,c,d,s,e1,hh⟩:=read_tup h1
 simp at e0 e1
 subst e0
 obtain ⟨rfl,rfl,rfl,rfl,rfl,rfl⟩:=e1
 exact ⟨k,a,b,r,c,d,s,rfl,hh⟩
set_option maxRecDepth 100000 in
theorem open_chg {H:Type} {enc:TypeId × Value→H} {W w:World} {r0:Reach} {b0 base:Nat} {sp:Nat→Bool} {held:Bool} {v:Value} {d0:DataW H} {p:List MemPlace}
  (hv:Value.okWide Tryz.prog W r0 b0 44 v) (h:DataW.Trod enc Tryz.prog w base sp held 44 v d0 p):∃ (k:Int) (a b r c d s:ByteArray),v=.agg #[.int .i64 k,.string a,.string b,.string r,.string c,.string d,.string s] ∧
   a.size≤maxLen∧b.size≤maxLen∧r.size≤maxLen∧c.size≤maxLen∧d.size≤maxLen∧s.size≤maxLen:=by
 obtain ⟨cs,rfl,hsz⟩:=okWide_struct Tryz.underlying44 hv
 obtain ⟨fuel,hf⟩:=h
 obtain ⟨k,a,b,r,c,d,s,e,hh⟩:=read_chg hf
 refine ⟨k,a,b,r,c,d,s,?_,hh⟩
 simp only [Value.cells] at e
 rw [← Array.toArray_toList (xs:=cs),e]
end Go.Proofs.YtpnjoniolfmbnaaGreatDoor
