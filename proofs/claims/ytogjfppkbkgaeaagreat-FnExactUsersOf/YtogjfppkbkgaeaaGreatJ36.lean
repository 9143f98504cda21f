/- What a slice of types that can be read leads to: a schema whose strings and lists fit. -/
import Derived.Test.YtogjfppkbkgaeaaGreatJ2
import Derived.Test.YtogjfppkbkgaeaaGreatJ35
import Derived.Test.YtogjfppkbkgaeaaGreatToSchema
import Derived.Test.YtogjfppkbkgaeaaGreatRows
import Derived.OpenShut
import Derived.ShutString
import Derived.ChangeOld
import Derived.Lib.SmallJoins
import Derived.Test.YtogjfppkbkgaeaaGreatJ6
import Derived.Deep.Slices
import Derived.Test.YtogjfppkbkgaeaaGreatJ19
namespace Go.Proofs.YtogjfppkbkgaeaaGreat
open Go.ChangeShapes Go.WideShapes Go.ChangeAt Go.RowKit Go.Joins Go.Deep
section
variable {H:Type} {enc:TypeId × Value→H} {W:World} {base:Nat} {sp:Nat→Bool} {held:Bool}
theorem Gf:Tryz.prog.cellsOf 139=2:=by kernel_rfl
theorem Io:Tryz.prog.cellsOf 137=1:=by kernel_rfl
set_option maxRecDepth 100000 in
theorem MM {fuel:Nat} {cs:List Value} {x:DataW H × List MemPlace} (h:DataW.trod enc Tryz.prog W base sp held fuel 139 cs=some x) :
  ∃ r:RR,cs=[.string r.name,.slice r.ad r.rows.length r.cap]∧r.ok W∧r.fits:=by
 obtain ⟨y0,y1,n,-,hl,h0,h1⟩:=trod_struct2 Tryz.underlying139 h;rw [Gf] at hl
 match cs,hl with
 | [c0,c1],_ =>
  simp only [nY,Io,List.drop_zero,List.drop_succ_cons,List.take_succ_cons,List.take_zero] at h0 h1;obtain ⟨a,e0,-,wa⟩:=DataW.trod_string Tryz.underlying9 h0;obtain ⟨ad,len,cap,e1⟩:∃ ad len cap,c1=.slice ad len cap:=by
   rcases open_slice Tryz.underlying137 h1 with ⟨hcs,-⟩ | ⟨a,l,c,m,n,D,Pl,hcs,-⟩
   ·simp at hcs; exact ⟨_,_,_,hcs⟩
   ·simp at hcs; exact ⟨_,_,_,hcs⟩
  simp at e0;subst e0 e1;obtain ⟨rs,rfl,hs,hf,hm⟩:=Fq h1;exact ⟨⟨a,rs,ad,cap⟩,rfl,hs,wa,hm,hf⟩
theorem Ip {fuel:Nat} {ad:Option Addr} {len cap:Nat} {x:DataW H × List MemPlace} (h:DataW.trod enc Tryz.prog W base sp held fuel 60 [.slice ad len cap]=some x) :
  ∃ rs:List RR,rs.length=len∧pI W ad rs∧(∀ r ∈ rs,r.fits)∧len≤maxLen:=by
 rcases open_slice Tryz.underlying60 h with ⟨hcs,-⟩ | ⟨a,l,c,m,n,D,Pl,hcs,-,hlc,hcm,hm,-,hel⟩
 ·simp at hcs;obtain ⟨rfl,rfl,rfl⟩:=hcs;exact ⟨[],rfl,.inl rfl,(fun t ht=>by cases ht),by unfold maxLen; omega⟩
 ·simp at hcs;obtain ⟨rfl,rfl,rfl⟩:=hcs;have hle:len≤m:=by rw [hm]; split <;> omega
  by_cases h0:len=0
  ·subst h0;exact ⟨[],rfl,.inl rfl,(fun t ht=>by cases ht),by omega⟩
  have key:∀ i,i < len→∃ r:RR,(∀ j,j < 2→W.cell? ((a.add (i * 2)).add j)=[Value.string r.name,.slice r.ad r.rows.length r.cap][j]?)∧r.ok W∧r.fits:=by
   intro i hi;obtain ⟨cs',hc,hd⟩:=hel i (by omega);rw [Gf] at hc;obtain ⟨r,rfl,hh⟩:=MM hd;exact ⟨r,fun j hj=>(World.cells?_some hc).2.2 j hj,hh⟩
  have hspot:a.spot=none:=by
   obtain ⟨t,ht,-⟩:=key 0 (by omega);have:=ht 0 (by omega);have e:(a.add (0 * 2)).add 0=a:=by simp [Addr.add]
   rw [e] at this;exact World.cell?_spot this
  obtain ⟨b,off,spot⟩:=a;simp only at hspot;subst hspot;obtain ⟨f,hf⟩:=@choose_lt RR ⟨⟨⟨#[]⟩,[],none,0⟩⟩ len _ key;have at2:∀ i,i < len→AtR W b (off + i * 2) (f i):=by
   intro i hi;obtain ⟨hc,-⟩:=hf i hi;simp only [kS] at hc;exact ⟨hc 0 (by omega),hc 1 (by omega)⟩
  refine ⟨(List.range len).map f,by simp,.inr ⟨b,off,rfl,?_,?_,?_⟩,?_,by omega⟩
  ·exact World.block_lt_of_cell? W ⟨b,off + 0 * 2,none⟩ (at2 0 (by omega)).1
  ·intro i hi;have hi':i < len:=by simpa using hi
   simpa using at2 i hi'
  ·intro t ht;simp only [List.mem_map,List.mem_range] at ht;obtain ⟨i,hi,rfl⟩:=ht;exact (hf i hi).2.1
  ·intro t ht;simp only [List.mem_map,List.mem_range] at ht;obtain ⟨i,hi,rfl⟩:=ht;exact (hf i hi).2.2
theorem Gg:Tryz.prog.cellsOf 62=2:=by kernel_rfl
theorem Iq:Tryz.prog.cellsOf 60=1:=by kernel_rfl
set_option maxRecDepth 100000 in
theorem MN {fuel:Nat} {cs:List Value} {x:DataW H × List MemPlace} (h:DataW.trod enc Tryz.prog W base sp held fuel 62 cs=some x) :
  ∃ r:TR,cs=[.string r.name,.slice r.ad r.rows.length r.cap]∧r.ok W∧r.fits:=by
 obtain ⟨y0,y1,n,-,hl,h0,h1⟩:=trod_struct2 Tryz.underlying62 h;rw [Gg] at hl
 match cs,hl with
 | [c0,c1],_ =>
  simp only [nY,Iq,List.drop_zero,List.drop_succ_cons,List.take_succ_cons,List.take_zero] at h0 h1;obtain ⟨a,e0,-,wa⟩:=DataW.trod_string Tryz.underlying9 h0;obtain ⟨ad,len,cap,e1⟩:∃ ad len cap,c1=.slice ad len cap:=by
   rcases open_slice Tryz.underlying60 h1 with ⟨hcs,-⟩ | ⟨a,l,c,m,n,D,Pl,hcs,-⟩
   ·simp at hcs; exact ⟨_,_,_,hcs⟩
   ·simp at hcs; exact ⟨_,_,_,hcs⟩
  simp at e0;subst e0 e1;obtain ⟨rs,rfl,hs,hf,hm⟩:=Ip h1;exact ⟨⟨a,rs,ad,cap⟩,rfl,hs,wa,hm,hf⟩
theorem Fs {fuel:Nat} {ad:Option Addr} {len cap:Nat} {x:DataW H × List MemPlace} (h:DataW.trod enc Tryz.prog W base sp held fuel 22 [.slice ad len cap]=some x) :
  ∃ rs:List TR,rs.length=len∧fo W ad rs∧(∀ r ∈ rs,r.fits)∧len≤maxLen:=by
 rcases open_slice Tryz.underlying22 h with ⟨hcs,-⟩ | ⟨a,l,c,m,n,D,Pl,hcs,-,hlc,hcm,hm,-,hel⟩
 ·simp at hcs;obtain ⟨rfl,rfl,rfl⟩:=hcs;exact ⟨[],rfl,.inl rfl,(fun t ht=>by cases ht),by unfold maxLen; omega⟩
 ·simp at hcs;obtain ⟨rfl,rfl,rfl⟩:=hcs;have hle:len≤m:=by rw [hm]; split <;> omega
  by_cases h0:len=0
  ·subst h0;exact ⟨[],rfl,.inl rfl,(fun t ht=>by cases ht),by omega⟩
  have key:∀ i,i < len→∃ r:TR,(∀ j,j < 2→W.cell? ((a.add (i * 2)).add j)=[Value.string r.name,.slice r.ad r.rows.length r.cap][j]?)∧r.ok W∧r.fits:=by
   intro i hi;obtain ⟨cs',hc,hd⟩:=hel i (by omega);rw [Gg] at hc;obtain ⟨r,rfl,hh⟩:=MN hd;exact ⟨r,fun j hj=>(World.cells?_some hc).2.2 j hj,hh⟩
  have hspot:a.spot=none:=by
   obtain ⟨t,ht,-⟩:=key 0 (by omega);have:=ht 0 (by omega);have e:(a.add (0 * 2)).add 0=a:=by simp [Addr.add]
   rw [e] at this;exact World.cell?_spot this
  obtain ⟨b,off,spot⟩:=a;simp only at hspot;subst hspot;obtain ⟨f,hf⟩:=@choose_lt TR ⟨⟨⟨#[]⟩,[],none,0⟩⟩ len _ key;have at2:∀ i,i < len→IG W b (off + i * 2) (f i):=by
   intro i hi;obtain ⟨hc,-⟩:=hf i hi;simp only [kS] at hc;exact ⟨hc 0 (by omega),hc 1 (by omega)⟩
  refine ⟨(List.range len).map f,by simp,.inr ⟨b,off,rfl,?_,?_,?_⟩,?_,by omega⟩
  ·exact World.block_lt_of_cell? W ⟨b,off + 0 * 2,none⟩ (at2 0 (by omega)).1
  ·intro i hi;have hi':i < len:=by simpa using hi
   simpa using at2 i hi'
  ·intro t ht;simp only [List.mem_map,List.mem_range] at ht;obtain ⟨i,hi,rfl⟩:=ht;exact (hf i hi).2.1
  ·intro t ht;simp only [List.mem_map,List.mem_range] at ht;obtain ⟨i,hi,rfl⟩:=ht;exact (hf i hi).2.2
end
open Pl
set_option maxHeartbeats 1000000 in
theorem uz (r r':RR) (w:World) (he:r'.p=r.p) (hr:r.ok w) (hr':r'.ok w) (hl:r.light) :
  Calls Tryz.prog 113 #[r.val,r'.val] w fun e w'=>e=.returned (.bool true)∧Below w.heap.size w w':=by
 obtain ⟨name,rows,ad,cap⟩:=r;obtain ⟨name',rows',ad',cap'⟩:=r';simp only [RR.p,Rl.mk.injEq] at he;obtain ⟨rfl,he⟩:=he;obtain ⟨l1,l2⟩:=hl;have HO:Hid (dZ w ad rows):=hr;have HO':Hid (dZ w ad' rows'):=hr';have HL:Hid (∀ q ∈ rows,q.e.light):=l2;have HE:Hid (ag rows'=ag rows):=he;simp only at l1;simp only [RR.val];clear hr hr' l2 he;have HB:Hid (Below w.heap.size w ((w.alloc (.cells #[.string name',.slice ad rows.length cap] 115)).alloc (.cells #[.string name',.slice ad' rows'.length cap'] 115))):=((Below.refl w.heap.size w).alloc (Nat.le_refl _) _).alloc (by simp) _;go_enter Tryz.func113,Tryz.ntmps113;go_wp2_with fail;refine (zS ad ad' cap cap' rows rows' _ l1 HE.out (dZ.below HO.out HB.out) (dZ.below HO'.out HB.out) HL.out).mono ?_;rintro e w1 ⟨rfl,hb1⟩;have HB1:Hid (Below w.heap.size w w1):=HB.out.trans (hb1.mono HB.out.size);clear hb1 HB;go_wp2;go_ret;exact ⟨rfl,HB1.out⟩
theorem MO {wr W w':World} {b b' o o':Nat} {x0 x1 y0 y1:Value} (h:W.cell? ⟨b,o,none⟩=some x0∧W.cell? ⟨b,o + 1,none⟩=some x1∧W.cell? ⟨b',o',none⟩=some y0∧W.cell? ⟨b',o' + 1,none⟩=some y1∧b < W.heap.size∧b' < W.heap.size∧Below wr.heap.size wr W) (hb:Below W.heap.size W w') :
  w'.cell? ⟨b,o,none⟩=some x0∧w'.cell? ⟨b,o + 1,none⟩=some x1∧w'.cell? ⟨b',o',none⟩=some y0∧w'.cell? ⟨b',o' + 1,none⟩=some y1∧b < w'.heap.size∧b' < w'.heap.size∧Below wr.heap.size wr w':=Fu h hb
theorem Gh {wr W:World} {b b' o o':Nat} {x0 x1 y0 y1:Value} (h:W.cell? ⟨b,o,none⟩=some x0∧W.cell? ⟨b,o + 1,none⟩=some x1∧W.cell? ⟨b',o',none⟩=some y0∧W.cell? ⟨b',o' + 1,none⟩=some y1∧b < W.heap.size∧b' < W.heap.size∧Below wr.heap.size wr W):Below wr.heap.size wr W:=h.2.2.2.2.2.2
set_option maxHeartbeats 2000000 in
theorem sO (ad ad':Option Addr) (cap cap':Nat) (rs rs':List RR) (w:World) (hlen:rs.length≤1048576) (he:bR rs'=bR rs) (hs:pI w ad rs) (hs':pI w ad' rs') (hl:∀ r ∈ rs,r.light) :
  Calls Tryz.prog 73 #[.slice ad rs.length cap,.slice ad' rs'.length cap'] w fun e w'=>e=.returned (.bool true)∧Below w.heap.size w w':=by
 have hll:rs'.length=rs.length:=by rw [← fI,he,fI]
 have HSL:Hid (pI w ad rs):=hs;have HSM:Hid (pI w ad' rs'):=hs';have HLI:Hid (∀ r ∈ rs,r.light):=hl;have HEE:Hid (bR rs'=bR rs):=he;have HLL:Hid (rs'.length=rs.length):=hll;rw [hll];clear hs hs' hl he hll;go_enter Tryz.func73,Tryz.ntmps73;go_wp2;go_loopw [5] (fun i wr=>∃ k:Nat,k≤rs.length∧i=.int .i64 k∧Below w.heap.size w wr) (fun i _=>rs.length - (intOf i).toNat);case atStart=>exact ⟨0,Nat.zero_le _,rfl,Below.refl _ _⟩
 case round =>
  obtain ⟨k,hk,rfl,hB⟩:=hrel;by_cases hlt:k < rs.length
  ·have hlt':k < rs'.length:=by rw [HLL.out]; exact hlt
   rcases HSL.out.below hB with rfl | ⟨b,off,rfl,hb,hr,hok⟩
   ·simp at hlt
   rcases HSM.out.below hB with rfl | ⟨b',off',rfl,hb',hr',hok'⟩
   ·simp at hlt'
   obtain ⟨t0,t1⟩:=hr k hlt;obtain ⟨q0,q1⟩:=hr' k hlt';have HK1:Hid (rs[k].ok wr):=hok rs[k] (List.getElem_mem hlt);have HK2:Hid (rs'[k].ok wr):=hok' rs'[k] (List.getElem_mem hlt');have HK3:Hid (rs'[k].p=rs[k].p):=by
    have h1:(bR rs')[k]?=(bR rs)[k]?:=by rw [HEE.out]
    show _=_;simpa [bR,hlt,hlt'] using h1
   have HK4:Hid (rs[k].light):=HLI.out rs[k] (List.getElem_mem hlt);have hk1:(0:Int)≤(k:Int):=by omega
   have hk2:(k:Int) < (rs.length:Int):=by omega
   clear hr hr' hok hok';go_wp2_with fail
   go_region_held3 (fun w'=>w'.cell? ⟨b,off + k * 2,none⟩=some (.string rs[k].name)∧w'.cell? ⟨b,off + k * 2 + 1,none⟩=some (.slice rs[k].ad rs[k].rows.length rs[k].cap)∧w'.cell? ⟨b',off' + k * 2,none⟩=some (.string rs'[k].name)∧w'.cell? ⟨b',off' + k * 2 + 1,none⟩=some (.slice rs'[k].ad rs'[k].rows.length rs'[k].cap)∧b < w'.heap.size∧b' < w'.heap.size∧Below wr.heap.size wr w')
    (first | assumption | exact MO (by assumption) hbx | exact ⟨t0,t1,q0,q1,hb,hb',(Below.refl _ _).drew⟩)
    (first | (go_at_call 113; refine (uz rs[k] rs'[k] _ HK3.out (HK1.out.below (Gh (by assumption))) (HK2.out.below (Gh (by assumption))) HK4.out).mono ?_; rintro e w' ⟨rfl,hbx⟩))
   rename_i hH;obtain ⟨-,-,-,-,-,-,gB⟩:=hH;clear t0 t1 q0 q1 hb hb';go_wp2;go_roundw;case rel=>exact ⟨k + 1,by omega,by go_num,hB.trans (gB.mono hB.size)⟩
   case measure=>simp [intOf]; omega
  ·go_wp2;go_ret;exact ⟨rfl,hB⟩
set_option maxHeartbeats 1000000 in
theorem Dm (r r':TR) (w:World) (he:r'.p=r.p) (hr:r.ok w) (hr':r'.ok w) (hl:r.light) :
  Calls Tryz.prog 45 #[r.val,r'.val] w fun e w'=>e=.returned (.bool true)∧Below w.heap.size w w':=by
 obtain ⟨name,rows,ad,cap⟩:=r;obtain ⟨name',rows',ad',cap'⟩:=r';simp only [TR.p,Ty.mk.injEq] at he;obtain ⟨rfl,he⟩:=he;obtain ⟨l1,l2⟩:=hl;have HO:Hid (pI w ad rows):=hr;have HO':Hid (pI w ad' rows'):=hr';have HL:Hid (∀ q ∈ rows,q.light):=l2;have HE:Hid (bR rows'=bR rows):=he;simp only at l1;simp only [TR.val];clear hr hr' l2 he;have HB:Hid (Below w.heap.size w ((w.alloc (.cells #[.string name',.slice ad rows.length cap] 70)).alloc (.cells #[.string name',.slice ad' rows'.length cap'] 70))):=((Below.refl w.heap.size w).alloc (Nat.le_refl _) _).alloc (by simp) _;go_enter Tryz.func45,Tryz.ntmps45;go_wp2_with fail;refine (sO ad ad' cap cap' rows rows' _ l1 HE.out (pI.below HO.out HB.out) (pI.below HO'.out HB.out) HL.out).mono ?_;rintro e w1 ⟨rfl,hb1⟩;have HB1:Hid (Below w.heap.size w w1):=HB.out.trans (hb1.mono HB.out.size);clear hb1 HB;go_wp2;go_ret;exact ⟨rfl,HB1.out⟩
theorem MP {wr W w':World} {b b' o o':Nat} {x0 x1 y0 y1:Value} (h:W.cell? ⟨b,o,none⟩=some x0∧W.cell? ⟨b,o + 1,none⟩=some x1∧W.cell? ⟨b',o',none⟩=some y0∧W.cell? ⟨b',o' + 1,none⟩=some y1∧b < W.heap.size∧b' < W.heap.size∧Below wr.heap.size wr W) (hb:Below W.heap.size W w') :
  w'.cell? ⟨b,o,none⟩=some x0∧w'.cell? ⟨b,o + 1,none⟩=some x1∧w'.cell? ⟨b',o',none⟩=some y0∧w'.cell? ⟨b',o' + 1,none⟩=some y1∧b < w'.heap.size∧b' < w'.heap.size∧Below wr.heap.size wr w':=Fu h hb
theorem Gi {wr W:World} {b b' o o':Nat} {x0 x1 y0 y1:Value} (h:W.cell? ⟨b,o,none⟩=some x0∧W.cell? ⟨b,o + 1,none⟩=some x1∧W.cell? ⟨b',o',none⟩=some y0∧W.cell? ⟨b',o' + 1,none⟩=some y1∧b < W.heap.size∧b' < W.heap.size∧Below wr.heap.size wr W):Below wr.heap.size wr W:=h.2.2.2.2.2.2
set_option maxHeartbeats 2000000 in
theorem Bl (ad ad':Option Addr) (cap cap':Nat) (rs rs':List TR) (w:World) (hlen:rs.length≤1048576) (he:af rs'=af rs) (hs:fo w ad rs) (hs':fo w ad' rs') (hl:∀ r ∈ rs,r.light) :
  Calls Tryz.prog 14 #[.slice ad rs.length cap,.slice ad' rs'.length cap'] w fun e w'=>e=.returned (.bool true)∧Below w.heap.size w w':=by
 have hll:rs'.length=rs.length:=by rw [← fB,he,fB]
 have HSL:Hid (fo w ad rs):=hs;have HSM:Hid (fo w ad' rs'):=hs';have HLI:Hid (∀ r ∈ rs,r.light):=hl;have HEE:Hid (af rs'=af rs):=he;have HLL:Hid (rs'.length=rs.length):=hll;rw [hll];clear hs hs' hl he hll;go_enter Tryz.func14,Tryz.ntmps14;go_wp2;go_loopw [5] (fun i wr=>∃ k:Nat,k≤rs.length∧i=.int .i64 k∧Below w.heap.size w wr) (fun i _=>rs.length - (intOf i).toNat);case atStart=>exact ⟨0,Nat.zero_le _,rfl,Below.refl _ _⟩
 case round =>
  obtain ⟨k,hk,rfl,hB⟩:=hrel;by_cases hlt:k < rs.length
  ·have hlt':k < rs'.length:=by rw [HLL.out]; exact hlt
   rcases HSL.out.below hB with rfl | ⟨b,off,rfl,hb,hr,hok⟩
   ·simp at hlt
   rcases HSM.out.below hB with rfl | ⟨b',off',rfl,hb',hr',hok'⟩
   ·simp at hlt'
   obtain ⟨t0,t1⟩:=hr k hlt;obtain ⟨q0,q1⟩:=hr' k hlt';have HK1:Hid (rs[k].ok wr):=hok rs[k] (List.getElem_mem hlt);have HK2:Hid (rs'[k].ok wr):=hok' rs'[k] (List.getElem_mem hlt');have HK3:Hid (rs'[k].p=rs[k].p):=by
    have h1:(af rs')[k]?=(af rs)[k]?:=by rw [HEE.out]
    show _=_;simpa [af,hlt,hlt'] using h1
   have HK4:Hid (rs[k].light):=HLI.out rs[k] (List.getElem_mem hlt);have hk1:(0:Int)≤(k:Int):=by omega
   have hk2:(k:Int) < (rs.length:Int):=by omega
   clear hr hr' hok hok';go_wp2_with fail
   go_region_held3 (fun w'=>w'.cell? ⟨b,off + k * 2,none⟩=some (.string rs[k].name)∧w'.cell? ⟨b,off + k * 2 + 1,none⟩=some (.slice rs[k].ad rs[k].rows.length rs[k].cap)∧w'.cell? ⟨b',off' + k * 2,none⟩=some (.string rs'[k].name)∧w'.cell? ⟨b',off' + k * 2 + 1,none⟩=some (.slice rs'[k].ad rs'[k].rows.length rs'[k].cap)∧b < w'.heap.size∧b' < w'.heap.size∧Below wr.heap.size wr w')
    (first | assumption | exact MP (by assumption) hbx | exact ⟨t0,t1,q0,q1,hb,hb',(Below.refl _ _).drew⟩)
    (first | (go_at_call 45; refine (Dm rs[k] rs'[k] _ HK3.out (HK1.out.below (Gi (by assumption))) (HK2.out.below (Gi (by assumption))) HK4.out).mono ?_; rintro e w' ⟨rfl,hbx⟩))
   rename_i hH;obtain ⟨-,-,-,-,-,-,gB⟩:=hH;clear t0 t1 q0 q1 hb hb';go_wp2;go_roundw;case rel=>exact ⟨k + 1,by omega,by go_num,hB.trans (gB.mono hB.size)⟩
   case measure=>simp [intOf]; omega
  ·go_wp2;go_ret;exact ⟨rfl,hB⟩
theorem Nj {α:Type} {l:List α} (h:l.length=2):∃ a b,l=[a,b]:=by
 match l,h with
 | [a,b],_=>exact ⟨a,b,rfl⟩
theorem Nk {α:Type} {l:List α} (h:l.length=6):∃ a b c d e f,l=[a,b,c,d,e,f]:=by
 match l,h with
 | [a,b,c,d,e,f],_=>exact ⟨a,b,c,d,e,f,rfl⟩
theorem Dn:Tryz.prog.cellsOf 40=2:=by kernel_rfl
theorem Dq:Tryz.prog.cellsOf 65=6:=by kernel_rfl
theorem Dr:Tryz.prog.cellsOf 9=1:=by kernel_rfl
theorem xG {H:Type} {enc:TypeId × Value→H} {w:World} {base:Nat} {sp:Nat→Bool} {held:Bool} {fuel:Nat} {cs:List Value} {x:DataW H × List MemPlace}
  (h:DataW.trod enc Tryz.prog w base sp held fuel 40 cs=some x):∃ a b:ByteArray,cs=[.string a,.string b]∧a.size≤maxLen∧b.size≤maxLen:=by
 obtain ⟨y0,y1,n,-,hl,h0,h1⟩:=trod_struct2 Tryz.underlying40 h;rw [Dn] at hl;obtain ⟨c0,c1,rfl⟩:=Nj hl;simp only [Dr,List.drop_zero,List.drop_succ_cons,List.take_succ_cons,List.take_zero] at h0 h1;obtain ⟨a,e0,-,wa⟩:=DataW.trod_string Tryz.underlying9 h0;obtain ⟨b,e1,-,wb⟩:=DataW.trod_string Tryz.underlying9 h1;simp at e0 e1;subst e0 e1;exact ⟨a,b,rfl,wa,wb⟩
theorem Ku {H:Type} {enc:TypeId × Value→H} {w:World} {base:Nat} {sp:Nat→Bool} {held:Bool} {fuel:Nat} {cs:List Value} {x:DataW H × List MemPlace}
  (h:DataW.trod enc Tryz.prog w base sp held fuel 65 cs=some x):∃ a b r c d s:ByteArray,cs=[.string a,.string b,.string r,.string c,.string d,.string s] ∧
   a.size≤maxLen∧b.size≤maxLen∧r.size≤maxLen∧c.size≤maxLen∧d.size≤maxLen∧s.size≤maxLen:=by
 obtain ⟨y0,y1,y2,y3,n,-,hl,h0,h1,h2,h3⟩:=trod_struct4 Tryz.underlying65 h;rw [Dq] at hl;obtain ⟨c0,c1,c2,c3,c4,c5,rfl⟩:=Nk hl;simp only [Dr,Dn,List.drop_zero,List.drop_succ_cons,List.take_succ_cons,List.take_zero] at h0 h1 h2 h3;obtain ⟨a,b,e0,wa,wb⟩:=xG h0;obtain ⟨r,e1,-,wr⟩:=DataW.trod_string Tryz.underlying9 h1;obtain ⟨c,d,e2,wc,wd⟩:=xG h2;obtain ⟨s,e3,-,ws⟩:=DataW.trod_string Tryz.underlying9 h3;simp at e0 e1 e2 e3;obtain ⟨rfl,rfl⟩:=e0;obtain ⟨rfl,rfl⟩:=e2;subst e1 e3;exact ⟨a,b,r,c,d,s,rfl,wa,wb,wr,wc,wd,ws⟩
theorem Ir (b off x:Nat):(⟨b,off,none⟩:Addr).add x=⟨b,off + x,none⟩:=by
 unfold Addr.add;by_cases h:x=0
 ·subst h; simp
 ·simp [h]
theorem Iu {H:Type} {enc:TypeId × Value→H} {W:World} {base:Nat} {sp:Nat→Bool} {held:Bool} {fuel:Nat} {ad:Option Addr} {len cap:Nat} {x:DataW H × List MemPlace}
  (h:DataW.trod enc Tryz.prog W base sp held fuel 23 [.slice ad len cap]=some x):∃ ts:List Tp,ts.length=len∧Sl W ad ts∧(∀ t ∈ ts,t.fits)∧len≤maxLen:=by
 rcases open_slice Tryz.underlying23 h with ⟨hcs,-⟩ | ⟨a,l,c,m,n,D,Pl,hcs,-,hlc,hcm,hm,-,hel⟩
 ·simp at hcs;obtain ⟨rfl,rfl,rfl⟩:=hcs;exact ⟨[],rfl,.inl rfl,(fun t ht=>by cases ht),by unfold maxLen; omega⟩
 ·simp at hcs;obtain ⟨rfl,rfl,rfl⟩:=hcs;have hle:len≤m:=by rw [hm]; split <;> omega
  by_cases h0:len=0
  ·subst h0;exact ⟨[],rfl,.inl rfl,(fun t ht=>by cases ht),by omega⟩
  have key:∀ i,i < len→∃ t:Tp,(∀ j,j < 6→W.cell? ((a.add (i * 6)).add j)=[Value.string t.a,.string t.b,.string t.r,.string t.c,.string t.d,.string t.s][j]?)∧t.fits:=by
   intro i hi;obtain ⟨cs',hc,hd⟩:=hel i (by omega);rw [Dq] at hc;obtain ⟨ta,tb,tr,tc,td,ts,rfl,hh⟩:=Ku hd;exact ⟨⟨ta,tb,tr,tc,td,ts⟩,fun j hj=>(World.cells?_some hc).2.2 j hj,hh⟩
  have hspot:a.spot=none:=by
   obtain ⟨t,ht,-⟩:=key 0 (by omega);have:=ht 0 (by omega);have e:(a.add (0 * 6)).add 0=a:=by simp [Addr.add]
   rw [e] at this;exact World.cell?_spot this
  obtain ⟨b,off,spot⟩:=a;simp only at hspot;subst hspot;obtain ⟨f,hf⟩:=@choose_lt Tp ⟨⟨⟨#[]⟩,⟨#[]⟩,⟨#[]⟩,⟨#[]⟩,⟨#[]⟩,⟨#[]⟩⟩⟩ len _ key;have at6:∀ i,i < len→I5 W b (off + i * 6) (f i):=by
   intro i hi;obtain ⟨hc,-⟩:=hf i hi;simp only [Ir] at hc;exact ⟨hc 0 (by omega),hc 1 (by omega),hc 2 (by omega),hc 3 (by omega),hc 4 (by omega),hc 5 (by omega)⟩
  refine ⟨(List.range len).map f,by simp,.inr ⟨b,off,rfl,?_,?_⟩,?_,by omega⟩
  ·exact World.block_lt_of_cell? W ⟨b,off + 0 * 6,none⟩ (at6 0 (by omega)).1
  ·intro i hi;have hi':i < len:=by simpa using hi
   simpa using at6 i hi'
  ·intro t ht;simp only [List.mem_map,List.mem_range] at ht;obtain ⟨i,hi,rfl⟩:=ht;exact (hf i hi).2
set_option maxRecDepth 100000
theorem yx (ad ad':Option Addr) (cap cap':Nat) (w:World) :
  Calls Tryz.prog 15 #[.slice ad 0 cap,.slice ad' 0 cap'] w fun e w'=>e=.returned (.bool true)∧Below w.heap.size w w':=by
 go_enter Tryz.func15,Tryz.ntmps15;go_wp2;refine wp_loop_rounds 1 ?_;rw [rounds_succ];go_wp2;go_ret;exact ⟨rfl,Below.refl _ _⟩
theorem Bn (ad ad':Option Addr) (cap cap':Nat) (ts:List Tp) (w:World) (hlen:ts.length≤maxLen) (hs:Sl w ad ts) (hs':Sl w ad' ts) :
  Calls Tryz.prog 15 #[.slice ad ts.length cap,.slice ad' ts.length cap'] w fun e w'=>e=.returned (.bool true)∧Below w.heap.size w w':=by
 by_cases h:ts=[]
 ·subst h; exact yx ad ad' cap cap' w
 ·rcases hs with h1 | ⟨b,off,rfl,hb,hr⟩
  ·exact absurd h1 h
  rcases hs' with h1 | ⟨b',off',rfl,hb',hr'⟩
  ·exact absurd h1 h
  exact xU b b' off off' cap cap' ts w hlen hr hb hr' hb'
end Go.Proofs.YtogjfppkbkgaeaaGreat
