/- What a slice of types that can be read leads to: a schema whose strings and lists fit. -/
import Derived.Test.YtdaoiceeidoehaaGreatJ35
import Derived.Test.YtdaoiceeidoehaaGreatJ18
open Go.Proofs.Tryz
set_option maxHeartbeats 80000000
namespace Go.Proofs.YtdaoiceeidoehaaGreat
open Go.ChangeShapes Go.WideShapes Go.ChangeAt Go.RowKit Go.Joins Go.Deep
section
variable {H:Type} {enc:TypeId × Value→H} {W:World} {base:Nat} {sp:Nat→Bool} {held:Bool}
theorem Fg:prog.cellsOf 157=2:=by kernel_rfl
theorem GQ:prog.cellsOf 155=1:=by kernel_rfl
set_option maxRecDepth 100000 in
theorem LC {fuel:Nat} {cs:List Value} {x:DataW H × List MemPlace} (h:DataW.trod enc prog W base sp held fuel 157 cs=some x) :
  ∃ r:RR,cs=[.string r.name,.slice r.ad r.rows.length r.cap]∧r.ok W∧r.fits:=by
 obtain ⟨y0,y1,n,-,hl,h0,h1⟩:=trod_struct2 underlying157 h;rw [Fg] at hl
 match cs,hl with
 | [c0,c1],_ =>
  simp only [nu,GQ,List.drop_zero,List.drop_succ_cons,List.take_succ_cons,List.take_zero] at h0 h1;obtain ⟨a,e0,-,wa⟩:=DataW.trod_string underlying9 h0;obtain ⟨ad,len,cap,e1⟩:∃ ad len cap,c1=.slice ad len cap:=by
   rcases open_slice underlying155 h1 with ⟨hcs,-⟩ | ⟨a,l,c,m,n,D,Pl,hcs,-⟩
   ·simp at hcs; exact ⟨_,_,_,hcs⟩
   ·simp at hcs; exact ⟨_,_,_,hcs⟩
  simp at e0;subst e0 e1;obtain ⟨rs,rfl,hs,hf,hm⟩:=Et h1;exact ⟨⟨a,rs,ad,cap⟩,rfl,hs,wa,hm,hf⟩
theorem GR {fuel:Nat} {ad:Option Addr} {len cap:Nat} {x:DataW H × List MemPlace} (h:DataW.trod enc prog W base sp held fuel 57 [.slice ad len cap]=some x) :
  ∃ rs:List RR,rs.length=len∧oL W ad rs∧(∀ r ∈ rs,r.fits)∧len≤maxLen:=by
 rcases open_slice underlying57 h with ⟨hcs,-⟩ | ⟨a,l,c,m,n,D,Pl,hcs,-,hlc,hcm,hm,-,hel⟩
 ·simp at hcs;obtain ⟨rfl,rfl,rfl⟩:=hcs;exact ⟨[],rfl,.inl rfl,(fun t ht=>by cases ht),by unfold maxLen; omega⟩
 ·simp at hcs;obtain ⟨rfl,rfl,rfl⟩:=hcs;have hle:len≤m:=by rw [hm]; split <;> omega
  by_cases h0:len=0
  ·subst h0;exact ⟨[],rfl,.inl rfl,(fun t ht=>by cases ht),by omega⟩
  have key:∀ i,i < len→∃ r:RR,(∀ j,j < 2→W.cell? ((a.add (i * 2)).add j)=[Value.string r.name,.slice r.ad r.rows.length r.cap][j]?)∧r.ok W∧r.fits:=by
   intro i hi;obtain ⟨cs',hc,hd⟩:=hel i (by omega);rw [Fg] at hc;obtain ⟨r,rfl,hh⟩:=LC hd;exact ⟨r,fun j hj=>(World.cells?_some hc).2.2 j hj,hh⟩
  have hspot:a.spot=none:=by
   obtain ⟨t,ht,-⟩:=key 0 (by omega);have:=ht 0 (by omega);have e:(a.add (0 * 2)).add 0=a:=by simp [Addr.add]
   rw [e] at this;exact World.cell?_spot this
  obtain ⟨b,off,spot⟩:=a;simp only at hspot;subst hspot;obtain ⟨f,hf⟩:=@choose_lt RR ⟨⟨⟨#[]⟩,[],none,0⟩⟩ len _ key;have at2:∀ i,i < len→AtR W b (off + i * 2) (f i):=by
   intro i hi;obtain ⟨hc,-⟩:=hf i hi;simp only [j6] at hc;exact ⟨hc 0 (by omega),hc 1 (by omega)⟩
  refine ⟨(List.range len).map f,by simp,.inr ⟨b,off,rfl,?_,?_,?_⟩,?_,by omega⟩
  ·exact World.block_lt_of_cell? W ⟨b,off + 0 * 2,none⟩ (at2 0 (by omega)).1
  ·intro i hi;have hi':i < len:=by simpa using hi
   simpa using at2 i hi'
  ·intro t ht;simp only [List.mem_map,List.mem_range] at ht;obtain ⟨i,hi,rfl⟩:=ht;exact (hf i hi).2.1
  ·intro t ht;simp only [List.mem_map,List.mem_range] at ht;obtain ⟨i,hi,rfl⟩:=ht;exact (hf i hi).2.2
theorem Fh:prog.cellsOf 59=2:=by kernel_rfl
theorem GU:prog.cellsOf 57=1:=by kernel_rfl
set_option maxRecDepth 100000 in
theorem LD {fuel:Nat} {cs:List Value} {x:DataW H × List MemPlace} (h:DataW.trod enc prog W base sp held fuel 59 cs=some x) :
  ∃ r:TR,cs=[.string r.name,.slice r.ad r.rows.length r.cap]∧r.ok W∧r.fits:=by
 obtain ⟨y0,y1,n,-,hl,h0,h1⟩:=trod_struct2 underlying59 h;rw [Fh] at hl
 match cs,hl with
 | [c0,c1],_ =>
  simp only [nu,GU,List.drop_zero,List.drop_succ_cons,List.take_succ_cons,List.take_zero] at h0 h1;obtain ⟨a,e0,-,wa⟩:=DataW.trod_string underlying9 h0;obtain ⟨ad,len,cap,e1⟩:∃ ad len cap,c1=.slice ad len cap:=by
   rcases open_slice underlying57 h1 with ⟨hcs,-⟩ | ⟨a,l,c,m,n,D,Pl,hcs,-⟩
   ·simp at hcs; exact ⟨_,_,_,hcs⟩
   ·simp at hcs; exact ⟨_,_,_,hcs⟩
  simp at e0;subst e0 e1;obtain ⟨rs,rfl,hs,hf,hm⟩:=GR h1;exact ⟨⟨a,rs,ad,cap⟩,rfl,hs,wa,hm,hf⟩
theorem Eu {fuel:Nat} {ad:Option Addr} {len cap:Nat} {x:DataW H × List MemPlace} (h:DataW.trod enc prog W base sp held fuel 22 [.slice ad len cap]=some x) :
  ∃ rs:List TR,rs.length=len∧eY W ad rs∧(∀ r ∈ rs,r.fits)∧len≤maxLen:=by
 rcases open_slice underlying22 h with ⟨hcs,-⟩ | ⟨a,l,c,m,n,D,Pl,hcs,-,hlc,hcm,hm,-,hel⟩
 ·simp at hcs;obtain ⟨rfl,rfl,rfl⟩:=hcs;exact ⟨[],rfl,.inl rfl,(fun t ht=>by cases ht),by unfold maxLen; omega⟩
 ·simp at hcs;obtain ⟨rfl,rfl,rfl⟩:=hcs;have hle:len≤m:=by rw [hm]; split <;> omega
  by_cases h0:len=0
  ·subst h0;exact ⟨[],rfl,.inl rfl,(fun t ht=>by cases ht),by omega⟩
  have key:∀ i,i < len→∃ r:TR,(∀ j,j < 2→W.cell? ((a.add (i * 2)).add j)=[Value.string r.name,.slice r.ad r.rows.length r.cap][j]?)∧r.ok W∧r.fits:=by
   intro i hi;obtain ⟨cs',hc,hd⟩:=hel i (by omega);rw [Fh] at hc;obtain ⟨r,rfl,hh⟩:=LD hd;exact ⟨r,fun j hj=>(World.cells?_some hc).2.2 j hj,hh⟩
  have hspot:a.spot=none:=by
   obtain ⟨t,ht,-⟩:=key 0 (by omega);have:=ht 0 (by omega);have e:(a.add (0 * 2)).add 0=a:=by simp [Addr.add]
   rw [e] at this;exact World.cell?_spot this
  obtain ⟨b,off,spot⟩:=a;simp only at hspot;subst hspot;obtain ⟨f,hf⟩:=@choose_lt TR ⟨⟨⟨#[]⟩,[],none,0⟩⟩ len _ key;have at2:∀ i,i < len→KP W b (off + i * 2) (f i):=by
   intro i hi;obtain ⟨hc,-⟩:=hf i hi;simp only [j6] at hc;exact ⟨hc 0 (by omega),hc 1 (by omega)⟩
  refine ⟨(List.range len).map f,by simp,.inr ⟨b,off,rfl,?_,?_,?_⟩,?_,by omega⟩
  ·exact World.block_lt_of_cell? W ⟨b,off + 0 * 2,none⟩ (at2 0 (by omega)).1
  ·intro i hi;have hi':i < len:=by simpa using hi
   simpa using at2 i hi'
  ·intro t ht;simp only [List.mem_map,List.mem_range] at ht;obtain ⟨i,hi,rfl⟩:=ht;exact (hf i hi).2.1
  ·intro t ht;simp only [List.mem_map,List.mem_range] at ht;obtain ⟨i,hi,rfl⟩:=ht;exact (hf i hi).2.2
end
open Pl
theorem sQ (r r':RR) (w:World) (he:r'.p=r.p) (hr:r.ok w) (hr':r'.ok w) (hl:r.light) :
  Calls prog 101 #[r.val,r'.val] w fun e w'=>e=.returned (.bool true)∧Below w.heap.size w w':=by
 obtain ⟨name,rows,ad,cap⟩:=r;obtain ⟨name',rows',ad',cap'⟩:=r';simp only [RR.p,Rl.mk.injEq] at he;obtain ⟨rfl,he⟩:=he;obtain ⟨l1,l2⟩:=hl;have HO:Hid (dw w ad rows):=hr;have HO':Hid (dw w ad' rows'):=hr';have HL:Hid (∀ q ∈ rows,q.e.light):=l2;have HE:Hid (ah rows'=ah rows):=he;simp only at l1;simp only [RR.val];clear hr hr' l2 he;have HB:Hid (Below w.heap.size w ((w.alloc (.cells #[.string name',.slice ad rows.length cap] 152)).alloc (.cells #[.string name',.slice ad' rows'.length cap'] 152))):=((Below.refl w.heap.size w).alloc (Nat.le_refl _) _).alloc (by simp) _;go_enter func101,ntmps101;go_wp2_with fail;refine (yK ad ad' cap cap' rows rows' _ l1 HE.out (dw.below HO.out HB.out) (dw.below HO'.out HB.out) HL.out).mono ?_;rintro e w1 ⟨rfl,hb1⟩;have HB1:=fK HB hb1;clear hb1 HB;go_wp2;go_ret;exact ⟨rfl,HB1.out⟩
theorem LF {wr W w':World} {b b' o o':Nat} {x0 x1 y0 y1:Value} (h:W.cell? ⟨b,o,none⟩=some x0∧W.cell? ⟨b,o + 1,none⟩=some x1∧W.cell? ⟨b',o',none⟩=some y0∧W.cell? ⟨b',o' + 1,none⟩=some y1∧b < W.heap.size∧b' < W.heap.size∧Below wr.heap.size wr W) (hb:Below W.heap.size W w') :
  w'.cell? ⟨b,o,none⟩=some x0∧w'.cell? ⟨b,o + 1,none⟩=some x1∧w'.cell? ⟨b',o',none⟩=some y0∧w'.cell? ⟨b',o' + 1,none⟩=some y1∧b < w'.heap.size∧b' < w'.heap.size∧Below wr.heap.size wr w':=He h hb
theorem Fj {wr W:World} {b b' o o':Nat} {x0 x1 y0 y1:Value} (h:W.cell? ⟨b,o,none⟩=some x0∧W.cell? ⟨b,o + 1,none⟩=some x1∧W.cell? ⟨b',o',none⟩=some y0∧W.cell? ⟨b',o' + 1,none⟩=some y1∧b < W.heap.size∧b' < W.heap.size∧Below wr.heap.size wr W):Below wr.heap.size wr W:=h.2.2.2.2.2.2
theorem rD (ad ad':Option Addr) (cap cap':Nat) (rs rs':List RR) (w:World) (hlen:rs.length≤1048576) (he:cB rs'=cB rs) (hs:oL w ad rs) (hs':oL w ad' rs') (hl:∀ r ∈ rs,r.light) :
  Calls prog 68 #[.slice ad rs.length cap,.slice ad' rs'.length cap'] w fun e w'=>e=.returned (.bool true)∧Below w.heap.size w w':=by
 have hll:rs'.length=rs.length:=by rw [← fF,he,fF]
 have HSL:Hid (oL w ad rs):=hs;have HSM:Hid (oL w ad' rs'):=hs';have HLI:Hid (∀ r ∈ rs,r.light):=hl;have HEE:Hid (cB rs'=cB rs):=he;have HLL:Hid (rs'.length=rs.length):=hll;rw [hll];clear hs hs' hl he hll;go_enter func68,ntmps68;go_wp2;go_loopw [5] (fun i wr=>∃ k:Nat,k≤rs.length∧i=.int .i64 k∧Below w.heap.size w wr) (fun i _=>rs.length - (intOf i).toNat);case atStart=>exact ⟨0,Nat.zero_le _,rfl,Below.refl _ _⟩
 case round =>
  obtain ⟨k,hk,rfl,hB⟩:=hrel;by_cases hlt:k < rs.length
  ·have hlt':k < rs'.length:=by rw [HLL.out]; exact hlt
   rcases HSL.out.below hB with rfl | ⟨b,off,rfl,hb,hr,hok⟩
   ·simp at hlt
   rcases HSM.out.below hB with rfl | ⟨b',off',rfl,hb',hr',hok'⟩
   ·simp at hlt'
   obtain ⟨t0,t1⟩:=hr k hlt;obtain ⟨q0,q1⟩:=hr' k hlt';have HK1:Hid (rs[k].ok wr):=hok rs[k] (List.getElem_mem hlt);have HK2:Hid (rs'[k].ok wr):=hok' rs'[k] (List.getElem_mem hlt');have HK3:Hid (rs'[k].p=rs[k].p):=by
    have h1:(cB rs')[k]?=(cB rs)[k]?:=by rw [HEE.out]
    show _=_;simpa [cB,hlt,hlt'] using h1
   have HK4:Hid (rs[k].light):=HLI.out rs[k] (List.getElem_mem hlt);have hk1:=aY k;have hk2:(k:Int) < (rs.length:Int):=by omega
   clear hr hr' hok hok';go_wp2_with fail
   go_region_held3 (fun w'=>w'.cell? ⟨b,off + k * 2,none⟩=some (.string rs[k].name)∧w'.cell? ⟨b,off + k * 2 + 1,none⟩=some (.slice rs[k].ad rs[k].rows.length rs[k].cap)∧w'.cell? ⟨b',off' + k * 2,none⟩=some (.string rs'[k].name)∧w'.cell? ⟨b',off' + k * 2 + 1,none⟩=some (.slice rs'[k].ad rs'[k].rows.length rs'[k].cap)∧b < w'.heap.size∧b' < w'.heap.size∧Below wr.heap.size wr w')
    (first | assumption | exact LF (by assumption) hbx | exact ⟨t0,t1,q0,q1,hb,hb',(Below.refl _ _).drew⟩)
    (first | (go_at_call 101; refine (sQ rs[k] rs'[k] _ HK3.out (HK1.out.below (Fj (by assumption))) (HK2.out.below (Fj (by assumption))) HK4.out).mono ?_; rintro e w' ⟨rfl,hbx⟩))
   rename_i hH;obtain ⟨-,-,-,-,-,-,gB⟩:=hH;clear t0 t1 q0 q1 hb hb';go_wp2;go_roundw;case rel=>exact ⟨k + 1,by omega,by go_num,hB.trans (gB.mono hB.size)⟩
   case measure=>simp [intOf]; omega
  ·go_wp2;go_ret;exact ⟨rfl,hB⟩
theorem Cr (r r':TR) (w:World) (he:r'.p=r.p) (hr:r.ok w) (hr':r'.ok w) (hl:r.light) :
  Calls prog 42 #[r.val,r'.val] w fun e w'=>e=.returned (.bool true)∧Below w.heap.size w w':=by
 obtain ⟨name,rows,ad,cap⟩:=r;obtain ⟨name',rows',ad',cap'⟩:=r';simp only [TR.p,Ty.mk.injEq] at he;obtain ⟨rfl,he⟩:=he;obtain ⟨l1,l2⟩:=hl;have HO:Hid (oL w ad rows):=hr;have HO':Hid (oL w ad' rows'):=hr';have HL:Hid (∀ q ∈ rows,q.light):=l2;have HE:Hid (cB rows'=cB rows):=he;simp only at l1;simp only [TR.val];clear hr hr' l2 he;have HB:Hid (Below w.heap.size w ((w.alloc (.cells #[.string name',.slice ad rows.length cap] 70)).alloc (.cells #[.string name',.slice ad' rows'.length cap'] 70))):=((Below.refl w.heap.size w).alloc (Nat.le_refl _) _).alloc (by simp) _;go_enter func42,ntmps42;go_wp2_with fail;refine (rD ad ad' cap cap' rows rows' _ l1 HE.out (oL.below HO.out HB.out) (oL.below HO'.out HB.out) HL.out).mono ?_;rintro e w1 ⟨rfl,hb1⟩;have HB1:=fK HB hb1;clear hb1 HB;go_wp2;go_ret;exact ⟨rfl,HB1.out⟩
theorem LG {wr W w':World} {b b' o o':Nat} {x0 x1 y0 y1:Value} (h:W.cell? ⟨b,o,none⟩=some x0∧W.cell? ⟨b,o + 1,none⟩=some x1∧W.cell? ⟨b',o',none⟩=some y0∧W.cell? ⟨b',o' + 1,none⟩=some y1∧b < W.heap.size∧b' < W.heap.size∧Below wr.heap.size wr W) (hb:Below W.heap.size W w') :
  w'.cell? ⟨b,o,none⟩=some x0∧w'.cell? ⟨b,o + 1,none⟩=some x1∧w'.cell? ⟨b',o',none⟩=some y0∧w'.cell? ⟨b',o' + 1,none⟩=some y1∧b < w'.heap.size∧b' < w'.heap.size∧Below wr.heap.size wr w':=He h hb
theorem Fp {wr W:World} {b b' o o':Nat} {x0 x1 y0 y1:Value} (h:W.cell? ⟨b,o,none⟩=some x0∧W.cell? ⟨b,o + 1,none⟩=some x1∧W.cell? ⟨b',o',none⟩=some y0∧W.cell? ⟨b',o' + 1,none⟩=some y1∧b < W.heap.size∧b' < W.heap.size∧Below wr.heap.size wr W):Below wr.heap.size wr W:=h.2.2.2.2.2.2
theorem Aa (ad ad':Option Addr) (cap cap':Nat) (rs rs':List TR) (w:World) (hlen:rs.length≤1048576) (he:ae rs'=ae rs) (hs:eY w ad rs) (hs':eY w ad' rs') (hl:∀ r ∈ rs,r.light) :
  Calls prog 16 #[.slice ad rs.length cap,.slice ad' rs'.length cap'] w fun e w'=>e=.returned (.bool true)∧Below w.heap.size w w':=by
 have hll:rs'.length=rs.length:=by rw [← eZ,he,eZ]
 have HSL:Hid (eY w ad rs):=hs;have HSM:Hid (eY w ad' rs'):=hs';have HLI:Hid (∀ r ∈ rs,r.light):=hl;have HEE:Hid (ae rs'=ae rs):=he;have HLL:Hid (rs'.length=rs.length):=hll;rw [hll];clear hs hs' hl he hll;go_enter func16,ntmps16;go_wp2;go_loopw [5] (fun i wr=>∃ k:Nat,k≤rs.length∧i=.int .i64 k∧Below w.heap.size w wr) (fun i _=>rs.length - (intOf i).toNat);case atStart=>exact ⟨0,Nat.zero_le _,rfl,Below.refl _ _⟩
 case round =>
  obtain ⟨k,hk,rfl,hB⟩:=hrel;by_cases hlt:k < rs.length
  ·have hlt':k < rs'.length:=by rw [HLL.out]; exact hlt
   rcases HSL.out.below hB with rfl | ⟨b,off,rfl,hb,hr,hok⟩
   ·simp at hlt
   rcases HSM.out.below hB with rfl | ⟨b',off',rfl,hb',hr',hok'⟩
   ·simp at hlt'
   obtain ⟨t0,t1⟩:=hr k hlt;obtain ⟨q0,q1⟩:=hr' k hlt';have HK1:Hid (rs[k].ok wr):=hok rs[k] (List.getElem_mem hlt);have HK2:Hid (rs'[k].ok wr):=hok' rs'[k] (List.getElem_mem hlt');have HK3:Hid (rs'[k].p=rs[k].p):=by
    have h1:(ae rs')[k]?=(ae rs)[k]?:=by rw [HEE.out]
    show _=_;simpa [ae,hlt,hlt'] using h1
   have HK4:Hid (rs[k].light):=HLI.out rs[k] (List.getElem_mem hlt);have hk1:=aY k;have hk2:(k:Int) < (rs.length:Int):=by omega
   clear hr hr' hok hok';go_wp2_with fail
   go_region_held3 (fun w'=>w'.cell? ⟨b,off + k * 2,none⟩=some (.string rs[k].name)∧w'.cell? ⟨b,off + k * 2 + 1,none⟩=some (.slice rs[k].ad rs[k].rows.length rs[k].cap)∧w'.cell? ⟨b',off' + k * 2,none⟩=some (.string rs'[k].name)∧w'.cell? ⟨b',off' + k * 2 + 1,none⟩=some (.slice rs'[k].ad rs'[k].rows.length rs'[k].cap)∧b < w'.heap.size∧b' < w'.heap.size∧Below wr.heap.size wr w')
    (first | assumption | exact LG (by assumption) hbx | exact ⟨t0,t1,q0,q1,hb,hb',(Below.refl _ _).drew⟩)
    (first | (go_at_call 42; refine (Cr rs[k] rs'[k] _ HK3.out (HK1.out.below (Fp (by assumption))) (HK2.out.below (Fp (by assumption))) HK4.out).mono ?_; rintro e w' ⟨rfl,hbx⟩))
   rename_i hH;obtain ⟨-,-,-,-,-,-,gB⟩:=hH;clear t0 t1 q0 q1 hb hb';go_wp2;go_roundw;case rel=>exact ⟨k + 1,by omega,by go_num,hB.trans (gB.mono hB.size)⟩
   case measure=>simp [intOf]; omega
  ·go_wp2;go_ret;exact ⟨rfl,hB⟩
theorem Mm {α:Type} {l:List α} (h:l.length=2):∃ a b,l=[a,b]:=by
 match l,h with
 | [a,b],_=>exact ⟨a,b,rfl⟩
theorem Mo {α:Type} {l:List α} (h:l.length=6):∃ a b c d e f,l=[a,b,c,d,e,f]:=by
 match l,h with
 | [a,b,c,d,e,f],_=>exact ⟨a,b,c,d,e,f,rfl⟩
theorem Cs:prog.cellsOf 26=2:=by kernel_rfl
theorem Ct:prog.cellsOf 62=6:=by kernel_rfl
theorem Cu:prog.cellsOf 9=1:=by kernel_rfl
theorem Cv {H:Type} {enc:TypeId × Value→H} {w:World} {base:Nat} {sp:Nat→Bool} {held:Bool} {fuel:Nat} {cs:List Value} {x:DataW H × List MemPlace}
  (h:DataW.trod enc prog w base sp held fuel 26 cs=some x):∃ a b:ByteArray,cs=[.string a,.string b]∧a.size≤maxLen∧b.size≤maxLen:=by
 obtain ⟨y0,y1,n,-,hl,h0,h1⟩:=trod_struct2 underlying26 h;rw [Cs] at hl;obtain ⟨c0,c1,rfl⟩:=Mm hl;simp only [Cu,List.drop_zero,List.drop_succ_cons,List.take_succ_cons,List.take_zero] at h0 h1;obtain ⟨a,e0,-,wa⟩:=DataW.trod_string underlying9 h0;obtain ⟨b,e1,-,wb⟩:=DataW.trod_string underlying9 h1;simp at e0 e1;subst e0 e1;exact ⟨a,b,rfl,wa,wb⟩
theorem JH {H:Type} {enc:TypeId × Value→H} {w:World} {base:Nat} {sp:Nat→Bool} {held:Bool} {fuel:Nat} {cs:List Value} {x:DataW H × List MemPlace}
  (h:DataW.trod enc prog w base sp held fuel 62 cs=some x):∃ a b r c d s:ByteArray,cs=[.string a,.string b,.string r,.string c,.string d,.string s] ∧
   a.size≤maxLen∧b.size≤maxLen∧r.size≤maxLen∧c.size≤maxLen∧d.size≤maxLen∧s.size≤maxLen:=by
 obtain ⟨y0,y1,y2,y3,n,-,hl,h0,h1,h2,h3⟩:=trod_struct4 underlying62 h;rw [Ct] at hl;obtain ⟨c0,c1,c2,c3,c4,c5,rfl⟩:=Mo hl;simp only [Cu,Cs,List.drop_zero,List.drop_succ_cons,List.take_succ_cons,List.take_zero] at h0 h1 h2 h3;obtain ⟨a,b,e0,wa,wb⟩:=Cv h0;obtain ⟨r,e1,-,wr⟩:=DataW.trod_string underlying9 h1;obtain ⟨c,d,e2,wc,wd⟩:=Cv h2;obtain ⟨s,e3,-,ws⟩:=DataW.trod_string underlying9 h3;simp at e0 e1 e2 e3;obtain ⟨rfl,rfl⟩:=e0;obtain ⟨rfl,rfl⟩:=e2;subst e1 e3;exact ⟨a,b,r,c,d,s,rfl,wa,wb,wr,wc,wd,ws⟩
theorem GV (b off x:Nat):(⟨b,off,none⟩:Addr).add x=⟨b,off + x,none⟩:=by
 unfold Addr.add;by_cases h:x=0
 ·subst h; simp
 ·simp [h]
theorem GX {H:Type} {enc:TypeId × Value→H} {W:World} {base:Nat} {sp:Nat→Bool} {held:Bool} {fuel:Nat} {ad:Option Addr} {len cap:Nat} {x:DataW H × List MemPlace}
  (h:DataW.trod enc prog W base sp held fuel 23 [.slice ad len cap]=some x):∃ ts:List Tp,ts.length=len∧Sl W ad ts∧(∀ t ∈ ts,t.fits)∧len≤maxLen:=by
 rcases open_slice underlying23 h with ⟨hcs,-⟩ | ⟨a,l,c,m,n,D,Pl,hcs,-,hlc,hcm,hm,-,hel⟩
 ·simp at hcs;obtain ⟨rfl,rfl,rfl⟩:=hcs;exact ⟨[],rfl,.inl rfl,(fun t ht=>by cases ht),by unfold maxLen; omega⟩
 ·simp at hcs;obtain ⟨rfl,rfl,rfl⟩:=hcs;have hle:len≤m:=by rw [hm]; split <;> omega
  by_cases h0:len=0
  ·subst h0;exact ⟨[],rfl,.inl rfl,(fun t ht=>by cases ht),by omega⟩
  have key:∀ i,i < len→∃ t:Tp,(∀ j,j < 6→W.cell? ((a.add (i * 6)).add j)=[Value.string t.a,.string t.b,.string t.r,.string t.c,.string t.d,.string t.s][j]?)∧t.fits:=by
   intro i hi;obtain ⟨cs',hc,hd⟩:=hel i (by omega);rw [Ct] at hc;obtain ⟨ta,tb,tr,tc,td,ts,rfl,hh⟩:=JH hd;exact ⟨⟨ta,tb,tr,tc,td,ts⟩,fun j hj=>(World.cells?_some hc).2.2 j hj,hh⟩
  have hspot:a.spot=none:=by
   obtain ⟨t,ht,-⟩:=key 0 (by omega);have:=ht 0 (by omega);have e:(a.add (0 * 6)).add 0=a:=by simp [Addr.add]
   rw [e] at this;exact World.cell?_spot this
  obtain ⟨b,off,spot⟩:=a;simp only at hspot;subst hspot;obtain ⟨f,hf⟩:=@choose_lt Tp ⟨⟨⟨#[]⟩,⟨#[]⟩,⟨#[]⟩,⟨#[]⟩,⟨#[]⟩,⟨#[]⟩⟩⟩ len _ key;have at6:∀ i,i < len→JM W b (off + i * 6) (f i):=by
   intro i hi;obtain ⟨hc,-⟩:=hf i hi;simp only [GV] at hc;exact ⟨hc 0 (by omega),hc 1 (by omega),hc 2 (by omega),hc 3 (by omega),hc 4 (by omega),hc 5 (by omega)⟩
  refine ⟨(List.range len).map f,by simp,.inr ⟨b,off,rfl,?_,?_⟩,?_,by omega⟩
  ·exact World.block_lt_of_cell? W ⟨b,off + 0 * 6,none⟩ (at6 0 (by omega)).1
  ·intro i hi;have hi':i < len:=by simpa using hi
   simpa using at6 i hi'
  ·intro t ht;simp only [List.mem_map,List.mem_range] at ht;obtain ⟨i,hi,rfl⟩:=ht;exact (hf i hi).2
set_option maxRecDepth 100000
theorem wT (ad ad':Option Addr) (cap cap':Nat) (w:World) :
  Calls prog 17 #[.slice ad 0 cap,.slice ad' 0 cap'] w fun e w'=>e=.returned (.bool true)∧Below w.heap.size w w':=by
 go_enter func17,ntmps17;go_wp2;refine wp_loop_rounds 1 ?_;rw [rounds_succ];go_wp2;go_ret;exact ⟨rfl,Below.refl _ _⟩
theorem Ab (ad ad':Option Addr) (cap cap':Nat) (ts:List Tp) (w:World) (hlen:ts.length≤maxLen) (hs:Sl w ad ts) (hs':Sl w ad' ts) :
  Calls prog 17 #[.slice ad ts.length cap,.slice ad' ts.length cap'] w fun e w'=>e=.returned (.bool true)∧Below w.heap.size w w':=by
 by_cases h:ts=[]
 ·subst h; exact wT ad ad' cap cap' w
 ·rcases hs with h1 | ⟨b,off,rfl,hb,hr⟩
  ·exact absurd h1 h
  rcases hs' with h1 | ⟨b',off',rfl,hb',hr'⟩
  ·exact absurd h1 h
  exact wL b b' off off' cap cap' ts w hlen hr hb hr' hb'
end Go.Proofs.YtdaoiceeidoehaaGreat
