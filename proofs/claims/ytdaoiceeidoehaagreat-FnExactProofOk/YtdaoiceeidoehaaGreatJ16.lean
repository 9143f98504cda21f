/- Contract of the program's function on what is taken away. -/
import Derived.Test.YtdaoiceeidoehaaGreatJ15
open Go.Proofs.Tryz
set_option maxHeartbeats 80000000
namespace Go.Proofs.YtdaoiceeidoehaaGreat
open Go.ChangeShapes Go.WideShapes Go.ChangeAt Go.RowKit
open Pl
set_option maxRecDepth 100000 in
theorem wI (ad:Option Addr) (cap:Nat) (rs:List ER) (w:World) (hlen:rs.length≤1048576) (hs:dw w ad rs) (hl:∀ r ∈ rs,r.e.light) (hk:∀ r ∈ rs,bQ rs.length r.e.kids) :
  Calls prog 146 #[.slice ad rs.length cap] w fun e w'=>e=.returned (.slice (some ⟨w.heap.size,0,none⟩) rs.length rs.length)∧Fil w w' w.heap.size rs.length (bools (cO (ah rs))):=by
 have HS:Hid (dw w ad rs):=hs;have HL:Hid (∀ r ∈ rs,r.e.light):=hl;have HK:Hid (∀ r ∈ rs,bQ rs.length r.e.kids):=hk;clear hs hl hk;obtain ⟨inf,hi,hz0,hz1,hz2⟩:=info_parts ul;go_enter func146,ntmps146;go_wp2_with (at_make; refine wpList_make_full _ rfl _ _ 207 rfl w.heap.size 4 inf (.bool false) 1 underlying207 hi hz0 hz1 .i64 .i64 _ _ rs.length rfl rfl rfl rfl (by rw [hz2]; omega) (by unfold maxLen; omega) (Nat.le_refl _) ?_; intro w0 hown0 hgrow0);have HF0:Hid (Fil w w0 w.heap.size rs.length (bools (List.replicate rs.length false))):=by
  have:=xe (v:=.bool false) hown0 hgrow0;show Fil _ _ _ _ _;simpa [bools] using this
 clear hown0 hgrow0 hi hz0 hz1 hz2;go_loopw [4] (fun i wr=>∃ (m:Nat) (out:List Bool),m≤rs.length∧i=.int .i64 ((m:Int) - 1)∧out.length=rs.length∧Hid (fH (ah rs) m out=cO (ah rs))∧Hid (Fil w wr w.heap.size rs.length (bools out))) (fun i _=>(intOf i + 1).toNat);case atStart=>exact ⟨rs.length,List.replicate rs.length false,Nat.le_refl _,by go_num,by simp,(by show _=_; unfold cO; rw [aI]),HF0⟩
 case round =>
  obtain ⟨m,out,hm,rfl,hol,HN,HF⟩:=hrel;by_cases hm0:0 < m
  ·obtain ⟨m,rfl⟩:∃ m',m=m' + 1:=⟨m - 1,by omega⟩;have hmi:(((m + 1:Nat):Int) - 1)=(m:Int):=by omega
   rw [hmi];have hlt:m < rs.length:=by omega
   rcases HS.out.below HF.out.below with rfl | ⟨b,off,rfl,hb,hr,hok⟩
   ·simp at hlt
   obtain ⟨t0,t1,t2,t3,t4⟩:=hr m hlt;have HOK:Hid (rs[m].ok _):=hok rs[m] (List.getElem_mem hlt);have lg:=(HL.out rs[m] (List.getElem_mem hlt)).2;have HKI:Hid (bQ rs.length rs[m].e.kids):=HK.out rs[m] (List.getElem_mem hlt);have hk1:=aY m;have hk2:(m:Int) < (rs.length:Int):=by omega
   have hbw:b < w.heap.size:=by
    rcases HS.out with h | ⟨b',off',h1,h2,-⟩
    ·rw [h] at hlt; simp at hlt
    ·injection h1 with h1; injection h1 with h1; omega
   have HR:Hid (wy wr b (off + m * 5) rs[m]):=hr m hlt;have HNX:Hid (fH (ah rs) m (aQ m rs[m].e.kind rs[m].e.kids 0 out)=cO (ah rs)):=by
    show _=_;rw [← HN.out,uq _ _ _ (by rw [aI]; exact hlt)];simp [ah]
   clear hr hok t0 t1 t2 t3;go_wp2_with fail;clear t4;go_loopw [23] (fun i w2=>∃ (j:Nat) (out2:List Bool),j≤rs[m].e.kids.length∧i=.int .i64 j∧out2.length=rs.length∧Hid (aQ m rs[m].e.kind (rs[m].e.kids.drop j) j out2=aQ m rs[m].e.kind rs[m].e.kids 0 out)∧Hid (Fil w w2 w.heap.size rs.length (bools out2))) (fun i _=>rs[m].e.kids.length - (intOf i).toNat);case atStart=>exact ⟨0,out,Nat.zero_le _,rfl,hol,rfl,HF⟩
   case round =>
    obtain ⟨j,out2,hj,rfl,ho2,HJ,HF2⟩:=hrel;have hE2:dw wr _ rs:=HS.out.below HF2.out.below;have ht:wy wr b (off + m * 5) rs[m]:=by
     rcases hE2 with h | ⟨b',off',h1,h2,h3,-⟩
     ·exact absurd hlt (by rw [h]; simp)
     ·injection h1 with h1; injection h1 with h1 h1'; subst h1; subst h1'; exact h3 m hlt
    obtain ⟨t0,t1,t2,t3,t4⟩:=ht;by_cases hjl:j < rs[m].e.kids.length
    ·have hK2:nA wr rs[m].adK rs[m].e.kids:=(hE2.mem (List.getElem_mem hlt)).2;rcases hK2 with hnil | ⟨ba,offa,hadK,hba,hra⟩
     ·rw [hnil] at hjl; simp at hjl
     rw [hadK];have q0:=hra j hjl;have hj1:=aY j;have hj2:(j:Int) < (rs[m].e.kids.length:Int):=by omega
     obtain ⟨x0,x1⟩:=HKI.out _ (List.getElem_mem hjl);obtain ⟨x,hx⟩:∃ x:Nat,rs[m].e.kids[j]=(x:Int):=⟨rs[m].e.kids[j].toNat,by omega⟩;rw [hx] at q0 x0 x1;have c0:=HF2.out.done m (by simp [bools]; omega);have fz:=HF2.out.free;obtain ⟨v0,u0⟩:=Option.isSome_iff_exists.mp (HF2.out.there x (by omega));have hbr:b < wr.heap.size:=Nat.lt_of_lt_of_le hbw HF2.out.below.size;obtain ⟨bo,hbo⟩:∃ bo,bo=(bools out2)[m]'(by simp [bools]; omega):=⟨_,rfl⟩;rw [← hbo] at c0;clear hra hadK hE2 t1 t2 t3;have hm2:m < out2.length:=by omega
     have hbo1:bo=.bool out2[m]:=by rw [hbo]; simp [bools]
     have hbo':out2[m]?.getD false=out2[m]:=by simp [hm2]
     rw [hbo1] at c0;clear hbo hbo1;cases hb0:out2[m] with
     | true =>
      rw [hb0] at c0 hbo';have HF4:Hid (Fil w (wr.setCell ⟨w.heap.size,x,none⟩ (.bool true)) w.heap.size rs.length (bools (out2.set x true))):=by show Fil _ _ _ _ _; rw [gI]; exact HF2.out.set _ (by simp [bools]; omega) (by omega)
      have HJ2:Hid (aQ m rs[m].e.kind (rs[m].e.kids.drop (j + 1)) (j + 1) (out2.set x true)=aQ m rs[m].e.kind rs[m].e.kids 0 out):=by
       show _=_;rw [← HJ.out,dN _ _ _ _ _ hjl,hx];simp [*]
      go_wp2;go_roundw;case rel=>exact ⟨j + 1,out2.set x true,by omega,by go_num,by simp [ho2],HJ2,HF4⟩
      case measure=>simp [intOf] <;> omega
     | false =>
      rw [hb0] at c0 hbo';cases hkb:(rs[m].e.kind == 6) with
      | false =>
       have HF4:Hid (Fil w (wr.setCell ⟨w.heap.size,x,none⟩ (.bool false)) w.heap.size rs.length (bools (out2.set x false))):=by show Fil _ _ _ _ _; rw [gI]; exact HF2.out.set _ (by simp [bools]; omega) (by omega)
       have HJ2:Hid (aQ m rs[m].e.kind (rs[m].e.kids.drop (j + 1)) (j + 1) (out2.set x false)=aQ m rs[m].e.kind rs[m].e.kids 0 out):=by
        show _=_;rw [← HJ.out,dN _ _ _ _ _ hjl,hx];simp [*]
       go_wp2;go_roundw;case rel=>exact ⟨j + 1,out2.set x false,by omega,by go_num,by simp [ho2],HJ2,HF4⟩
       case measure=>simp [intOf] <;> omega
      | true =>
       cases hjb:((j:Int) == 1) with
       | true =>
        have hjn:(j == 1)=true:=by simp at hjb ⊢; omega
        have HF4:Hid (Fil w (wr.setCell ⟨w.heap.size,x,none⟩ (.bool true)) w.heap.size rs.length (bools (out2.set x true))):=by show Fil _ _ _ _ _; rw [gI]; exact HF2.out.set _ (by simp [bools]; omega) (by omega)
        have HJ2:Hid (aQ m rs[m].e.kind (rs[m].e.kids.drop (j + 1)) (j + 1) (out2.set x true)=aQ m rs[m].e.kind rs[m].e.kids 0 out):=by
         show _=_;rw [← HJ.out,dN _ _ _ _ _ hjl,hx];simp [*]
        go_wp2;go_roundw;case rel=>exact ⟨j + 1,out2.set x true,by omega,by go_num,by simp [ho2],HJ2,HF4⟩
        case measure=>simp [intOf] <;> omega
       | false =>
        have hjn:(j == 1)=false:=by simp at hjb ⊢; omega
        have HF4:Hid (Fil w (wr.setCell ⟨w.heap.size,x,none⟩ (.bool false)) w.heap.size rs.length (bools (out2.set x false))):=by show Fil _ _ _ _ _; rw [gI]; exact HF2.out.set _ (by simp [bools]; omega) (by omega)
        have HJ2:Hid (aQ m rs[m].e.kind (rs[m].e.kids.drop (j + 1)) (j + 1) (out2.set x false)=aQ m rs[m].e.kind rs[m].e.kids 0 out):=by
         show _=_;rw [← HJ.out,dN _ _ _ _ _ hjl,hx];simp [*]
        go_wp2;go_roundw;case rel=>exact ⟨j + 1,out2.set x false,by omega,by go_num,by simp [ho2],HJ2,HF4⟩
        case measure=>simp [intOf] <;> omega
    ·have HOE:Hid (fH (ah rs) m out2=cO (ah rs)):=by
      show _=_;rw [← HNX.out,← HJ.out,List.drop_of_length_le (by omega)];rfl
     go_wp2;go_roundw;case rel=>exact ⟨m,out2,by omega,by go_num,ho2,HOE,HF2⟩
     case measure=>simp [intOf] <;> omega
  ·obtain rfl:m=0:=by omega
   have HFE:Hid (Fil w wr w.heap.size rs.length (bools (cO (ah rs)))):=by
    show Fil _ _ _ _ _;rw [← HN.out];exact HF.out
   go_wp2;go_ret;exact ⟨rfl,HFE.out⟩
open Go.Maps
abbrev Ky:=ByteArray × ByteArray
def lookL (E:List (Ky × St)) (k:Ky):List St:=E.filterMap fun p=>if p.1=k then some p.2 else none
theorem lookL_append (E F:List (Ky × St)) (k:Ky):lookL (E ++ F) k=lookL E k ++ lookL F k:=by unfold lookL; rw [List.filterMap_append]
theorem ou (E:List (Ky × St)) (k:Ky) (s:St):lookL (E ++ [(k,s)]) k=lookL E k ++ [s]:=by rw [lookL_append]; simp [lookL]
theorem lZ (E:List (Ky × St)) {k y:Ky} (s:St) (h:k ≠ y):lookL (E ++ [(y,s)]) k=lookL E k:=by rw [lookL_append]; simp [lookL,Ne.symm h]
theorem mem_lookL {E:List (Ky × St)} {k:Ky} {s:St}:s ∈ lookL E k ↔ (k,s) ∈ E:=by
 unfold lookL;rw [List.mem_filterMap];constructor
 ·rintro ⟨⟨a,b⟩,h1,h2⟩;simp only at h2;split at h2
  ·rename_i e; injection h2 with h2; rw [← e,← h2]; exact h1
  ·cases h2
 ·intro h; exact ⟨(k,s),h,by simp⟩
def FreeB (M:Ky→Option Value) (g:Nat):Prop:=∀ k v,M k=some v→v.ownBlock ≠ some g
structure Grp (w:World) (bL n:Nat) (M:Ky→Option Value) (E:List (Ky × St)):Prop where
 map:aB bn prog 130 w bL n M
 row:∀ k,(M k=none∧lookL E k=[]) ∨ ∃ v,M k=some v∧w.ownsRow (bL + 1) 241 3 v (lookL E k).length (fP (lookL E k))
 apart:∀ k k' v v',k ≠ k'→M k=some v→M k'=some v'→∀ g,v.ownBlock=some g→v'.ownBlock ≠ some g
theorem Grp.lt {w:World} {bL n:Nat} {M:Ky→Option Value} {E:List (Ky × St)} (h:Grp w bL n M E) {k:Ky} {v:Value} (hk:M k=some v) {g:Nat} (hg:v.ownBlock=some g):bL < g∧g < w.heap.size:=by
 rcases h.row k with ⟨e,-⟩ | ⟨v',e,ho⟩
 ·rw [e] at hk; cases hk
 ·rw [e] at hk; injection hk with hk; subst hk;have:=ho.lt g hg;exact ⟨by omega,this.2⟩
theorem Grp.fresh {w:World} {bL n:Nat} {M:Ky→Option Value} {E:List (Ky × St)} (h:Grp w bL n M E) {g:Nat} (hg:w.heap.size≤g):FreeB M g:=fun k v hk e=>by
 have:=(h.lt hk e).2; omega
theorem Grp.mono {w:World} {bL n n':Nat} {M:Ky→Option Value} {E:List (Ky × St)} (h:Grp w bL n M E) (hn:n≤n'):Grp w bL n' M E:=⟨h.map.mono hn,h.row,h.apart⟩
theorem Grp.below {w w':World} {bL n:Nat} {M:Ky→Option Value} {E:List (Ky × St)} (h:Grp w bL n M E) (hB:Below w.heap.size w w'):Grp w' bL n M E where
 map:=h.map.below hB
 row k:=by
  rcases h.row k with e | ⟨v,e,ho⟩
  ·exact .inl e
  ·exact .inr ⟨v,e,own_below ho hB⟩
 apart:=h.apart
theorem grp_made (w:World):Grp (w.alloc (.map #[] 0)) w.heap.size 0 (fun _=>none) [] where
 map:=iA _ _ _ w
 row k:=.inl ⟨rfl,rfl⟩
 apart k k' v v' _ h:=by cases h
structure Stl (W:World) (M:Ky→Option Value) (w2:World) (M2:Ky→Option Value) (bL:Nat):Prop where
 size:W.heap.size≤w2.heap.size
 block:∀ g,g < W.heap.size→g ≠ bL→FreeB M g→w2.heap[g]?=W.heap[g]?
 free:∀ g,g < W.heap.size→FreeB M g→FreeB M2 g
theorem Stl.refl (W:World) (M:Ky→Option Value) (bL:Nat):Stl W M W M bL:=⟨Nat.le_refl _,fun _ _ _ _=>rfl,fun _ _ h=>h⟩
theorem Stl.trans {W w2 w3:World} {M M2 M3:Ky→Option Value} {bL:Nat} (h:Stl W M w2 M2 bL) (h2:Stl w2 M2 w3 M3 bL):Stl W M w3 M3 bL where
 size:=Nat.le_trans h.size h2.size
 block g hg hb hf:=(h2.block g (Nat.lt_of_lt_of_le hg h.size) hb (h.free g hg hf)).trans (h.block g hg hb hf)
 free g hg hf:=h2.free g (Nat.lt_of_lt_of_le hg h.size) (h.free g hg hf)
theorem Stl.below {W w2:World} {M:Ky→Option Value} {bL:Nat} (hB:Below W.heap.size W w2):Stl W M w2 M bL:=⟨hB.size,fun g hg _ _=>hB.block g hg,fun _ _ h=>h⟩
structure Cel (w:World) (M:Ky→Option Value) (bL g o:Nat) (u:Value):Prop where
 cell:w.cell? ⟨g,o,none⟩=some u
 lt:g < w.heap.size
 free:FreeB M g
 ne:g ≠ bL
theorem Cel.stl {w w2:World} {M M2:Ky→Option Value} {bL g o:Nat} {u:Value} (h:Cel w M bL g o u) (hS:Stl w M w2 M2 bL):Cel w2 M2 bL g o u where
 cell:=(World.cell?_of_block (w:=w) (hS.block g h.lt h.ne h.free)).trans h.cell
 lt:=Nat.lt_of_lt_of_le h.lt hS.size
 free:=hS.free g h.lt h.free
 ne:=h.ne
theorem Grp.step {W0 w1 w2 w3:World} {bL n:Nat} {M:Ky→Option Value} {E:List (Ky × St)} {y:Ky} {v':Value} {s:St} (h:Grp W0 bL n M E) (hg1:W0.grownBy w1 (some bL)) (hown:w2.ownsRow (bL + 1) 241 3 v' ((lookL E y).length + 1) (fP (lookL E y) ++ s.cells))
  (hg2:w1.grownBy w2 ((M y).getD (.slice none 0 0)).ownBlock) (hloc:v'.ownBlock=((M y).getD (.slice none 0 0)).ownBlock ∨ v'.ownBlock=some w1.heap.size) (hg3:w2.grownBy w3 (some bL)) (hM:aB bn prog 130 w3 bL (n + 1) (iU M y (some v'))) :
  Grp w3 bL (n + 1) (iU M y (some v')) (E ++ [(y,s)])∧Stl W0 M w3 (iU M y (some v')) bL:=by
 have hrow0:∀ k v,M k=some v→∃ xs m,W0.ownsRow (bL + 1) 241 3 v m xs:=fun k v hk=>by
  rcases h.row k with ⟨e,-⟩ | ⟨v1,e,ho⟩
  ·rw [e] at hk; cases hk
  ·rw [e] at hk; injection hk with hk; subst hk; exact ⟨_,_,ho⟩
 have hne2:∀ k v,k ≠ y→M k=some v→v.ownBlock=none ∨ v.ownBlock ≠ ((M y).getD (.slice none 0 0)).ownBlock:=fun k v hky hk=>by
  cases e:v.ownBlock with
  | none=>exact .inl rfl
  | some g =>
   right;cases ey:M y with
   | none=>simp [Value.ownBlock]
   | some vy=>intro e2; exact h.apart k y v vy hky hk ey g e (by simpa using e2.symm)
 have hnb:∀ v,(∃ k,M k=some v)→v.ownBlock=none ∨ v.ownBlock ≠ some bL:=fun v ⟨k,hk⟩=>by
  cases e:v.ownBlock with
  | none=>exact .inl rfl
  | some g=>right; have:=(h.lt hk e).1; intro e2; injection e2 with e2; omega
 have hnew:∀ g,v'.ownBlock=some g→bL < g:=fun g e=>by have:=(hown.lt g e).1; omega
 have hv'b:v'.ownBlock=none ∨ v'.ownBlock ≠ some bL:=by
  cases e:v'.ownBlock with
  | none=>exact .inl rfl
  | some g=>right; have:=hnew g e; intro e2; injection e2 with e2; omega
 constructor
 ·refine ⟨hM,fun k=>?_,fun k k' v u hkk hk hk' g e=>?_⟩
  ·by_cases ek:k=y
   ·subst ek;rw [dh,ou];refine .inr ⟨v',rfl,?_⟩;rw [uV,List.length_append];exact hown.kept hg3 hv'b
   ·rw [bf ek,lZ _ _ ek];rcases h.row k with e | ⟨v,e,ho⟩
    ·exact .inl e
    ·exact .inr ⟨v,e,((ho.kept hg1 (hnb v ⟨k,e⟩)).kept hg2 (hne2 k v ek e)).kept hg3 (hnb v ⟨k,e⟩)⟩
  ·by_cases ek:k=y
   ·subst ek;rw [dh] at hk; injection hk with hk; subst hk;rw [bf (Ne.symm hkk)] at hk';intro e2;rcases hloc with el | el
    ·rw [e] at el;cases ey:M k with
     | none=>rw [ey] at el; simp [Value.ownBlock] at el
     | some vy=>rw [ey] at el; exact h.apart k k' vy u hkk ey hk' g (by simpa using el.symm) e2
    ·rw [e] at el; injection el with el;have:=(h.lt hk' e2).2;have:=hg1.size;omega
   ·rw [bf ek] at hk;by_cases ek':k'=y
    ·subst ek';rw [dh] at hk'; injection hk' with hk'; subst hk';intro e2;rcases hloc with el | el
     ·rw [e2] at el;cases ey:M k' with
      | none=>rw [ey] at el; simp [Value.ownBlock] at el
      | some vy=>rw [ey] at el; exact h.apart k k' v vy hkk hk ey g e (by simpa using el.symm)
     ·rw [e2] at el; injection el with el;have:=(h.lt hk e).2;have:=hg1.size;omega
    ·rw [bf ek'] at hk';exact h.apart k k' v u hkk hk hk' g e
 ·refine ⟨Nat.le_trans hg1.size (Nat.le_trans hg2.size hg3.size),fun g hg hb hf=>?_,fun g hg hf k v hk=>?_⟩
  ·have h1:=hg1.block g hg (fun e=>hb (by injection e));have h2:=hg2.block g (Nat.lt_of_lt_of_le hg hg1.size) (fun e=>by
    cases ey:M y with
    | none=>rw [ey] at e; simp [Value.ownBlock] at e
    | some vy=>rw [ey] at e; exact hf y vy ey (by simpa using e.symm))
   have h3:=hg3.block g (Nat.lt_of_lt_of_le hg (Nat.le_trans hg1.size hg2.size)) (fun e=>hb (by injection e));rw [h3,h2,h1]
  ·by_cases ek:k=y
   ·subst ek;rw [dh] at hk; injection hk with hk; subst hk;intro e2;rcases hloc with el | el
    ·rw [e2] at el;cases ey:M k with
     | none=>rw [ey] at el; simp [Value.ownBlock] at el
     | some vy=>rw [ey] at el; exact hf k vy ey (by simpa using el.symm)
    ·rw [e2] at el; injection el with el; have:=hg1.size; omega
   ·rw [bf ek] at hk;exact hf k v hk
end Go.Proofs.YtdaoiceeidoehaaGreat
