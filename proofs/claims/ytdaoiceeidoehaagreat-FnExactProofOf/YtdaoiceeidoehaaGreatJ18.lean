/- Contract of the program's function on what is taken away. -/
import Derived.Test.YtdaoiceeidoehaaGreatJ17
open Go.Proofs.Tryz
set_option maxHeartbeats 80000000
namespace Go.Proofs.YtdaoiceeidoehaaGreat
open Go.ChangeShapes Go.WideShapes Go.ChangeAt Go.RowKit
open Pl
set_option maxRecDepth 100000 in
theorem zP (ad:Option Addr) (cap:Nat) (rs:List ER) (w:World) (hlen:rs.length≤1048576) (hs:eX w ad rs) (hl:∀ r ∈ rs,r.e.light) (hk:∀ r ∈ rs,dU rs.length r.e.kids) :
  Calls prog 146 #[.slice ad rs.length cap] w fun e w'=>e=.returned (.slice (some ⟨w.heap.size,0,none⟩) rs.length rs.length)∧Fil w w' w.heap.size rs.length (bools (cu (ah rs))):=by
 have HS:=aC hs;have HL:=aC hl;have HK:=aC hk;clear hs hl hk;obtain ⟨inf,hi,hz0,hz1,hz2⟩:=info_parts xG;go_enter func146,ntmps146;go_wp2_with (at_make; refine wpList_make_full _ rfl _ _ 207 rfl w.heap.size 4 inf (.bool false) 1 underlying207 hi hz0 hz1 .i64 .i64 _ _ rs.length rfl rfl rfl rfl (by rw [hz2]; omega) (by unfold maxLen; omega) (R4 _) ?_; intro w0 hown0 SY);have HF0:Hid (Fil w w0 w.heap.size rs.length (bools (List.replicate rs.length false))):=by
  have:=Au (v:=.bool false) hown0 SY;show Fil _ _ _ _ _;simpa [bools] using this
 clear hown0 SY hi hz0 hz1 hz2;go_loopw [4] (fun i wr=>∃ (m:Nat) (out:List Bool),m≤rs.length∧i=.int .i64 ((m:Int) - 1)∧out.length=rs.length∧Hid (dK (ah rs) m out=cu (ah rs))∧Hid (Fil w wr w.heap.size rs.length (bools out))) (fun i _=>(intOf i + 1).toNat);case atStart=>exact ⟨rs.length,List.replicate rs.length false,R4 _,by go_num,by simp,(by show _=_; unfold cu; rw [aJ]),HF0⟩
 case round =>
  obtain ⟨m,out,hm,rfl,hol,HN,HF⟩:=hrel;by_cases hm0:0 < m
  ·obtain ⟨m,rfl⟩:∃ m',m=m' + 1:=⟨m - 1,by omega⟩;have hmi:(((m + 1:Nat):Int) - 1)=(m:Int):=by omega
   rw [hmi];have hlt:m < rs.length:=by omega
   rcases HS.out.below HF.out.below with rfl | ⟨b,off,rfl,hb,hr,hok⟩
   ·simp at hlt
   obtain ⟨t0,t1,t2,t3,t4⟩:=hr m hlt;have Ub:Hid (rs[m].ok _):=hok rs[m] (RY hlt);have lg:=(HL.out rs[m] (RY hlt)).2;have HKI:Hid (dU rs.length rs[m].e.kids):=HK.out rs[m] (RY hlt);have hk1:=bn m;have hk2:(m:Int) < (rs.length:Int):=by omega
   have hbw:b < w.heap.size:=by
    rcases HS.out with h | ⟨b',off',h1,h2,-⟩
    ·rw [h] at hlt; simp at hlt
    ·injection h1 with h1; injection h1 with h1; omega
   have HR:Hid (sP wr b (off + m * 5) rs[m]):=hr m hlt;have HNX:Hid (dK (ah rs) m (aZ m rs[m].e.kind rs[m].e.kids 0 out)=cu (ah rs)):=by
    show _=_;rw [← HN.out,xH _ _ _ (by rw [aJ]; exact hlt)];simp [ah]
   clear hr hok t0 t1 t2 t3;go_wp2_with fail;clear t4;go_loopw [23] (fun i w2=>∃ (j:Nat) (SX:List Bool),j≤rs[m].e.kids.length∧i=.int .i64 j∧SX.length=rs.length∧Hid (aZ m rs[m].e.kind (rs[m].e.kids.drop j) j SX=aZ m rs[m].e.kind rs[m].e.kids 0 out)∧Hid (Fil w w2 w.heap.size rs.length (bools SX))) (fun i _=>rs[m].e.kids.length - (intOf i).toNat);case atStart=>exact ⟨0,out,R6 _,rfl,hol,rfl,HF⟩
   case round =>
    obtain ⟨j,SX,hj,rfl,ho2,HJ,UC⟩:=hrel;have hE2:eX wr _ rs:=HS.out.below UC.out.below;have ht:sP wr b (off + m * 5) rs[m]:=by
     rcases hE2 with h | ⟨b',off',h1,h2,h3,-⟩
     ·exact absurd hlt (by rw [h]; simp)
     ·injection h1 with h1; injection h1 with h1 h1'; subst h1; subst h1'; exact h3 m hlt
    obtain ⟨t0,t1,t2,t3,t4⟩:=ht;by_cases hjl:j < rs[m].e.kids.length
    ·have hK2:lF wr rs[m].adK rs[m].e.kids:=(hE2.mem (RY hlt)).2;rcases hK2 with hnil | ⟨ba,Vk,Tz,hba,hra⟩
     ·rw [hnil] at hjl; simp at hjl
     rw [Tz];have q0:=hra j hjl;have hj1:=bn j;have hj2:(j:Int) < (rs[m].e.kids.length:Int):=by omega
     obtain ⟨x0,x1⟩:=HKI.out _ (RY hjl);obtain ⟨x,hx⟩:∃ x:Nat,rs[m].e.kids[j]=(x:Int):=⟨rs[m].e.kids[j].toNat,by omega⟩;rw [hx] at q0 x0 x1;have c0:=UC.out.done m (by simp [bools]; omega);have fz:=UC.out.free;obtain ⟨v0,u0⟩:=Option.isSome_iff_exists.mp (UC.out.there x (by omega));have hbr:b < wr.heap.size:=RZ hbw UC.out.below.size;obtain ⟨bo,VC⟩:∃ bo,bo=(bools SX)[m]'(by simp [bools]; omega):=⟨_,rfl⟩;rw [← VC] at c0;clear hra Tz hE2 t1 t2 t3;have hm2:m < SX.length:=by omega
     have Yp:bo=.bool SX[m]:=by rw [VC]; simp [bools]
     have Yq:SX[m]?.getD false=SX[m]:=by simp [hm2]
     rw [Yp] at c0;clear VC Yp;cases hb0:SX[m] with
     | true =>
      rw [hb0] at c0 Yq;have HF4:Hid (Fil w (wr.setCell ⟨w.heap.size,x,none⟩ (.bool true)) w.heap.size rs.length (bools (SX.set x true))):=by show Fil _ _ _ _ _; rw [lN]; exact UC.out.set _ (by simp [bools]; omega) (by omega)
      have HJ2:Hid (aZ m rs[m].e.kind (rs[m].e.kids.drop (j + 1)) (j + 1) (SX.set x true)=aZ m rs[m].e.kind rs[m].e.kids 0 out):=by
       show _=_;rw [← HJ.out,iU _ _ _ _ _ hjl,hx];simp [*]
      go_wp2;go_roundw;case rel=>exact ⟨j + 1,SX.set x true,by omega,by go_num,by simp [ho2],HJ2,HF4⟩
      case measure=>simp [intOf] <;> omega
     | false =>
      rw [hb0] at c0 Yq;cases hkb:(rs[m].e.kind == 6) with
      | false =>
       have HF4:Hid (Fil w (wr.setCell ⟨w.heap.size,x,none⟩ (.bool false)) w.heap.size rs.length (bools (SX.set x false))):=by show Fil _ _ _ _ _; rw [lN]; exact UC.out.set _ (by simp [bools]; omega) (by omega)
       have HJ2:Hid (aZ m rs[m].e.kind (rs[m].e.kids.drop (j + 1)) (j + 1) (SX.set x false)=aZ m rs[m].e.kind rs[m].e.kids 0 out):=by
        show _=_;rw [← HJ.out,iU _ _ _ _ _ hjl,hx];simp [*]
       go_wp2;go_roundw;case rel=>exact ⟨j + 1,SX.set x false,by omega,by go_num,by simp [ho2],HJ2,HF4⟩
       case measure=>simp [intOf] <;> omega
      | true =>
       cases hjb:((j:Int) == 1) with
       | true =>
        have hjn:(j == 1)=true:=by simp at hjb ⊢; omega
        have HF4:Hid (Fil w (wr.setCell ⟨w.heap.size,x,none⟩ (.bool true)) w.heap.size rs.length (bools (SX.set x true))):=by show Fil _ _ _ _ _; rw [lN]; exact UC.out.set _ (by simp [bools]; omega) (by omega)
        have HJ2:Hid (aZ m rs[m].e.kind (rs[m].e.kids.drop (j + 1)) (j + 1) (SX.set x true)=aZ m rs[m].e.kind rs[m].e.kids 0 out):=by
         show _=_;rw [← HJ.out,iU _ _ _ _ _ hjl,hx];simp [*]
        go_wp2;go_roundw;case rel=>exact ⟨j + 1,SX.set x true,by omega,by go_num,by simp [ho2],HJ2,HF4⟩
        case measure=>simp [intOf] <;> omega
       | false =>
        have hjn:(j == 1)=false:=by simp at hjb ⊢; omega
        have HF4:Hid (Fil w (wr.setCell ⟨w.heap.size,x,none⟩ (.bool false)) w.heap.size rs.length (bools (SX.set x false))):=by show Fil _ _ _ _ _; rw [lN]; exact UC.out.set _ (by simp [bools]; omega) (by omega)
        have HJ2:Hid (aZ m rs[m].e.kind (rs[m].e.kids.drop (j + 1)) (j + 1) (SX.set x false)=aZ m rs[m].e.kind rs[m].e.kids 0 out):=by
         show _=_;rw [← HJ.out,iU _ _ _ _ _ hjl,hx];simp [*]
        go_wp2;go_roundw;case rel=>exact ⟨j + 1,SX.set x false,by omega,by go_num,by simp [ho2],HJ2,HF4⟩
        case measure=>simp [intOf] <;> omega
    ·have Vr:Hid (dK (ah rs) m SX=cu (ah rs)):=by
      show _=_;rw [← HNX.out,← HJ.out,List.drop_of_length_le (by omega)];rfl
     go_wp2;go_roundw;case rel=>exact ⟨m,SX,by omega,by go_num,ho2,Vr,UC⟩
     case measure=>simp [intOf] <;> omega
  ·obtain rfl:m=0:=by omega
   have UV:Hid (Fil w wr w.heap.size rs.length (bools (cu (ah rs)))):=by
    show Fil _ _ _ _ _;rw [← HN.out];exact HF.out
   go_wp2;go_ret;exact ⟨rfl,UV.out⟩
open Go.Maps
abbrev Ky:=ByteArray × ByteArray
def lookL (E:List (Ky × St)) (k:Ky):List St:=E.filterMap fun p=>if p.1=k then some p.2 else none
theorem lookL_append (E F:List (Ky × St)) (k:Ky):lookL (E ++ F) k=lookL E k ++ lookL F k:=by unfold lookL; rw [List.filterMap_append]
theorem qG (E:List (Ky × St)) (k:Ky) (s:St):lookL (E ++ [(k,s)]) k=lookL E k ++ [s]:=by rw [lookL_append]; simp [lookL]
theorem oH (E:List (Ky × St)) {k y:Ky} (s:St) (h:k ≠ y):lookL (E ++ [(y,s)]) k=lookL E k:=by rw [lookL_append]; simp [lookL,Ne.symm h]
theorem mem_lookL {E:List (Ky × St)} {k:Ky} {s:St}:s ∈ lookL E k ↔ (k,s) ∈ E:=by
 unfold lookL;rw [List.mem_filterMap];constructor
 ·rintro ⟨⟨a,b⟩,h1,h2⟩;simp only at h2;split at h2
  ·rename_i e; injection h2 with h2; rw [← e,← h2]; exact h1
  ·cases h2
 ·intro h; exact ⟨(k,s),h,by simp⟩
def FreeB (M:Ky→Option Value) (g:Nat):Prop:=∀ k v,M k=some v→v.ownBlock ≠ some g
structure Grp (w:World) (bL n:Nat) (M:Ky→Option Value) (E:List (Ky × St)):Prop where
 map:aD dJ prog 130 w bL n M
 row:∀ k,(M k=none∧lookL E k=[]) ∨ ∃ v,M k=some v∧w.ownsRow (bL + 1) 241 3 v (lookL E k).length (gV (lookL E k))
 apart:∀ k k' v v',k ≠ k'→M k=some v→M k'=some v'→∀ g,v.ownBlock=some g→v'.ownBlock ≠ some g
theorem Grp.lt {w:World} {bL n:Nat} {M:Ky→Option Value} {E:List (Ky × St)} (h:Grp w bL n M E) {k:Ky} {v:Value} (hk:M k=some v) {g:Nat} (hg:v.ownBlock=some g):bL < g∧g < w.heap.size:=by
 rcases h.row k with ⟨e,-⟩ | ⟨v',e,ho⟩
 ·rw [e] at hk; cases hk
 ·rw [e] at hk; injection hk with hk; subst hk;have:=ho.lt g hg;exact ⟨by omega,this.2⟩
theorem Grp.fresh {w:World} {bL n:Nat} {M:Ky→Option Value} {E:List (Ky × St)} (h:Grp w bL n M E) {g:Nat} (hg:w.heap.size≤g):FreeB M g:=fun k v hk e=>by
 have:=(h.lt hk e).2; omega
theorem Grp.mono {w:World} {bL n n':Nat} {M:Ky→Option Value} {E:List (Ky × St)} (h:Grp w bL n M E) (hn:n≤n'):Grp w bL n' M E:=⟨h.map.mono hn,h.row,h.apart⟩
theorem Grp.below {w w':World} {bL n:Nat} {M:Ky→Option Value} {E:List (Ky × St)} (h:Grp w bL n M E) (hB:Below w.heap.size w w'):Grp w' bL n M E where
 map:=h.map.below hB
 row k:=by
  rcases h.row k with e | ⟨v,e,ho⟩
  ·exact .inl e
  ·exact .inr ⟨v,e,own_below ho hB⟩
 apart:=h.apart
theorem grp_made (w:World):Grp (w.alloc (.map #[] 0)) w.heap.size 0 (fun _=>none) [] where
 map:=jl _ _ _ w
 row k:=.inl ⟨rfl,rfl⟩
 apart k k' v v' _ h:=by cases h
structure Stl (W:World) (M:Ky→Option Value) (w2:World) (M2:Ky→Option Value) (bL:Nat):Prop where
 size:W.heap.size≤w2.heap.size
 block:∀ g,g < W.heap.size→g ≠ bL→FreeB M g→w2.heap[g]?=W.heap[g]?
 free:∀ g,g < W.heap.size→FreeB M g→FreeB M2 g
theorem Stl.refl (W:World) (M:Ky→Option Value) (bL:Nat):Stl W M W M bL:=⟨R4 _,fun _ _ _ _=>rfl,fun _ _ h=>h⟩
theorem Stl.trans {W w2 w3:World} {M M2 M3:Ky→Option Value} {bL:Nat} (h:Stl W M w2 M2 bL) (h2:Stl w2 M2 w3 M3 bL):Stl W M w3 M3 bL where
 size:=Sb h.size h2.size
 block g hg hb hf:=(h2.block g (RZ hg h.size) hb (h.free g hg hf)).trans (h.block g hg hb hf)
 free g hg hf:=h2.free g (RZ hg h.size) (h.free g hg hf)
theorem Stl.below {W w2:World} {M:Ky→Option Value} {bL:Nat} (hB:Below W.heap.size W w2):Stl W M w2 M bL:=⟨hB.size,fun g hg _ _=>hB.block g hg,fun _ _ h=>h⟩
structure Cel (w:World) (M:Ky→Option Value) (bL g o:Nat) (u:Value):Prop where
 cell:w.cell? ⟨g,o,none⟩=some u
 lt:g < w.heap.size
 free:FreeB M g
 ne:g ≠ bL
theorem Cel.stl {w w2:World} {M M2:Ky→Option Value} {bL g o:Nat} {u:Value} (h:Cel w M bL g o u) (hS:Stl w M w2 M2 bL):Cel w2 M2 bL g o u where
 cell:=(SB (w:=w) (hS.block g h.lt h.ne h.free)).trans h.cell
 lt:=RZ h.lt hS.size
 free:=hS.free g h.lt h.free
 ne:=h.ne
theorem Grp.step {W0 w1 w2 w3:World} {bL n:Nat} {M:Ky→Option Value} {E:List (Ky × St)} {y:Ky} {v':Value} {s:St} (h:Grp W0 bL n M E) (hg1:W0.grownBy w1 (some bL)) (hown:w2.ownsRow (bL + 1) 241 3 v' ((lookL E y).length + 1) (gV (lookL E y) ++ s.cells))
  (hg2:w1.grownBy w2 ((M y).getD (.slice none 0 0)).ownBlock) (hloc:v'.ownBlock=((M y).getD (.slice none 0 0)).ownBlock ∨ v'.ownBlock=some w1.heap.size) (hg3:w2.grownBy w3 (some bL)) (hM:aD dJ prog 130 w3 bL (n + 1) (fw M y (some v'))) :
  Grp w3 bL (n + 1) (fw M y (some v')) (E ++ [(y,s)])∧Stl W0 M w3 (fw M y (some v')) bL:=by
 have Yr:∀ k v,M k=some v→∃ xs m,W0.ownsRow (bL + 1) 241 3 v m xs:=fun k v hk=>by
  rcases h.row k with ⟨e,-⟩ | ⟨v1,e,ho⟩
  ·rw [e] at hk; cases hk
  ·rw [e] at hk; injection hk with hk; subst hk; exact ⟨_,_,ho⟩
 have hne2:∀ k v,k ≠ y→M k=some v→v.ownBlock=none ∨ v.ownBlock ≠ ((M y).getD (.slice none 0 0)).ownBlock:=fun k v hky hk=>by
  cases e:v.ownBlock with
  | none=>exact .inl rfl
  | some g =>
   right;cases ey:M y with
   | none=>simp [Value.ownBlock]
   | some vy=>intro e2; exact h.apart k y v vy hky hk ey g e (by simpa using e2.symm)
 have hnb:∀ v,(∃ k,M k=some v)→v.ownBlock=none ∨ v.ownBlock ≠ some bL:=fun v ⟨k,hk⟩=>by
  cases e:v.ownBlock with
  | none=>exact .inl rfl
  | some g=>right; have:=(h.lt hk e).1; intro e2; injection e2 with e2; omega
 have hnew:∀ g,v'.ownBlock=some g→bL < g:=fun g e=>by have:=(hown.lt g e).1; omega
 have hv'b:v'.ownBlock=none ∨ v'.ownBlock ≠ some bL:=by
  cases e:v'.ownBlock with
  | none=>exact .inl rfl
  | some g=>right; have:=hnew g e; intro e2; injection e2 with e2; omega
 constructor
 ·refine ⟨hM,fun k=>?_,fun k k' v u hkk hk hk' g e=>?_⟩
  ·by_cases ek:k=y
   ·subst ek;rw [cB,qG];refine .inr ⟨v',rfl,?_⟩;rw [yt,R9];exact hown.kept hg3 hv'b
   ·rw [bf ek,oH _ _ ek];rcases h.row k with e | ⟨v,e,ho⟩
    ·exact .inl e
    ·exact .inr ⟨v,e,((ho.kept hg1 (hnb v ⟨k,e⟩)).kept hg2 (hne2 k v ek e)).kept hg3 (hnb v ⟨k,e⟩)⟩
  ·by_cases ek:k=y
   ·subst ek;rw [cB] at hk; injection hk with hk; subst hk;rw [bf (Ne.symm hkk)] at hk';intro e2;rcases hloc with el | el
    ·rw [e] at el;cases ey:M k with
     | none=>rw [ey] at el; simp [Value.ownBlock] at el
     | some vy=>rw [ey] at el; exact h.apart k k' vy u hkk ey hk' g (by simpa using el.symm) e2
    ·rw [e] at el; injection el with el;have:=(h.lt hk' e2).2;have:=hg1.size;omega
   ·rw [bf ek] at hk;by_cases ek':k'=y
    ·subst ek';rw [cB] at hk'; injection hk' with hk'; subst hk';intro e2;rcases hloc with el | el
     ·rw [e2] at el;cases ey:M k' with
      | none=>rw [ey] at el; simp [Value.ownBlock] at el
      | some vy=>rw [ey] at el; exact h.apart k k' v vy hkk hk ey g e (by simpa using el.symm)
     ·rw [e2] at el; injection el with el;have:=(h.lt hk e).2;have:=hg1.size;omega
    ·rw [bf ek'] at hk';exact h.apart k k' v u hkk hk hk' g e
 ·refine ⟨Sb hg1.size (Sb hg2.size hg3.size),fun g hg hb hf=>?_,fun g hg hf k v hk=>?_⟩
  ·have h1:=hg1.block g hg (fun e=>hb (by injection e));have h2:=hg2.block g (RZ hg hg1.size) (fun e=>by
    cases ey:M y with
    | none=>rw [ey] at e; simp [Value.ownBlock] at e
    | some vy=>rw [ey] at e; exact hf y vy ey (by simpa using e.symm))
   have h3:=hg3.block g (RZ hg (Sb hg1.size hg2.size)) (fun e=>hb (by injection e));rw [h3,h2,h1]
  ·by_cases ek:k=y
   ·subst ek;rw [cB] at hk; injection hk with hk; subst hk;intro e2;rcases hloc with el | el
    ·rw [e2] at el;cases ey:M k with
     | none=>rw [ey] at el; simp [Value.ownBlock] at el
     | some vy=>rw [ey] at el; exact hf k vy ey (by simpa using el.symm)
    ·rw [e2] at el; injection el with el; have:=hg1.size; omega
   ·rw [bf ek] at hk;exact hf k v hk
end Go.Proofs.YtdaoiceeidoehaaGreat
