/- Contracts of the law's helpers that copy a schema: each list lies in a block of its own. -/
import Derived.Test.YteoflgocljfgeaaGreatDoorJ6
namespace Go.Proofs.YteoflgocljfgeaaGreatDoor
open Go.ChangeShapes Go.WideShapes Go.ChangeAt Go.RowKit
open Pl
def Bo (b:Nat) (w:World) (qs:List ER):Prop:=SepE b qs∧∀ q ∈ qs,∀ g,ny q g→b < g∧g < w.heap.size∧iG w g
theorem Bo.nil (b:Nat) (w:World):Bo b w []:=by
 refine ⟨⟨?_,?_,?_,?_,?_⟩,?_⟩
 ·intro r hr; cases hr
 ·intro r hr; cases hr
 ·intro r hr; cases hr
 ·intro r hr; cases hr
 ·intro x y hx; exact absurd hx (Nat.not_lt_zero _)
 ·intro r hr; cases hr
theorem EW {q:ER} {gA gK g:Nat} (hA:q.adA=some ⟨gA,0,none⟩) (hK:q.adK=some ⟨gK,0,none⟩) (h:ny q g):g=gA ∨ g=gK:=by
 rcases h with ⟨-,e⟩ | ⟨-,e⟩
 ·rw [hA] at e; injection e with e; injection e with e1 e2; exact .inl e1.symm
 ·rw [hK] at e; injection e with e; injection e with e1 e2; exact .inr e1.symm
theorem Bo.snoc {S:Nat→Prop} {b:Nat} {wr wn:World} {qs:List ER} (h:Bo b wr qs) (hc:Chg S wr wn) (hb:b < wr.heap.size) {q:ER} {gA gK:Nat} (hA:q.adA=some ⟨gA,0,none⟩) (hK:q.adK=some ⟨gK,0,none⟩) (h1:wr.heap.size≤gA) (h2:gA < gK) (h3:gK < wn.heap.size) (fA:iG wn gA) (fK:iG wn gK):Bo b wn (qs ++ [q]):=by
 have hq:∀ g,ny q g→wr.heap.size≤g:=fun g hg=>by rcases EW hA hK hg with rfl | rfl <;> omega
 refine ⟨⟨?_,?_,?_,?_,?_⟩,?_⟩
 ·intro r hr; rw [List.mem_append,List.mem_singleton] at hr;rcases hr with hr | rfl
  ·exact h.1.zeroA r hr
  ·exact fun _=>⟨gA,hA⟩
 ·intro r hr; rw [List.mem_append,List.mem_singleton] at hr;rcases hr with hr | rfl
  ·exact h.1.zeroK r hr
  ·exact fun _=>⟨gK,hK⟩
 ·intro r hr; rw [List.mem_append,List.mem_singleton] at hr;rcases hr with hr | rfl
  ·exact h.1.head r hr
  ·intro hg; have:=hq b hg; omega
 ·intro r hr; rw [List.mem_append,List.mem_singleton] at hr;rcases hr with hr | rfl
  ·exact h.1.one r hr
  ·rintro g ⟨-,e1⟩ ⟨-,e2⟩;rw [hA] at e1; rw [hK] at e2;injection e1 with e1; injection e1 with e1 _; injection e2 with e2; injection e2 with e2 _;omega
 ·intro x y hx hy hne g hgx hgy;rw [List.length_append,List.length_singleton] at hx hy;by_cases ex:x < qs.length
  ·rw [List.getElem_append_left ex] at hgx;by_cases ey:y < qs.length
   ·rw [List.getElem_append_left ey] at hgy;exact h.1.two x y ex ey hne g hgx hgy
   ·rw [List.getElem_append_right (by omega)] at hgy;have e1:=hq g (by simpa using hgy);have e2:=(h.2 _ (List.getElem_mem ex) g hgx).2.1;omega
  ·rw [List.getElem_append_right (by omega)] at hgx;have e1:=hq g (by simpa using hgx);have ey:y < qs.length:=by omega
   rw [List.getElem_append_left ey] at hgy;have e2:=(h.2 _ (List.getElem_mem ey) g hgy).2.1;omega
 ·intro r hr g hg; rw [List.mem_append,List.mem_singleton] at hr;rcases hr with hr | rfl
  ·obtain ⟨a1,a2,a3⟩:=h.2 r hr g hg;exact ⟨a1,Nat.lt_of_lt_of_le a2 hc.size,hc.free g a2 a3⟩
  ·rcases EW hA hK hg with rfl | rfl
   ·exact ⟨by omega,by omega,fA⟩
   ·exact ⟨by omega,by omega,fK⟩
def M9 (m:Nat) (w:World) (r:RR):Prop:=Lu r∧∀ g,FC r g→m≤g∧g < w.heap.size∧iG w g
def H5 (b:Nat) (w:World) (qs:List RR):Prop:=SepR b qs∧∀ q ∈ qs,∀ g,FC q g→b < g∧g < w.heap.size∧iG w g
theorem H5.nil (b:Nat) (w:World):H5 b w []:=by
 refine ⟨⟨?_,?_,?_⟩,?_⟩
 ·intro r hr; cases hr
 ·intro r hr; cases hr
 ·intro x y hx; exact absurd hx (Nat.not_lt_zero _)
 ·intro r hr; cases hr
theorem H5.snoc {S:Nat→Prop} {b:Nat} {wr wn:World} {qs:List RR} (h:H5 b wr qs) (hc:Chg S wr wn) (hb:b < wr.heap.size) {q:RR} (hq:M9 wr.heap.size wn q):H5 b wn (qs ++ [q]):=by
 refine ⟨⟨?_,?_,?_⟩,?_⟩
 ·intro r hr; rw [List.mem_append,List.mem_singleton] at hr;rcases hr with hr | rfl
  ·exact h.1.good r hr
  ·exact hq.1
 ·intro r hr; rw [List.mem_append,List.mem_singleton] at hr;rcases hr with hr | rfl
  ·exact h.1.head r hr
  ·intro hg; have:=(hq.2 b hg).1; omega
 ·intro x y hx hy hne g hgx hgy;rw [List.length_append,List.length_singleton] at hx hy;by_cases ex:x < qs.length
  ·rw [List.getElem_append_left ex] at hgx;by_cases ey:y < qs.length
   ·rw [List.getElem_append_left ey] at hgy;exact h.1.two x y ex ey hne g hgx hgy
   ·rw [List.getElem_append_right (by omega)] at hgy;have e1:=(hq.2 g (by simpa using hgy)).1;have e2:=(h.2 _ (List.getElem_mem ex) g hgx).2.1;omega
  ·rw [List.getElem_append_right (by omega)] at hgx;have e1:=(hq.2 g (by simpa using hgx)).1;have ey:y < qs.length:=by omega
   rw [List.getElem_append_left ey] at hgy;have e2:=(h.2 _ (List.getElem_mem ey) g hgy).2.1;omega
 ·intro r hr g hg; rw [List.mem_append,List.mem_singleton] at hr;rcases hr with hr | rfl
  ·obtain ⟨a1,a2,a3⟩:=h.2 r hr g hg;exact ⟨a1,Nat.lt_of_lt_of_le a2 hc.size,hc.free g a2 a3⟩
  ·obtain ⟨a1,a2,a3⟩:=hq.2 g hg;exact ⟨by omega,a2,a3⟩
def Na (m:Nat) (w:World) (r:TR):Prop:=Lv r∧∀ g,Hz r g→m≤g∧g < w.heap.size∧iG w g
def H6 (b:Nat) (w:World) (qs:List TR):Prop:=SepT b qs∧∀ q ∈ qs,∀ g,Hz q g→b < g∧g < w.heap.size∧iG w g
theorem H6.nil (b:Nat) (w:World):H6 b w []:=by
 refine ⟨⟨?_,?_,?_⟩,?_⟩
 ·intro r hr; cases hr
 ·intro r hr; cases hr
 ·intro x y hx; exact absurd hx (Nat.not_lt_zero _)
 ·intro r hr; cases hr
theorem H6.snoc {S:Nat→Prop} {b:Nat} {wr wn:World} {qs:List TR} (h:H6 b wr qs) (hc:Chg S wr wn) (hb:b < wr.heap.size) {q:TR} (hq:Na wr.heap.size wn q):H6 b wn (qs ++ [q]):=by
 refine ⟨⟨?_,?_,?_⟩,?_⟩
 ·intro r hr; rw [List.mem_append,List.mem_singleton] at hr;rcases hr with hr | rfl
  ·exact h.1.good r hr
  ·exact hq.1
 ·intro r hr; rw [List.mem_append,List.mem_singleton] at hr;rcases hr with hr | rfl
  ·exact h.1.head r hr
  ·intro hg; have:=(hq.2 b hg).1; omega
 ·intro x y hx hy hne g hgx hgy;rw [List.length_append,List.length_singleton] at hx hy;by_cases ex:x < qs.length
  ·rw [List.getElem_append_left ex] at hgx;by_cases ey:y < qs.length
   ·rw [List.getElem_append_left ey] at hgy;exact h.1.two x y ex ey hne g hgx hgy
   ·rw [List.getElem_append_right (by omega)] at hgy;have e1:=(hq.2 g (by simpa using hgy)).1;have e2:=(h.2 _ (List.getElem_mem ex) g hgx).2.1;omega
  ·rw [List.getElem_append_right (by omega)] at hgx;have e1:=(hq.2 g (by simpa using hgx)).1;have ey:y < qs.length:=by omega
   rw [List.getElem_append_left ey] at hgy;have e2:=(h.2 _ (List.getElem_mem ey) g hgy).2.1;omega
 ·intro r hr g hg; rw [List.mem_append,List.mem_singleton] at hr;rcases hr with hr | rfl
  ·obtain ⟨a1,a2,a3⟩:=h.2 r hr g hg;exact ⟨a1,Nat.lt_of_lt_of_le a2 hc.size,hc.free g a2 a3⟩
  ·obtain ⟨a1,a2,a3⟩:=hq.2 g hg;exact ⟨by omega,a2,a3⟩
end Go.Proofs.YteoflgocljfgeaaGreatDoor
