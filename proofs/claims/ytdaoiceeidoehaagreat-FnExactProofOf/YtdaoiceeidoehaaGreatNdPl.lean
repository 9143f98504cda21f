/- What the program's needed keeps, round by round. -/
import Derived.Test.YtdaoiceeidoehaaGreatJ35
open Go.Proofs.Tryz
namespace Go.Proofs.YtdaoiceeidoehaaGreat
set_option linter.unusedVariables false
set_option linter.unusedSectionVars false
set_option maxRecDepth 100000
open Go.ChangeShapes Go.WideShapes Go.ChangeAt Go.RowKit Go.Maps Go.Shelf
open Pl
section
variable [DecidableEq Fc]
structure N1 (w X:World) (P:Nat) (vL:Value) (q:Nat) (Q:List Fc):Prop where
 bel:Below w.heap.size w X
 x0:bZ X w.heap.size (.pointer (some ⟨P,0,none⟩)) 76
 x1:bZ X (w.heap.size + 1) vL 38
 x5:bZ X (w.heap.size + 1 + 1 + 1) (.map (some (w.heap.size + 1 + 1))) 137
 map:aD dH prog 42 X (w.heap.size + 1 + 1) q (iL (jr Q (Q.take q)))
theorem NZ (w:World) (P:Nat) (vL:Value) (Q:List Fc) {W0:World} (hW0:W0=(((w.alloc (.cells #[.pointer (some ⟨P,0,none⟩)] 76)).alloc (.cells #[vL] 38)).alloc (.map #[] 0)).alloc (.cells #[.map (some (w.heap.size + 1 + 1))] 137)):N1 w W0 P vL 0 Q:=by
 obtain ⟨V1,e1⟩:∃ V,V=w.alloc (.cells #[.pointer (some ⟨P,0,none⟩)] 76):=⟨_,rfl⟩;obtain ⟨V2,e2⟩:∃ V,V=V1.alloc (.cells #[vL] 38):=⟨_,rfl⟩;obtain ⟨V3,e3⟩:∃ V,V=V2.alloc (.map #[] 0):=⟨_,rfl⟩;rw [← e1,← e2,← e3] at hW0;have t1:V1.heap.size=w.heap.size + 1:=by rw [e1,World.size_alloc]
 have t2:V2.heap.size=w.heap.size + 1 + 1:=by rw [e2,World.size_alloc,t1]
 have t3:V3.heap.size=w.heap.size + 1 + 1 + 1:=by rw [e3,World.size_alloc,t2]
 have f1:Below w.heap.size w V1:=by rw [e1]; exact (R3 _ _).alloc (R4 _) _
 have f2:Below V1.heap.size V1 V2:=by rw [e2]; exact (R3 _ _).alloc (R4 _) _
 have f3:Below V2.heap.size V2 V3:=by rw [e3]; exact (R3 _ _).alloc (R4 _) _
 have f4:Below V3.heap.size V3 W0:=by rw [hW0]; exact (R3 _ _).alloc (R4 _) _
 have f12:=f1.trans (f2.mono f1.size);have f13:=f12.trans (f3.mono f12.size);have g1:bZ V1 w.heap.size (.pointer (some ⟨P,0,none⟩)) 76:=by rw [e1]; exact World.alloc_heap_new w _
 have g2:bZ V2 (w.heap.size + 1) vL 38:=by rw [e2,← t1]; exact World.alloc_heap_new V1 _
 have g3:aD dH prog 42 V3 (w.heap.size + 1 + 1) 0 (fun _=>none):=by
  have:=jl dH prog 42 V2;rw [← e3,t2] at this; exact this
 have g4:bZ W0 (w.heap.size + 1 + 1 + 1) (.map (some (w.heap.size + 1 + 1))) 137:=by rw [hW0,← t3]; exact World.alloc_heap_new V3 _
 have ek:iL (jr Q (Q.take 0))=fun _=>none:=rfl;exact ⟨f13.trans (f4.mono f13.size),((g1.bel f2).bel f3).bel f4,(g2.bel f3).bel f4,g4,by rw [ek]; exact g3.below f4⟩
theorem N1.put {w X Y:World} {P q:Nat} {vL:Value} {Q:List Fc} (h:N1 w X P vL q Q) (hg:X.grownBy Y (some (w.heap.size + 1 + 1))) (hM:aD dH prog 42 Y (w.heap.size + 1 + 1) (q + 1) (iL (jr Q (Q.take (q + 1))))):N1 w Y P vL (q + 1) Q where
 bel:=h.bel.grown hg h.bel.size (fun g e=>by injection e with e; omega)
 x0:=(hg.block _ (Array.getElem?_eq_some_iff.1 h.x0).1 (fun e=>by injection e with e; omega)).trans h.x0
 x1:=(hg.block _ (Array.getElem?_eq_some_iff.1 h.x1).1 (fun e=>by injection e with e; omega)).trans h.x1
 x5:=(hg.block _ (Array.getElem?_eq_some_iff.1 h.x5).1 (fun e=>by injection e with e; omega)).trans h.x5
 map:=hM
theorem N1.below {w X Y:World} {P q:Nat} {vL:Value} {Q:List Fc} (h:N1 w X P vL q Q) (hb:Below X.heap.size X Y):N1 w Y P vL q Q :=
 ⟨h.bel.trans (hb.mono h.bel.size),h.x0.bel hb,h.x1.bel hb,h.x5.bel hb,h.map.below hb⟩
def IE (w wr:World) (P:Nat) (vL:Value):List (Nat × Value × TypeId):=[(w.heap.size,.pointer (some ⟨P,0,none⟩),76),(w.heap.size + 1,vL,38),(w.heap.size + 1 + 1 + 1,.map (some (w.heap.size + 1 + 1)),137),(wr.heap.size,.func (.func 70) #[] #[.pointer (some ⟨w.heap.size + 1 + 1 + 1,0,none⟩)],141),(wr.heap.size + 1 + 1,.map (some (wr.heap.size + 1)),142),(wr.heap.size + 1 + 1 + 1 + 1,vL,38)]
theorem N7 (rs:List TR) (ts:List Tp) {w wr W1 W2:World} {P k:Nat} {vL:Value} {Q:List Fc} (h:N1 w wr P vL (k + 1) Q)
  (hW1:W1=(((wr.alloc (.cells #[.func (.func 70) #[] #[.pointer (some ⟨w.heap.size + 1 + 1 + 1,0,none⟩)]] 141)).alloc (.map #[] 0)).alloc (.cells #[.map (some (wr.heap.size + 1))] 142)).alloc (.cells #[.slice none 0 0] 38))
  (hW2:W2=W1.alloc (.cells #[vL] 38)) :
  W1.heap.size=wr.heap.size + 1 + 1 + 1 + 1∧W2.heap.size=wr.heap.size + 1 + 1 + 1 + 1 + 1∧Below wr.heap.size wr W2∧NdK w W2.heap.size (w.heap.size + 1 + 1) (wr.heap.size + 1) (wr.heap.size + 1 + 1 + 1) (IE w wr P vL)∧NdR w rs ts Q W2.heap.size (w.heap.size + 1 + 1) (wr.heap.size + 1) (wr.heap.size + 1 + 1 + 1) (IE w wr P vL) W2 [] (.slice none 0 0) (fun _=>none) 0 []∧aD dH prog 42 W2 (w.heap.size + 1 + 1) (k + 1) (iL (jr Q (Q.take (k + 1) ++ []))):=by
 obtain ⟨V1,e1⟩:∃ V,V=wr.alloc (.cells #[.func (.func 70) #[] #[.pointer (some ⟨w.heap.size + 1 + 1 + 1,0,none⟩)]] 141):=⟨_,rfl⟩;obtain ⟨V2,e2⟩:∃ V,V=V1.alloc (.map #[] 0):=⟨_,rfl⟩;obtain ⟨V3,e3⟩:∃ V,V=V2.alloc (.cells #[.map (some (wr.heap.size + 1))] 142):=⟨_,rfl⟩;rw [← e1,← e2,← e3] at hW1;have t1:V1.heap.size=wr.heap.size + 1:=by rw [e1,World.size_alloc]
 have t2:V2.heap.size=wr.heap.size + 1 + 1:=by rw [e2,World.size_alloc,t1]
 have t3:V3.heap.size=wr.heap.size + 1 + 1 + 1:=by rw [e3,World.size_alloc,t2]
 have t4:W1.heap.size=wr.heap.size + 1 + 1 + 1 + 1:=by rw [hW1,World.size_alloc,t3]
 have t5:W2.heap.size=wr.heap.size + 1 + 1 + 1 + 1 + 1:=by rw [hW2,World.size_alloc,t4]
 have f1:Below wr.heap.size wr V1:=by rw [e1]; exact (R3 _ _).alloc (R4 _) _
 have f2:Below V1.heap.size V1 V2:=by rw [e2]; exact (R3 _ _).alloc (R4 _) _
 have f3:Below V2.heap.size V2 V3:=by rw [e3]; exact (R3 _ _).alloc (R4 _) _
 have f4:Below V3.heap.size V3 W1:=by rw [hW1]; exact (R3 _ _).alloc (R4 _) _
 have f5:Below W1.heap.size W1 W2:=by rw [hW2]; exact (R3 _ _).alloc (R4 _) _
 have f12:=f1.trans (f2.mono f1.size);have f13:=f12.trans (f3.mono f12.size);have f14:=f13.trans (f4.mono f13.size);have f15:=f14.trans (f5.mono f14.size);have g1:bZ V1 wr.heap.size (.func (.func 70) #[] #[.pointer (some ⟨w.heap.size + 1 + 1 + 1,0,none⟩)]) 141:=by rw [e1]; exact World.alloc_heap_new wr _
 have g2:G.Grp dH prog 42 139 2 (zB Q) V2 (wr.heap.size + 1) 0 (fun _=>none) []:=by
  have:=G.grp_made (enc:=dH) (P:=prog) (kt:=42) (et:=139) (sz:=2) (cl:=zB Q) V1;rw [← e2,t1] at this; exact this
 have g3:bZ V3 (wr.heap.size + 1 + 1) (.map (some (wr.heap.size + 1))) 142:=by rw [e3,← t2]; exact World.alloc_heap_new V2 _
 have g4:bZ W1 (wr.heap.size + 1 + 1 + 1) (.slice none 0 0) 38:=by rw [hW1,← t3]; exact World.alloc_heap_new V3 _
 have g5:bZ W2 (wr.heap.size + 1 + 1 + 1 + 1) vL 38:=by rw [hW2,← t4]; exact World.alloc_heap_new W1 _
 have hx5:w.heap.size + 1 + 1 + 1 < wr.heap.size:=(Array.getElem?_eq_some_iff.1 h.x5).1;have hn:=h.below f15;refine ⟨t4,t5,f15,⟨by omega,by omega,by omega,by omega,by omega,by omega,by omega,?_⟩,⟨hn.bel,R4 _,dR hn.map,World.ownsRow_nil _ _ _ _,g4.bel f5,?_,((g2.below f3).below f4).below f5,fun e he=>by cases he⟩,by rw [List.append_nil]; exact hn.map⟩
 ·intro p hp;simp only [IE,List.mem_cons,List.not_mem_nil,or_false] at hp;rcases hp with rfl | rfl | rfl | rfl | rfl | rfl <;> exact ⟨by simp only; omega,by simp only; omega,by simp only; decide,by simp only; decide⟩
 ·intro p hp;simp only [IE,List.mem_cons,List.not_mem_nil,or_false] at hp;rcases hp with rfl | rfl | rfl | rfl | rfl | rfl
  ·exact hn.x0
  ·exact hn.x1
  ·exact hn.x5
  ·exact (((g1.bel f2).bel f3).bel f4).bel f5
  ·exact (g3.bel f4).bel f5
  ·exact g5
structure NdP (rs:List TR) (ts:List Tp) (Q:List Fc) (k q:Nat) (f:Fc) (kept:List Fc) (E:List (Fc × (Fc × Value))):Prop where
 q1:q≤k + 1
 sub:kept.Sublist (Q.drop (k + 1 - q))
 prf:z8 (dE rs ts Q) (Q.take (k + 1 - q) ++ kept)
 ned:q=0∧kept=[] ∨ 1≤q∧kept ≠ []∧jS (gy rs ts Q) Q (k + 1 - q) kept=jh rs ts Q f k
 own:∀ e ∈ E,e.2.1 ∈ kept
 hng:∀ x ∈ kept,gu (dE rs ts Q x) (K6 E x)
 len:E.length≤q * 15625000
theorem K9 {rs:List TR} {ts:List Tp} {Q:List Fc} {k:Nat} {f:Fc} (hP:z8 (dE rs ts Q) Q):NdP rs ts Q k 0 f [] [] where
 q1:=R6 _
 sub:=List.nil_sublist _
 prf:=by
  rw [List.append_nil];have h:=hP;rw [← SK (k + 1 - 0) Q] at h;have h2:z8 (dE rs ts Q) (Q.take (k + 1 - 0) ++ Q.drop (k + 1 - 0)):=by rw [SK]; exact hP
  exact h2.left
 ned:=.inl ⟨rfl,rfl⟩
 own e he:=by cases he
 hng x hx:=by cases hx
 len:=by simp
theorem NdP.sub2 {rs:List TR} {ts:List Tp} {Q:List Fc} {k q i:Nat} {fk:Fc} {kept:List Fc} {E:List (Fc × (Fc × Value))} (h:NdP rs ts Q k q fk kept E) (hi:i + q=k):kept.Sublist (Q.drop (i + 1)):=by
 have:=h.sub;rw [show k + 1 - q=i + 1 by omega] at this; exact this
theorem NdP.prf2 {rs:List TR} {ts:List Tp} {Q:List Fc} {k q i:Nat} {fk:Fc} {kept:List Fc} {E:List (Fc × (Fc × Value))} (h:NdP rs ts Q k q fk kept E) (hi:i + q=k):z8 (dE rs ts Q) (Q.take (i + 1) ++ kept):=by
 have:=h.prf;rw [show k + 1 - q=i + 1 by omega] at this; exact this
theorem NdP.skip {rs:List TR} {ts:List Tp} {Q:List Fc} {k q i:Nat} {fk:Fc} {kept:List Fc} {E:List (Fc × (Fc × Value))} (h:NdP rs ts Q k q fk kept E) (hi:i + q=k) (WH:i < Q.length) (hik:i < k) (hok:∀ x ∈ Q,okB x=true) (ht:gy rs ts Q i kept=true):NdP rs ts Q k (q + 1) fk kept E:=by
 have e1:k + 1 - (q + 1)=i:=by omega
 have e2:k + 1 - q=i + 1:=by omega
 have hs:=h.sub2 hi;have hp:=KY WH hok (fun x hx=>List.mem_of_mem_drop (hs.subset hx)) (h.prf2 hi);rw [if_pos ht] at hp;refine ⟨by omega,?_,by rw [e1]; exact hp,.inr ⟨by omega,?_⟩,h.own,h.hng,Sb h.len (Nat.mul_le_mul_right _ (by omega))⟩
 ·rw [e1,Sr WH];exact hs.cons _
 ·rcases h.ned with ⟨h0,-⟩ | ⟨-,h1,h2⟩
  ·omega
  ·exact ⟨h1,by rw [e1,← h2,e2,BI WH ht]⟩
theorem NdP.keep {rs:List TR} {ts:List Tp} {Q:List Fc} {k q i:Nat} {fk:Fc} {kept:List Fc} {E:List (Fc × (Fc × Value))} {fs:List Fc} {v:Value} (h:NdP rs ts Q k q fk kept E) (hi:i + q=k) (WH:i < Q.length) (ht:i < k→gy rs ts Q i kept=false) (hfk:i=k→fk=Q[i]) (hH:gu (dE rs ts Q Q[i]) fs) (hl:fs.length≤15625000):NdP rs ts Q k (q + 1) fk (Q[i]::kept) (E ++ fs.map fun g=>(g,(Q[i],v))):=by
 have e1:k + 1 - (q + 1)=i:=by omega
 have e2:k + 1 - q=i + 1:=by omega
 have hs:=h.sub2 hi;have hp:=h.prf2 hi;rw [R5 WH,List.append_assoc] at hp;refine ⟨by omega,?_,by rw [e1]; exact hp,.inr ⟨by omega,by simp,?_⟩,fun e he=>?_,fun x hx=>?_,?_⟩
 ·rw [e1,Sr WH];exact hs.cons_cons _
 ·rw [e1];rcases h.ned with ⟨h0,h1⟩ | ⟨h0,h1,h2⟩
  ·have hik:i=k:=by omega
   rw [h1,hfk hik];subst hik;rfl
  ·rw [← h2,e2,FH WH (ht (by omega))]
 ·rcases Sd.1 he with he | he
  ·exact SA _ (h.own e he)
  ·obtain ⟨g,-,rfl⟩:=Sa.1 he;exact SC ..
 ·rcases List.mem_cons.1 hx with rfl | hx
  ·exact hH.more fun g hg=>o8.2 ⟨v,List.mem_append_right _ (Sa.2 ⟨g,hg,rfl⟩)⟩
  ·exact (h.hng x hx).more fun g hg=>by
    obtain ⟨u,hu⟩:=o8.1 hg;exact o8.2 ⟨u,List.mem_append_left _ hu⟩
 ·rw [R9,Sv,Nat.add_mul,Nat.one_mul];exact Nat.add_le_add h.len hl
theorem PL {Q kept:List Fc} {i:Nat} (hQ:Q.Nodup) (hi:i < Q.length) (hsub:kept.Sublist (Q.drop (i + 1))):∀ g,g ∈ Q.take i ++ kept ↔ g ∈ Q.take (i + 1) ++ kept∧g ≠ Q[i]:=fun g=>by
 have h1:∀ x ∈ Q.take i,x ≠ Q[i]:=fun x hx e=>by
  obtain ⟨a,ha,e2⟩:=Sz hx;rw [Sq] at ha;rw [List.getElem_take] at e2;have h3:idx Q Q[a]=idx Q Q[i]:=by rw [e2,e]
  rw [gP Q hQ a (by omega),gP Q hQ i hi] at h3;omega
 have h2:∀ x ∈ kept,x ≠ Q[i]:=fun x hx e=>by
  obtain ⟨a,ha,e2⟩:=Sz (hsub.subset hx);rw [List.getElem_drop] at e2;rw [List.length_drop] at ha;have h3:idx Q Q[i + 1 + a]=idx Q Q[i]:=by rw [e2,e]
  rw [gP Q hQ _ (by omega),gP Q hQ i hi] at h3;omega
 rw [R5 hi];simp only [Sd,Sm];constructor
 ·rintro (h | h)
  ·exact ⟨.inl (.inl h),h1 g h⟩
  ·exact ⟨.inr h,h2 g h⟩
 ·rintro ⟨(h | h) | h,hne⟩
  ·exact .inl h
  ·exact absurd h hne
  ·exact .inr h
theorem put_mem {Q kept:List Fc} {i:Nat} (hi:i < Q.length):∀ g,g ∈ Q.take i ++ Q[i]::kept ↔ g ∈ Q.take i ++ kept ∨ g=Q[i]:=fun g=>by
 simp only [Sd,List.mem_cons];constructor
 ·rintro (h | h | h)
  ·exact .inl (.inl h)
  ·exact .inr h
  ·exact .inl (.inr h)
 ·rintro ((h | h) | h)
  ·exact .inl h
  ·exact .inr (.inr h)
  ·exact .inr (.inl h)
theorem QO:∀ u:World,(zeroValue 147).run prog u=.ok (.slice none 0 0) u:=fun u=>Tryz.zeroValue147 u
theorem PN:∃ i,prog.info? 139=some i∧i.zero=some (.agg #[.int .i64 0,.nilIface])∧i.size=2∧i.bytes=24 :=
 info_parts (P:=prog) (e:=139) (z:=.agg #[.int .i64 0,.nilIface]) (size:=2) (bytes:=24) (by kernel_rfl)
structure LpI (w:World) (rs:List TR) (ts:List Tp) (Q:List Fc) (N0 bm ba bk:Nat) (BX:List (Nat × Value × TypeId)) (Y wr:World) (kept:List Fc) (vk:Value) (M:Fc→Option Value) (E:List (Fc × (Fc × Value))) (nP:Nat) (S:List Fc) (f:Fc) (rv:Value) (Uy:Option Addr) (fs:List Fc) (B13 j:Nat):Prop where
 nd:NdR w rs ts Q N0 bm ba bk BX wr kept vk M (E.length + j) (E ++ (fs.take j).map fun g=>(g,(f,rv)))
 pl:aD dH prog 42 wr bm nP (iL (jr Q S))
 kp:KeepsFrom N0 Y wr
 ru:av wr (Q8 N0 vk M) 8 rv (dE rs ts Q f)
 sl:gX wr Uy fs
 fr:fs=[] ∨ ∃ g,Uy=some ⟨g,0,none⟩∧N0≤g∧G.FreeB M g
 s0:G.Cel wr M ba B13 0 (.int .i64 (idx Q f:Int))
 s1:G.Cel wr M ba B13 1 rv
theorem jK {B:Nat} {X Y Z:World} (h:KeepsFrom B X Y) (k:KeepsFrom B Y Z):KeepsFrom B X Z:=⟨Sb h.size k.size,fun g o hB h1 h2=>k.same g o hB (h.same g o hB h1 h2) h2⟩
theorem jc {B:Nat} {X Y:World} (h:Below X.heap.size X Y):KeepsFrom B X Y:=⟨h.size,fun g o _ h1 _=>(h.block g (Array.getElem?_eq_some_iff.1 h1).1).trans h1⟩
theorem vP {B b:Nat} {X Y:World} (h:X.grownBy Y (some b)) (hb:b < B):KeepsFrom B X Y:=⟨h.size,fun g o hB h1 _=>(h.block g (Array.getElem?_eq_some_iff.1 h1).1 (fun e=>by injection e with e; omega)).trans h1⟩
variable {w:World} {rs:List TR} {ts:List Tp} {Q:List Fc} {N0 bm ba bk:Nat} {BX:List (Nat × Value × TypeId)}
theorem LpI.below {Y wr wr':World} {kept:List Fc} {vk:Value} {M:Fc→Option Value} {E:List (Fc × (Fc × Value))} {nP:Nat} {S:List Fc} {f:Fc} {rv:Value} {Uy:Option Addr} {fs:List Fc} {B13 j:Nat} (h:LpI w rs ts Q N0 bm ba bk BX Y wr kept vk M E nP S f rv Uy fs B13 j) (hb:Below wr.heap.size wr wr'):LpI w rs ts Q N0 bm ba bk BX Y wr' kept vk M E nP S f rv Uy fs B13 j where
 nd:=h.nd.below hb
 pl:=h.pl.below hb
 kp:=jK h.kp (jc hb)
 ru:=h.ru.below hb
 sl:=h.sl.below hb
 fr:=h.fr
 s0:=h.s0.stl (G.Stl.below hb)
 s1:=h.s1.stl (G.Stl.below hb)
theorem LpI.ask {Y W0 w1 w2 w3:World} {kept:List Fc} {vk v':Value} {M:Fc→Option Value} {E:List (Fc × (Fc × Value))} {nP:Nat} {S:List Fc} {f:Fc} {rv:Value} {Uy:Option Addr} {fs:List Fc} {B13 j:Nat} (hK:NdK w N0 bm ba bk BX) (h:LpI w rs ts Q N0 bm ba bk BX Y W0 kept vk M E nP S f rv Uy fs B13 j) (hj:j < fs.length) (hg1:W0.grownBy w1 (some ba)) (hown:w2.ownsRow (ba + 1) 139 2 v' ((G.lookL (E ++ (fs.take j).map fun g=>(g,(f,rv))) fs[j]).length + 1) (G.flatG (zB Q) (G.lookL (E ++ (fs.take j).map fun g=>(g,(f,rv))) fs[j]) ++ zB Q (f,rv)))
  (hg2:w1.grownBy w2 ((M fs[j]).getD (.slice none 0 0)).ownBlock) (hloc:v'.ownBlock=((M fs[j]).getD (.slice none 0 0)).ownBlock ∨ v'.ownBlock=some w1.heap.size) (hg3:w2.grownBy w3 (some ba)) (hM:aD dH prog 42 w3 ba (E.length + j + 1) (fw M fs[j] (some v'))) :
  LpI w rs ts Q N0 bm ba bk BX Y w3 kept vk (fw M fs[j] (some v')) E nP S f rv Uy fs B13 (j + 1):=by
 obtain ⟨h1,h2,h3,h4,h5⟩:=NdR.ask hK h.nd h.ru hg1 hown hg2 hloc hg3 hM;have ba1:=hK.a1;refine ⟨?_,h.pl.of_block h4,jK h.kp h3,h5,?_,?_,h.s0.stl h2,h.s1.stl h2⟩
 ·rw [R5 hj,List.map_append,← List.append_assoc];exact h1
 ·refine h.sl.blockF h2.size fun hne=>?_;rcases h.fr with e | ⟨g,e,hN,hf⟩
  ·exact absurd e hne
  ·exact ⟨g,e,fun hl=>h2.block g hl (by omega) hf⟩
 ·rcases h.fr with e | ⟨g,e,hN,hf⟩
  ·exact .inl e
  ·rcases h.sl with e2 | ⟨b,off,e2,hb,-⟩
   ·exact .inl e2
   ·refine .inr ⟨g,e,hN,h2.free g ?_ hf⟩;rw [e] at e2; injection e2 with e2; injection e2 with e2 e3;omega
theorem N8 {W W1:World} {nA:Nat} {M:Fc→Option Value} {E:List (Fc × (Fc × Value))} (h:G.Grp dH prog 42 139 2 (zB Q) W ba nA M E) (hg:W.grownBy W1 (some ba)) (y:Fc):W1.ownsRow (ba + 1) 139 2 ((M y).getD (.slice none 0 0)) (G.lookL E y).length (G.flatG (zB Q) (G.lookL E y)):=by
 rcases h.row y with ⟨e,e2⟩ | ⟨v,e,ho⟩
 ·rw [e,e2]; exact World.ownsRow_nil _ _ _ _
 ·rw [e];refine ho.kept hg ?_;cases e2:v.ownBlock with
  | none=>exact .inl rfl
  | some g=>right; have:=(h.lt e e2).1; intro e3; injection e3 with e3; omega
theorem PO {W W1 W2:World} {nA:Nat} {M:Fc→Option Value} {E:List (Fc × (Fc × Value))} (h:G.Grp dH prog 42 139 2 (zB Q) W ba nA M E) {y:Fc} (hl:ba < W1.heap.size) (hg:W1.grownBy W2 ((M y).getD (.slice none 0 0)).ownBlock):W2.heap[ba]?=W1.heap[ba]?:=hg.block _ hl fun e=>by
 cases ey:M y with
 | none=>rw [ey] at e; simp [Value.ownBlock] at e
 | some v=>rw [ey] at e; have:=(h.lt ey (g:=ba) (by simpa using e.symm)).1; omega
theorem La {E:List (Fc × (Fc × Value))} (y:Fc):(G.lookL E y).length≤E.length:=by unfold G.lookL; exact List.length_filterMap_le _ _
theorem Lb {Y Y4 Y5 Y6 Y7:World} {kept:List Fc} {vk:Value} {M:Fc→Option Value} {E:List (Fc × (Fc × Value))} {nP:Nat} {S:List Fc} {f:Fc} {rv:Value} {Uy:Option Addr} {fs:List Fc} {i:Nat} (hK:NdK w N0 bm ba bk BX) (Yl:NdR w rs ts Q N0 bm ba bk BX Y4 kept vk M E.length E) (hM4:aD dH prog 42 Y4 bm nP (iL (jr Q S))) (hkp:KeepsFrom N0 Y Y4) (hb5:Below Y4.heap.size Y4 Y5) (WA:av Y5 (ic Y4.heap.size) 8 rv (dE rs ts Q f)) (hY6:Y6=Y5.alloc (.cells #[.int .i64 (i:Int),rv] 139)) (hi:idx Q f=i) (VJ:Below Y6.heap.size Y6 Y7) (hsl:gX Y7 Uy fs) (hat:QN (ic Y4.heap.size) Y6 Uy fs) :
  LpI w rs ts Q N0 bm ba bk BX Y Y7 kept vk M E nP S f rv Uy fs Y5.heap.size 0:=by
 have hb6:Below Y5.heap.size Y5 Y6:=by rw [hY6]; exact (R3 _ _).alloc (R4 _) _
 have s6:Y6.heap.size=Y5.heap.size + 1:=by rw [hY6,World.size_alloc]
 have x0:Y6.cell? ⟨Y5.heap.size,0,none⟩=some (.int .i64 (idx Q f:Int)):=by rw [hY6,hi]; simp
 have x1:Y6.cell? ⟨Y5.heap.size,1,none⟩=some rv:=by rw [hY6]; simp
 have hn:=Yl.n0;have h45:=hb5.size;have h67:=VJ.size;have ha:=hK.a1;have hfree:∀ g,Y4.heap.size≤g→G.FreeB M g:=fun g hg=>Yl.grp.fresh hg;have hR7:=((Yl.below hb5).below hb6).below VJ;refine ⟨by simpa using hR7,((hM4.below hb5).below hb6).below VJ,jK (jK (jK hkp (jc hb5)) (jc hb6)) (jc VJ),?_,hsl,?_,⟨aA VJ (by omega) x0,by omega,hfree _ (by omega),by omega⟩,⟨aA VJ (by omega) x1,by omega,hfree _ (by omega),by omega⟩⟩
 ·refine av.keep (R4 _) (fun g hg _=>⟨⟨?_,fun e=>?_,hfree g hg⟩,rfl⟩) _ _ _ ((WA.below hb6).below VJ)
  ·have:Y4.heap.size≤g:=hg;omega
  ·have:Y4.heap.size≤g:=hg;have:=(Yl.row.lt g e).2;omega
 ·rcases hat with e | ⟨g,e,h | h⟩
  ·exact .inl e
  ·have:Y4.heap.size≤g:=h;exact .inr ⟨g,e,by omega,hfree g this⟩
  ·exact .inr ⟨g,e,by omega,hfree g (by omega)⟩
theorem QP (w:World) (a b:Value):∀ j u,[a,b][j]?=some u→(w.alloc (.cells #[a,b] 139)).cell? ((⟨w.heap.size,0,none⟩:Addr).add j)=some u:=fun j u hu=>by
 match j,hu with
 | 0,hu=>simp at hu; subst hu; simp [Addr.add]
 | 1,hu=>simp at hu; subst hu; simp [Addr.add]
 | j + 2,hu=>simp at hu
end
end Go.Proofs.YtdaoiceeidoehaaGreat
