/- What the program's search for all facts keeps in memory. -/
import Derived.Test.YtdmniljjnaebbaaGreatDoorSq
import Derived.Test.YtdmniljjnaebbaaGreatDoorJ27
import Derived.Test.YtdmniljjnaebbaaGreatDoorJ22
import Derived.Maps.OwnIn
import Derived.Test.YtdmniljjnaebbaaGreatDoorL4All
open Go.Proofs.Tryz
set_option maxHeartbeats 80000000
namespace Go.Proofs.YtdmniljjnaebbaaGreatDoor
set_option linter.unusedVariables false
set_option maxRecDepth 100000
open Go.ChangeShapes Go.WideShapes Go.ChangeAt Go.RowKit Go.Maps Go.Shelf
open Pl
theorem wO {K:Type} {enc:K→Value} {P:Program} {F:Fence} {nF:Nat} (w:af) {ops:Array Oper} {rest:List Oper} {o:Oper} {a:Act} {Q:Exit→Act→World→Prop} [DecidableEq K] (hg:o.guard=none) (m x v:Operand) (t:TypeId) (hop:o.op=Op.mapUpdate t m x v) (k e:TypeId) (L:Keyed P k) (hinj:∀ x y,enc x=enc y→x=y) (ht:P.underlying t=some (.map k e)) (b n:Nat) (M:K→Option Value)
  (hm:a.eval m=.map (some b)) (hV:aJ enc P k w b n M) (hn:n < maxLen) (y:K) (kl:Lit) (hx:a.eval x=enc y) (hkey:keyOf P k (enc y)=some kl) (u:Value) (hv:a.eval v=u)
  (hK:∀ w',aJ enc P k w' b (n + 1) (jV M y (some u))→w.grownBy w' (some b)→wpListIn F nF P ops Q rest (a.put o.dst undef) w'):wpListIn F nF P ops Q (o::rest) a w:=by
 refine wpListIn_plain hg fun K' hK'=>?_;obtain ⟨w',hrun,r1,r2⟩:=hV.store L hinj ht hn hkey u;unfold Oper.wpIn;refine ⟨by simp [Oper.about,hop],?_⟩;rw [Oper.semAt_plain F _ _ (by rw [hop]; intro c hc'; cases hc')];simp [execOp,hop,hm,hx,hv,hrun,Result.andThen];exact hK' _ _ (hK w' r1 r2)
theorem Js [DecidableEq Fc] (out:List Fc) (f:Fc):jV (vS out) f (some (.agg #[]))=vS (out ++ [f]):=by
 funext y
 by_cases e:y=f
 ·subst e;rw [dJ];unfold vS;rw [if_pos (jI.2 (by simp))]
 rw [bQ e];unfold vS;have:dG (out ++ [f]) y=dG out y:=by
  rw [Bool.eq_iff_iff,jI,jI];simp [e]
 rw [this]
def marks (rl:List Nat):List Deferred:=rl.map fun r=>{ target:=.collected r,args:=#[] }
def ic (W:World) (rl:List Nat):Prop:=rl.Nodup∧∀ r ∈ rl,W.heap[r]?=some (.deferred (some []))
theorem ic.kp {b l:Nat} {W W':af} {rl:List Nat} (h:ic W rl) (hk:KpO b l W W') (hl:l ∉ rl) (hb:b ∉ rl):ic W' rl :=
 ⟨h.1,fun r hr=>hk.other r _ (h.2 r hr) rfl (fun e=>hl (e ▸ hr)) (fun e=>hb (e ▸ hr))⟩
theorem ic.bel {W W':af} {rl:List Nat} (h:ic W rl) (hb:aa W W'):ic W' rl :=
 ⟨h.1,fun r hr=>(hb.block r (Array.getElem?_eq_some_iff.1 (h.2 r hr)).1).trans (h.2 r hr)⟩
theorem ic.lt {W:af} {rl:List Nat} (h:ic W rl) {r:Nat} (hr:r ∈ rl):r < W.heap.size:=(Array.getElem?_eq_some_iff.1 (h.2 r hr)).1
theorem tq {n:Nat} {P:Program} {fn:Func} {tmps:Array Value} {R:Ending→World→Prop} (B:Nat) (Inv:World→Prop) (hinv:∀ W r,B < r→Inv W→W.heap[r]?=some (.deferred (some []))→Inv (W.putObj r (.deferred none))) (hend:∀ W,Inv W→LeavesIn Fence.wide n P fn tmps R [] .returning W):∀ (rl:List Nat) (W:af),ic W rl→(∀ r ∈ rl,B < r)→Inv W→LeavesInM Fence.wide n P fn tmps R (marks rl) .returning W
 | [],W,_,_,hI=>hend W hI
 | r::rl,W,hm,hB,hI=>by
  have hr:=hm.2 r (by simp);obtain ⟨h1,h2⟩:=List.nodup_cons.1 hm.1;refine ⟨by simp,.inl ⟨r,_,rfl,run_takeDeferred hr,tq B Inv hinv hend rl _ ⟨h2,fun q hq=>?_⟩ (fun q hq=>hB q (by simp [hq])) (hinv W r (hB r (by simp)) hI hr)⟩⟩;have hne:q ≠ r:=fun e=>h1 (e ▸ hq);rw [mI hne];exact hm.2 q (by simp [hq])
theorem Jt {b l:Nat} {W W':af} {base size n:Nat} {T:TypeId} {v:Value} {xs:List Value} (h:W.ownsRow base T size v n xs) (hk:KpO b l W W') (h1:T ≠ 63) (h2:T ≠ 33):W'.ownsRow base T size v n xs :=
 dw h fun g hg=>by
  obtain ⟨cur,e⟩:=iV h hg;rw [hk.cells g _ _ _ e h1 h2,e]
structure FBx (W:World) (B D:Nat) (sn:Int) (vU:Value) (bK:Nat):Prop where
 d:fO W B (.pointer (some ⟨D,0,none⟩)) 107
 s:fO W (B + 1) (.int .i64 sn) 2
 u:fO W (B + 1 + 1) vU 139
 k:fO W (B + 1 + 1 + 1) (.map (some bK)) 114
theorem FBx.kp {b l0:Nat} {W W':af} {B D:Nat} {sn:Int} {vU:Value} {bK:Nat} (h:FBx W B D sn vU bK) (hk:KpO b l0 W W'):FBx W' B D sn vU bK :=
 ⟨h.d.kp hk (by decide) (by decide),h.s.kp hk (by decide) (by decide),h.u.kp hk (by decide) (by decide),h.k.kp hk (by decide) (by decide)⟩
theorem Pw (w:af) (D:Nat) (sn:Int) (vU:Value) (bK:Nat) {W:af} (hW:W=(((w.alloc (.cells #[.pointer (some ⟨D,0,none⟩)] 107)).alloc (.cells #[.int .i64 sn] 2)).alloc (.cells #[vU] 139)).alloc (.cells #[.map (some bK)] 114)):FBx W w.heap.size D sn vU bK∧aa w W∧W.heap.size=w.heap.size + 1 + 1 + 1 + 1:=by
 obtain ⟨V1,e1⟩:∃ V,V=w.alloc (.cells #[.pointer (some ⟨D,0,none⟩)] 107):=⟨_,rfl⟩;obtain ⟨V2,e2⟩:∃ V,V=V1.alloc (.cells #[.int .i64 sn] 2):=⟨_,rfl⟩;obtain ⟨V3,e3⟩:∃ V,V=V2.alloc (.cells #[vU] 139):=⟨_,rfl⟩;rw [← e1,← e2,← e3] at hW;have t1:V1.heap.size=w.heap.size + 1:=by rw [e1,World.size_alloc]
 have t2:V2.heap.size=w.heap.size + 1 + 1:=by rw [e2,World.size_alloc,t1]
 have t3:V3.heap.size=w.heap.size + 1 + 1 + 1:=by rw [e3,World.size_alloc,t2]
 have f1:aa w V1:=by rw [e1]; exact (Si _ _).alloc (Sj _) _
 have f2:aa V1 V2:=by rw [e2]; exact (Si _ _).alloc (Sj _) _
 have f3:aa V2 V3:=by rw [e3]; exact (Si _ _).alloc (Sj _) _
 have f4:aa V3 W:=by rw [hW]; exact (Si _ _).alloc (Sj _) _
 have g1:fO V1 w.heap.size (.pointer (some ⟨D,0,none⟩)) 107:=by rw [e1]; exact World.alloc_heap_new w _
 have g2:fO V2 (w.heap.size + 1) (.int .i64 sn) 2:=by rw [e2,← t1]; exact World.alloc_heap_new V1 _
 have g3:fO V3 (w.heap.size + 1 + 1) vU 139:=by rw [e3,← t2]; exact World.alloc_heap_new V2 _
 have g4:fO W (w.heap.size + 1 + 1 + 1) (.map (some bK)) 114:=by rw [hW,← t3]; exact World.alloc_heap_new V3 _
 have f12:=f1.trans (f2.mono f1.size);have f13:=f12.trans (f3.mono f12.size);exact ⟨⟨((g1.bel f2).bel f3).bel f4,(g2.bel f3).bel f4,g3.bel f4,g4⟩,f13.trans (f4.mono f13.size),by rw [hW,World.size_alloc,t3]⟩
theorem Px {β:Type} {b l:Nat} {X:af}:OwnFrom X.heap.size (fun (_:β) Y=>KpO b l X Y):=fun s Y Z row hs hg hr=>by
 have key:∀ (g:Nat) (o:Obj),X.heap[g]?=some o→Y.heap[g]?=some o→Z.heap[g]?=some o:=fun g o h1 h2=>(hg.block g (Array.getElem?_eq_some_iff.1 h2).1 fun e=>by
  have h3:=(hr g e.symm).1;have h4:=(Array.getElem?_eq_some_iff.1 h1).1;omega).trans h2
 exact ⟨Sq hs.size hg.size,fun g cs T m h h1 h2=>key g _ h (hs.cells g cs T m h h1 h2),fun g o h hc n1 n2=>key g _ h (hs.other g o h hc n1 n2)⟩
structure FoW (w X:World) (v:Value) (out:List Fc):Prop where
 bel:aa w X
 box:fO X w.heap.size v 33
 row:X.ownsRow (w.heap.size + 1) 63 5 v out.length (av out)
 map:aJ jJ prog 63 X (w.heap.size + 1) out.length (vS out)
theorem FoW.below {w X X':af} {v:Value} {out:List Fc} (h:FoW w X v out) (hb:aa X X'):FoW w X' v out :=
 ⟨h.bel.trans (hb.mono h.bel.size),h.box.bel hb,aB h.row hb,h.map.below hb⟩
theorem FoW.kept {w X X':af} {v:Value} {out:List Fc} (h:FoW w X v out) {row:Option Nat} (hg:X.grownBy X' row) (hr:∀ r,row=some r→w.heap.size + 1 < r∧(∃ o,X.heap[r]?=some o∧o.isCells=false)):FoW w X' v out where
 bel:=h.bel.grown hg h.bel.size (fun g e=>by have:=(hr g e).1; omega)
 box:=(hg.block _ (Array.getElem?_eq_some_iff.1 h.box).1 fun e=>by have:=(hr _ e.symm).1; omega).trans h.box
 row:=dw h.row fun g hg2=>hg.block g (h.row.lt g hg2).2 fun e=>by
  obtain ⟨-,o,ho,hc⟩:=hr g e.symm;obtain ⟨cur,e2⟩:=iV h.row hg2;rw [e2] at ho; cases ho; cases hc
 map:=h.map.kept hg (fun e=>by have:=(hr _ e.symm).1; omega)
theorem FoW.step {w X Y V:af} {v v':Value} {out:List Fc} {f:Fc} [DecidableEq Fc] (h:FoW w X v out) (hM:aJ jJ prog 63 Y (w.heap.size + 1) (out.length + 1) (jV (vS out) f (some (.agg #[])))) (hg1:X.grownBy Y (some (w.heap.size + 1)))
  {Y':World} (hY':aa Y Y') (hown:V.ownsRow (w.heap.size + 1) 63 5 v' (out.length + 1) (av out ++ f.row)) (hg2:Y'.grownBy V v.ownBlock) (hat:v'.ownBlock=v.ownBlock ∨ v'.ownBlock=some Y'.heap.size) (l:Nat) :
  FoW w (V.setCell ⟨w.heap.size,0,none⟩ v') v' (out ++ [f])∧KpO (w.heap.size + 1) l X (V.setCell ⟨w.heap.size,0,none⟩ v')∧KeepsFrom (w.heap.size + 1 + 1) X (V.setCell ⟨w.heap.size,0,none⟩ v'):=by
 obtain ⟨es,c,hmb⟩:=nP h.map;have hlB:w.heap.size < X.heap.size:=(Array.getElem?_eq_some_iff.1 h.box).1;have hvB:v.ownBlock ≠ some w.heap.size:=fun e=>by have:=(h.row.lt _ e).1; omega
 have hvM:v.ownBlock ≠ some (w.heap.size + 1):=fun e=>CQ h.row e hmb;have key:∀ (g:Nat) (o:Obj),X.heap[g]?=some o→g ≠ w.heap.size + 1→g ≠ w.heap.size→v.ownBlock ≠ some g→(V.setCell ⟨w.heap.size,0,none⟩ v').heap[g]?=some o:=fun g o hg n1 n2 n3=>by
  have hl:=(Array.getElem?_eq_some_iff.1 hg).1;have y1:Y.heap[g]?=some o:=(hg1.block g hl (fun e=>n1 (by injection e))).trans hg;have hl1:=(Array.getElem?_eq_some_iff.1 y1).1;have y2:Y'.heap[g]?=some o:=(hY'.block g hl1).trans y1;have hl2:=(Array.getElem?_eq_some_iff.1 y2).1;have y3:V.heap[g]?=some o:=(hg2.block g hl2 (fun e=>n3 e.symm)).trans y2;exact (heap_setCell_other V ⟨w.heap.size,0,none⟩ g v' n2).trans y3
 have hVB:V.heap[w.heap.size]?=some (.cells #[v] 33 (0,0)):=by
  have y1:Y.heap[w.heap.size]?=_:=(hg1.block _ hlB (fun e=>by injection e with e; omega)).trans h.box;have y2:Y'.heap[w.heap.size]?=_:=(hY'.block _ (Array.getElem?_eq_some_iff.1 y1).1).trans y1;exact (hg2.block _ (Array.getElem?_eq_some_iff.1 y2).1 (fun e=>hvB e.symm)).trans y2
 have b1:aa w Y:=h.bel.grown hg1 h.bel.size (fun g e=>by injection e with e; omega);have b2:aa w Y':=b1.trans (hY'.mono b1.size);have b3:aa w V:=b2.grown hg2 b2.size (fun g e=>by have:=(h.row.lt g e).1; omega);have sz:X.heap.size≤(V.setCell ⟨w.heap.size,0,none⟩ v').heap.size:=by
  have e1:=hg1.size;have e2:=hY'.size;have e3:=hg2.size;simp; omega
 refine ⟨⟨b3.setCell (Sj _) _,?_,?_,?_⟩,⟨sz,fun g cs T m hg h1 h2=>?_,fun g o hg hc n1 n2=>?_⟩,⟨sz,fun g o hB hg hc=>?_⟩⟩
 ·have:=heap_setCell_same V w.heap.size 0 #[v] _ v' hVB;unfold fO;simpa using this
 ·rw [nR,Sr];exact dw hown fun g hg=>heap_setCell_other V ⟨w.heap.size,0,none⟩ g v' (fun (e:g=w.heap.size)=>by have:=(hown.lt g hg).1; omega)
 ·rw [Sr,← Js];exact ((hM.below hY').kept hg2 (fun e=>hvM e.symm)).setCell (by show w.heap.size + 1 ≠ w.heap.size; omega) _
 ·refine key g _ hg (fun e=>?_) (fun e=>?_) (fun e=>?_)
  ·rw [e,hmb] at hg; cases hg
  ·rw [e,h.box] at hg; injection hg with hg; injection hg with _ hT; exact h2 hT.symm
  obtain ⟨cur,e2⟩:=iV h.row e;rw [e2] at hg; injection hg with hg; injection hg with _ hT; exact h1 hT.symm
 ·refine key g _ hg n2 (fun e=>?_) (fun e=>?_)
  ·rw [e,h.box] at hg; injection hg with hg; subst hg; cases hc
  obtain ⟨cur,e2⟩:=iV h.row e;rw [e2] at hg; injection hg with hg; subst hg; cases hc
 refine key g _ hg (by omega) (by omega) (fun e=>?_);obtain ⟨cur,e2⟩:=iV h.row e;rw [e2] at hg; injection hg with hg; subst hg; cases hc
theorem jP.dropF {w:af} {ad:Option Addr} {fs:List Fc} (h:jP w ad fs) (k:Nat):jP w (Option.map (fun x=>Addr.add x (k * 5)) ad) (fs.drop k):=by
 rcases h with h | ⟨b,off,e,hb,hr⟩
 ·exact .inl (by rw [h]; simp)
 have ea:Option.map (fun x=>Addr.add x (k * 5)) ad=some ⟨b,off + k * 5,none⟩:=by
  rw [e];simp [Addr.add]
 refine .inr ⟨b,off + k * 5,ea,hb,fun i hi=>?_⟩;have hi2:k + i < fs.length:=by rw [List.length_drop] at hi; omega
 have h1:=hr (k + i) hi2;have e2:(fs.drop k)[i]=fs[k + i]:=by simp
 rw [e2];have e3:off + k * 5 + i * 5=off + (k + i) * 5:=by omega
 rw [e3]; exact h1
theorem Py {w:af} {base size n cap:Nat} {T:TypeId} {ad:Option Addr} {xs:List Value} (h:w.ownsRow base T size (.slice ad n cap) n xs):n≤cap:=by
 rcases h.2 with ⟨e,h0⟩ | ⟨g,cap',cur,e,h1,h2,h3,h4,h5,-⟩
 ·omega
 injection e with _ _ e3;omega
theorem NM {Y Y1 Y2 V:af} {B:Nat} {v:Value} {T:TypeId} (h:fO Y B v T) (hg1:Y.grownBy Y1 (some (B + 1))) (hY2:aa Y1 Y2) (hg2:Y2.grownBy V v.ownBlock) (hv:v.ownBlock ≠ some B):fO V B v T:=by
 have y1:Y1.heap[B]?=_:=(hg1.block _ (Array.getElem?_eq_some_iff.1 h).1 (fun e=>by injection e with e; omega)).trans h;have y2:Y2.heap[B]?=_:=(hY2.block _ (Array.getElem?_eq_some_iff.1 y1).1).trans y1;exact (hg2.block _ (Array.getElem?_eq_some_iff.1 y2).1 (fun e=>hv e.symm)).trans y2
theorem NN {B B':Nat} {W W':af} (h:KeepsFrom B W W') (hB:B≤B'):KeepsFrom B' W W':=⟨h.size,fun k o hk h1 h2=>h.same k o (Sq hB hk) h1 h2⟩
theorem KpO.after {b l l':Nat} {X Y Z:af} (h:KpO b l X Y) (k:KpO b l' Y Z) (hl:X.heap.size≤l'):KpO b l X Z :=
 ⟨Sq h.size k.size,fun g cs T m hg h1 h2=>k.cells g cs T m (h.cells g cs T m hg h1 h2) h1 h2,fun g o hg hc h1 h2=>k.other g o (h.other g o hg hc h1 h2) hc (fun e=>by have:=(Array.getElem?_eq_some_iff.1 hg).1; omega) h2⟩
end Go.Proofs.YtdmniljjnaebbaaGreatDoor
namespace Go.Proofs.YtdmniljjnaebbaaGreatDoor
set_option linter.unusedVariables false
set_option maxRecDepth 100000
open Go.ChangeShapes Go.WideShapes Go.ChangeAt Go.RowKit Go.Maps Go.Shelf
open Pl
attribute [local go_sem] Oper.semAt_some
def Dn (X:World) (B:Nat):Nat:=match X.cell? ⟨B,0,none⟩ with
 | some x=>QG x
 | none=>0
theorem Dq {X:af} {B n c:Nat} {ad:Option Addr} {T:TypeId} (h:fO X B (.slice ad n c) T):Dn X B=n:=by
 unfold Dn; rw [h.c]; rfl
section
variable [DecidableEq Fc]
theorem K7 (w:af) (rs:List TR) (adS:Option Addr) (D br bp bt:Nat) (N:Nat) (nr:Nat) (Mr:KL→Option Value) (st:ByteArray × ByteArray→Int) (ts:List Tp) (xo xu:List Al) (np:Nat) (Mp:K3→Option Value) (vo vu:Value) (hD:DatA w rs D br bp bt (N:Int) nr Mr (dU st rs) (dm ts) xo xu np Mp vo vu) (hs:iN w adS rs) (hN:N≤1000) (hol:xo.length≤80) (XV:xu.length≤40) (hE:(ak (ag rs)).length≤36) (hrl:∀ k,(G.lookL (dU st rs) k).length≤1000) (hsh:bq (ag rs)=true) (hts:∀ t ∈ ts,t.fits) (htl:ts.length≤1000) (hof:∀ o ∈ xo,o.t.size≤maxLen∧o.s.size≤maxLen) (huf:∀ o ∈ xu,o.t.size≤maxLen∧o.s.size≤maxLen) (hrf:∀ k ∈ ak (ag rs),k.2.size≤maxLen) :
  Calls prog 60 #[.pointer (some ⟨D,0,none⟩)] w fun e w'=>(∃ v,e=.returned v∧w'.ownsRow w.heap.size 63 5 v (kR (ag rs) ts st xo xu N).length (av (kR (ag rs) ts st xo xu N)))∧aa w w':=by
 obtain ⟨iF,z0,z1,z2,z3⟩:=sI;obtain ⟨W0,hW0⟩:∃ W0,W0=((w.alloc (.cells #[.slice none 0 0] 33)).alloc (.map #[] 0)).alloc (.cells #[.map (some (w.heap.size + 1))] 114):=⟨_,rfl⟩;obtain ⟨U1,UG,rfl,-⟩:=jG hD.dat.objs;have hlD:=hD.dat.lt;have d1:=hD.dat.c1;have h00:FoW w W0 (.slice none 0 0) []∧fO W0 (w.heap.size + 1 + 1) (.map (some (w.heap.size + 1))) 114:=by
  obtain ⟨V1,e1⟩:∃ V,V=w.alloc (.cells #[.slice none 0 0] 33):=⟨_,rfl⟩;obtain ⟨V2,e2⟩:∃ V,V=V1.alloc (.map #[] 0):=⟨_,rfl⟩;rw [← e1,← e2] at hW0;have t1:V1.heap.size=w.heap.size + 1:=by rw [e1,World.size_alloc]
  have t2:V2.heap.size=w.heap.size + 1 + 1:=by rw [e2,World.size_alloc,t1]
  have f1:aa w V1:=by rw [e1]; exact (Si _ _).alloc (Sj _) _
  have f2:aa V1 V2:=by rw [e2]; exact (Si _ _).alloc (Sj _) _
  have f3:aa V2 W0:=by rw [hW0]; exact (Si _ _).alloc (Sj _) _
  have f12:aa w V2:=f1.trans (f2.mono f1.size);have g1:fO V1 w.heap.size (.slice none 0 0) 33:=by rw [e1]; exact World.alloc_heap_new w _
  have g2:aJ jJ prog 63 V2 (w.heap.size + 1) 0 (fun _=>none):=by
   have:=j6 jJ prog 63 V1;rw [← e2,t1] at this; exact this
  have g3:fO W0 (w.heap.size + 1 + 1) (.map (some (w.heap.size + 1))) 114:=by rw [hW0,← t2]; exact World.alloc_heap_new V2 _
  have ek:vS []=fun _=>none:=rfl;exact ⟨⟨f12.trans (f3.mono f12.size),(g1.bel f2).bel f3,World.ownsRow_nil _ _ _ _,by rw [ek]; exact g2.below f3⟩,g3⟩
 have hmm:=@run_makeMap prog;have hl1:D < w.heap.size + 1:=by omega
 have hl2:D < w.heap.size + 1 + 1:=by omega
 refine (callsIn_wide (n:=12)).1 ?_;refine callsIn_of_wp_marks func60 rfl trivial ?_ rfl;simp only [ntmps60,List.size_toArray,List.length_cons,List.length_nil,Nat.reduceAdd,Nat.reduceSub,Array.replicate_succ,Array.replicate_zero,List.push_toArray,List.append_toArray,List.nil_append,List.cons_append];gi_wp2;rw [← hW0];clear hW0 hmm;obtain ⟨H,hH⟩:∃ H,H=ib (ag rs) ts:=⟨_,rfl⟩;obtain ⟨A,hA⟩:∃ A:Nat→List Fc,A=kR (ag rs) ts st xo xu:=⟨_,rfl⟩;obtain ⟨Q,hQ⟩:∃ Q:Nat→List Fc,Q=fun (n:Nat)=>cB (ag rs) st xo xu (n:Int):=⟨_,rfl⟩;have hA1:∀ n,A (n + 1)=ny H (Q n) (A n):=fun n=>by rw [hA,hH,hQ]; exact jl _ _ _ _ _ _
 have hAG:∀ n,GoodO (ag rs) xo xu (A n):=fun n=>by rw [hA]; exact kL _ _ _ _ _ n
 have hA0:A 0=[]:=by rw [hA]; rfl
 have hAN:kR (ag rs) ts st xo xu N=A N:=by rw [hA]
 refine wpIn_loop (fun a' X=>∃ (q:Nat) (rl:List Nat) (v:Value) (u5 u6 u7 u8 u15 u16 u17 u18 u19 u20 u21 u22 u23 u24 u25 u26 u27 u28 u29 u30 u31 u32 u33 u34 u35 u36 u37 u38 u39 u40 u41 u42 u43 u44:Value),a'={ tmps:=List.toArray (.pointer (some ⟨D,0,none⟩)::undef::.slice none 0 0::.pointer (some ⟨w.heap.size,0,none⟩)::.pointer (some ⟨w.heap.size + 1 + 1,0,none⟩)::u5::u6::u7::u8::.map (some (w.heap.size + 1))::.pointer (some ⟨D,0,none⟩)::.pointer (some ⟨D,0,none⟩)::.pointer (some ⟨D,1,none⟩)::.int .i64 (N:Int)::.int .i64 (q:Int)::u15::u16::u17::u18::u19::u20::u21::u22::u23::u24::u25::u26::u27::u28::u29::u30::u31::u32::u33::u34::u35::u36::u37::u38::u39::u40::u41::u42::u43::u44::undef::[]),defers:=marks rl }∧q≤N∧FoW w X v (A q)∧fO X (w.heap.size + 1 + 1) (.map (some (w.heap.size + 1))) 114∧ic X rl∧(∀ r ∈ rl,w.heap.size + 1 + 1 < r)) (fun a' _=>N - (intOf (a'.tmps.getD 14 undef)).toNat) ⟨0,[],.slice none 0 0,_,_,_,_,_,_,_,_,_,_,_,_,_,_,_,_,_,_,_,_,_,_,_,_,_,_,_,_,_,_,_,_,_,_,rfl,Sm _,by rw [hA0]; exact h00.1,h00.2,⟨List.nodup_nil,fun r hr=>by cases hr⟩,fun r hr=>by cases hr⟩ ?_;rintro a1 X ⟨q,rl,v,u5,u6,u7,u8,u15,u16,u17,u18,u19,u20,u21,u22,u23,u24,u25,u26,u27,u28,u29,u30,u31,u32,u33,u34,u35,u36,u37,u38,u39,u40,u41,u42,u43,u44,rfl,hq,hF,hB,hMk,ZE⟩;clear h00;by_cases hlq:q < N
 ·have hDX:=hD.below hF.bel;have d5:=hDX.dat.c5;have d5l:=hDX.dat.lt;obtain ⟨XI,UM,rfl,-⟩:=jG hDX.dat.users;gi_wp2;refine wpIn_loop (fun a' X=>∃ (us:List Al) (Ua:Option Addr) (Tw:Nat) (out:List Fc) (rl:List Nat) (v:Value) (base:Nat) (u7 u8 u21 u22 u23 u24 u25 u26 u27 u28 u29 u30 u31 u32 u33 u34 u35 u36 u37 u38 u39 u40 u41 u42 u43 u44:Value),a'={ tmps:=List.toArray (.pointer (some ⟨D,0,none⟩)::undef::.slice none 0 0::.pointer (some ⟨w.heap.size,0,none⟩)::.pointer (some ⟨w.heap.size + 1 + 1,0,none⟩)::.int .i64 (q:Int)::.slice Ua us.length Tw::u7::u8::.map (some (w.heap.size + 1))::.pointer (some ⟨D,0,none⟩)::.pointer (some ⟨D,0,none⟩)::.pointer (some ⟨D,1,none⟩)::.int .i64 (N:Int)::.int .i64 (q:Int)::.bool true::.int .i64 (q:Int)::.pointer (some ⟨D,0,none⟩)::.pointer (some ⟨D,0,none⟩)::.pointer (some ⟨D,5,none⟩)::.slice XI xu.length UM::u21::u22::u23::u24::u25::u26::u27::u28::u29::u30::u31::u32::u33::u34::u35::u36::u37::u38::u39::u40::u41::u42::u43::u44::undef::[]),defers:=marks rl }∧FewA (ag rs) ts st xo xu (q:Int) us out∧ny H (Q q) out=A (q + 1)∧GoodO (ag rs) xo xu out∧FoW w X v out∧fO X (w.heap.size + 1 + 1) (.map (some (w.heap.size + 1))) 114∧ic X rl∧(∀ r ∈ rl,w.heap.size + 1 + 1 < r)∧X.ownsRow base 40 2 (.slice Ua us.length Tw) us.length (pairs us)∧us.length≤40∧∀ o ∈ us,o.t.size≤maxLen∧o.s.size≤maxLen) (fun a' Y=>2 * (200000 - Dn Y w.heap.size) + min 1 (QG (a'.tmps.getD 6 undef))) ⟨xu,XI,UM,A q,rl,v,bp + 1,_,_,_,_,_,_,_,_,_,_,_,_,_,_,_,_,_,_,_,_,_,_,_,_,_,_,rfl,FewA.start _,(hA1 q).symm,hAG q,hF,hB,hMk,ZE,hDX.dat.users,XV,huf⟩ ?_;clear hDX d5 d5l hF hB hMk ZE;rintro a2 X2 ⟨us,Ua,Tw,out,rl2,v2,base,u7,u8,u21,u22,u23,u24,u25,u26,u27,u28,u29,u30,u31,u32,u33,u34,u35,u36,u37,u38,u39,u40,u41,u42,u43,u44,rfl,ZU,hLim,hG,hF2,hB2,hMk2,hMn2,hU,hul2,ZV⟩;obtain ⟨Xj,Un,rfl,-⟩:=iD hF2.row;have hmu:=Dq hF2.box;have hout:=hG.len hol hE XV;by_cases hne:us=[]
  ·subst hne;have hAq:A (q + 1)=out:=by rw [← hLim,hH,hQ]; exact ZU.done
   have XT:FoW w X2 (.slice Xj out.length Un) (A (q + 1)):=by rw [hAq]; exact hF2
   gi_wp2;exact ⟨⟨q + 1,rl2,_,_,_,_,_,_,_,_,_,_,_,_,_,_,_,_,_,_,_,_,_,_,_,_,_,_,_,_,_,_,_,_,_,_,_,rfl,by omega,XT,hB2,hMk2,hMn2⟩,by simp [intOf]; omega⟩
  have hpos:0 < us.length:=by cases us with | nil=>exact absurd rfl hne | cons a l=>simp
  have hposI:(0:Int) < (us.length:Int):=by omega
  have bc:=hF2.box.c;have kc:=hB2.c
  gi_wp2_with fail
  refine ⟨trivial,(callsIn_wide.2 (Dm D (q:Int) Ua us.length Tw (w.heap.size + 1) X2)).mono ?_⟩;rintro e X3 ⟨rfl,hX3⟩;obtain ⟨hBX,Ux,hs3⟩:=Pw X2 D (q:Int) (.slice Ua us.length Tw) (w.heap.size + 1) hX3;have XT:=hF2.below Ux;have hU3:=aB hU Ux;have hB3:=hB2.bel Ux;have hMk3:=hMk2.bel Ux;have hsB:w.heap.size + 1 + 1 < X2.heap.size:=(Array.getElem?_eq_some_iff.1 hB2).1;clear hX3 bc kc;gi_wp2
  refine oN (α:=Fc) rfl (by omega) (gf:=132) (lb:=#[.pointer (some ⟨X2.heap.size,0,none⟩),.pointer (some ⟨X2.heap.size + 1,0,none⟩),.pointer (some ⟨X2.heap.size + 1 + 1,0,none⟩),.pointer (some ⟨X2.heap.size + 1 + 1 + 1,0,none⟩)]) rfl trivial (enters_of func132 (by kernel_rfl) rfl)
   (K5 11 (by omega) rs adS D br bp bt (N:Int) nr Mr st ts U1 UG xo xu np Mp (.slice XI xu.length UM) (w.heap.size + 1) out X2.heap.size (X2.heap.size + 1) (X2.heap.size + 1 + 1) (X2.heap.size + 1 + 1 + 1) (q:Int) Ua Tw us X3 (by omega) (by omega) (by omega) (by omega) hrl hsh hts htl hof ZV hrf) (Si _ _) (fun _=>rfl) (fun h k=>h.trans k) (fun Y lx o o' h1 h2=>KpO.put h1 h2)
   (fun pre Y=>∃ v',FoW w Y v' (out ++ pre)∧KpO (w.heap.size + 1) X3.heap.size X3 Y∧GoodO (ag rs) xo xu (out ++ pre))
   ?own ?tell ⟨_,by rw [List.append_nil]; exact XT,KpO.below (Si _ _),by rw [List.append_nil]; exact hG⟩
   (fun x a' Y=>∃ Bx,Aq Y Bx x∧a'={ tmps:=List.toArray (.pointer (some ⟨D,0,none⟩)::undef::.slice none 0 0::.pointer (some ⟨w.heap.size,0,none⟩)::.pointer (some ⟨w.heap.size + 1 + 1,0,none⟩)::.int .i64 (q:Int)::.slice Ua us.length Tw::.int .i64 (out.length:Int)::.pointer (some ⟨Bx,0,none⟩)::.map (some (w.heap.size + 1))::.pointer (some ⟨D,0,none⟩)::.pointer (some ⟨D,0,none⟩)::.pointer (some ⟨D,1,none⟩)::.int .i64 (N:Int)::.int .i64 (q:Int)::.bool true::.int .i64 (q:Int)::.pointer (some ⟨D,0,none⟩)::.pointer (some ⟨D,0,none⟩)::.pointer (some ⟨D,5,none⟩)::.slice XI xu.length UM::.slice Ua us.length Tw::.int .i64 (us.length:Int)::.bool true::.slice Xj out.length Un::.int .i64 (out.length:Int)::.pointer (some ⟨D,0,none⟩)::.int .i64 (q:Int)::.slice Ua us.length Tw::.map (some (w.heap.size + 1))::.func (.func 132) #[] #[.pointer (some ⟨X2.heap.size,0,none⟩),.pointer (some ⟨X2.heap.size + 1,0,none⟩),.pointer (some ⟨X2.heap.size + 1 + 1,0,none⟩),.pointer (some ⟨X2.heap.size + 1 + 1 + 1,0,none⟩)]::.agg #[.string x.a,.string x.b,.string x.r,.string x.c,.string x.d]::u32::u33::u34::u35::u36::u37::u38::u39::u40::u41::u42::u43::u44::undef::[]),defers:=[] })
   (fun x a' s Y Z row hs hg hr=>by obtain ⟨Bx,h,e⟩:=hs; exact ⟨Bx,FM (B0:=X3.heap.size) (g:=Bx) (x:=x) () Y Z row h hg hr,e⟩) ?assign ?body ?done
  case own =>
   intro pre Y Z row hs hg hr;obtain ⟨v',h1,h2,h3⟩:=hs;exact ⟨v',h1.kept hg fun r e=>⟨by have:=(hr r e).1; omega,(hr r e).2⟩,Px (β:=Unit) () Y Z row h2 hg hr,h3⟩
  case tell =>
   rintro pre Y ⟨v',h1,h2,h3⟩;have hb:=hBX.kp h2;obtain ⟨ad2,cap2,e,hsa⟩:=jG (Jt hU3 h2 (by decide) (by decide));injection e with ea eb ec;exact ⟨hD.below h1.bel,hs.below h1.bel,⟨_,h1.map⟩,hb.d.c,hb.s.c,hb.u.c,hb.k.c,by rw [ea]; exact hsa⟩
  case assign =>
   rintro l' pre x Y K ⟨v',h1,h2,h3⟩ hKK;unfold BR;gi_wp2;have hbl:aa Y (Y.alloc (.cells #[.string x.a,.string x.b,.string x.r,.string x.c,.string x.d] 63)):=(Si _ _).alloc (Sj _) _;exact hKK _ _ ((KeepsOthers.alloc _ _).from _) (KpO.below hbl) ⟨v',h1.below hbl,h2.trans (KpO.below hbl),h3⟩ ⟨Y.heap.size,World.alloc_heap_new Y _,rfl⟩
  case body =>
   rintro l' pre x a' Y hl ⟨hEx,hnew⟩ ⟨v',ZW,hKY,hGY⟩ ⟨Bx,bX,rfl⟩;obtain ⟨hkey,Xw⟩:=FN hof ZV hrf hEx;obtain ⟨kl,hkl⟩:=yQ x Xw;obtain ⟨c0,c1,c2,c3,c4,cl⟩:=bX.c;have hGX:GoodO (ag rs) xo xu (out ++ (pre ++ [x])):=by
    refine ⟨?_,fun g hg=>?_⟩
    ·rw [← List.append_assoc];exact List.nodup_append.2 ⟨hGY.once,by simp,fun a ha b hb e=>by
      rw [SF] at hb;rw [← hb,← e] at hnew;exact hnew ha⟩
    rw [← List.append_assoc] at hg;rcases Sz.1 hg with hg | hg
    ·exact hGY.sub g hg
    rw [SF] at hg;subst hg;unfold cB wC at hEx;obtain ⟨o,ho,h1⟩:=SB.1 hEx;obtain ⟨k,hk,h1⟩:=SB.1 h1;obtain ⟨u,hu,e⟩:=Sy.1 h1;have hux:u ∈ xu:=by rw [ZU.sub] at hu; exact (SX.1 hu).1
    exact SB.2 ⟨o,ho,SB.2 ⟨k,(SX.1 hk).1,Sy.2 ⟨u,hux,e⟩⟩⟩
   have hlen:=hGX.len hol hE XV;rw [← List.append_assoc,Sr,List.length_singleton] at hlen;obtain ⟨os,hos⟩:∃ os,os=out ++ pre:=⟨_,rfl⟩;rw [← hos] at ZW hlen;have HOS:=aj hos;clear hos;have kc:=(hB3.kp hKY (by decide) (by decide)).c;have kl2:=aC kc;obtain ⟨adY,capY,rfl,-⟩:=iD ZW.row;have hmap:=ZW.map;have bcY:=ZW.box.c;have hbxl:=aC bcY;have hblk:=ZW.box;obtain ⟨es,cc,hmb⟩:=nP ZW.map;have hne1:Bx ≠ w.heap.size + 1:=fun e=>by
    have h:=bX;unfold Aq at h;rw [e,hmb] at h; cases h
   have hrow:=ZW.row;have hvB:(Value.slice adY os.length capY).ownBlock ≠ some w.heap.size:=fun e=>by have:=(hrow.lt _ e).1; omega
   have hvM:(Value.slice adY os.length capY).ownBlock ≠ some (w.heap.size + 1):=fun e=>CQ hrow e hmb;have hbYs:=ZW.bel.size
   gi_wp2_with (first
    | (gi_at_mapUpdate; refine wO _ rfl _ _ _ 114 rfl 63 178 Hq EK underlying114 (w.heap.size + 1) _ _ rfl hmap (by unfold maxLen; omega) x kl rfl hkl (.agg #[]) rfl ?_; intro Y1 hM1 hg1; have q0:=(jH hg1 ⟨cl,hne1⟩ 0).trans c0; have q1:=(jH hg1 ⟨cl,hne1⟩ 1).trans c1; have q2:=(jH hg1 ⟨cl,hne1⟩ 2).trans c2; have q3:=(jH hg1 ⟨cl,hne1⟩ 3).trans c3; have q4:=(jH hg1 ⟨cl,hne1⟩ 4).trans c4; have qb:=(jH hg1 ⟨hbxl,Nat.ne_of_lt (Nat.lt_succ_self _)⟩ 0).trans bcY; have ql:=aC q0; have qbl:=aC qb; have hrow1:=hrow.kept hg1 (.inr hvM); have hYs1:=hg1.size)
    | (gi_at_builtin; refine wpListIn_append_own_at _ rfl _ _ 33 rfl (w.heap.size + 1) 63 iF (.agg #[.string ⟨#[]⟩,.string ⟨#[]⟩,.string ⟨#[]⟩,.string ⟨#[]⟩,.string ⟨#[]⟩]) 5 80 underlying33 z0 z1 z2 z3 rfl (by decide) _ os.length (av os) rfl (hrow1.alloc _) ⟨Y1.heap.size,0,none⟩ 1 1 x.row rfl rfl (BD Y1 x) (by simp [Fc.row,Value.oneCell']) (by unfold maxLen; omega) (by omega) (by simp; omega) ?_; intro v2 V hown hgr _ hat; obtain ⟨g2,cap2,rfl⟩:=ownsRow_succ hown; have HAT:=aj hat; clear hat; have hY2:aa Y1 (Y1.alloc (.cells #[.string x.a,.string x.b,.string x.r,.string x.c,.string x.d] 63)):=(Si _ _).alloc (Sj _) _; have hVb:=NM hblk hg1 hY2 hgr hvB; have vc:=hVb.c; have vf:=fH hVb 0; have vl:=aC vc)
    | gi_in)
   obtain ⟨r1,r2,r3⟩:=FoW.step ZW hM1 hg1 hY2 hown hgr HAT.out l';have eos:out ++ (pre ++ [x])=os ++ [x]:=by rw [HOS.out,List.append_assoc]
   exact ⟨NN r3 (by omega),r2,_,by rw [eos]; exact r1,hKY.after r2 hl,hGX⟩
  case done =>
   rintro Dd xs X5 hDd hS ⟨v5,hF5,hK5,hG5⟩ hKd;have hl5:=hG5.len hol hE XV;have hlx:(out ++ xs).length=out.length + xs.length:=Sr;have hxs:(out ++ xs).drop out.length=xs:=List.drop_left;obtain ⟨o5,ho5⟩:∃ o5,o5=out ++ xs:=⟨_,rfl⟩;rw [← ho5] at hF5 hG5 hl5 hlx hxs;have Uc:=aj ho5;have Wd:=aj hxs;have YY:=ZU.next (by rw [← hH] at hS ⊢; exact hS);have hLim5:ny H (Q q) o5=A (q + 1):=by
    rw [← hLim,← AR (H:=H) (Q q) out];congr 1;rw [ho5,← hS,← hH,hQ,hH];exact ZU.round
   rw [← ho5] at YY;obtain ⟨adP,capP,rfl,hsF5⟩:=iD hF5.row;have bc5:=hF5.box.c;have bl5:=aC bc5;have i1:(0:Int)≤(out.length:Int):=by omega
   have i2:(out.length:Int)≤(o5.length:Int):=by omega
   have hcap5:o5.length≤capP:=Py hF5.row;have hU5:=Jt hU3 hK5 (by decide) (by decide);obtain ⟨ad2,cap2,eU,hsU5⟩:=jG hU5;injection eU with ea eb ec;rw [← ea] at hsU5;have hMk5:ic X5 (Dd::rl2):=by
    have h1:=hMk3.kp hK5 (fun hm=>by have:=hMk3.lt hm; omega) (fun hm=>by have:=hMn2 _ hm; omega);refine ⟨List.nodup_cons.2 ⟨fun hm=>by have:=hMk3.lt hm; omega,h1.1⟩,fun r hr=>?_⟩;rcases List.mem_cons.1 hr with rfl | hr
    ·exact hKd
    exact h1.2 r hr
   have hMn5:∀ r ∈ Dd::rl2,w.heap.size + 1 + 1 < r:=fun r hr=>by
    rcases List.mem_cons.1 hr with rfl | hr
    ·omega
    exact hMn2 r hr
   have hkl:(dW us xs).length≤us.length:=BQ us xs;have hkz:xs.length=0→(dW us xs).length=0:=fun h=>by rw [SA.1 h,H9]; rfl
   have hsx:∀ ad3,ad3=Option.map (fun x=>Addr.add x (out.length * 5)) adP→jP X5 ad3 xs:=fun ad3 e=>by
    rw [e,← Wd.out];exact jP.dropF hsF5 out.length
   clear ho5 hxs ea eb ec hS
   gi_wp2_with fail
   ·refine ⟨trivial,(callsIn_wide.2 (pF Ua Tw us adP 0 xs X5 (by omega) (by omega) hsU5 (.inl (SA.1 (by omega))))).mono ?_⟩;rintro e X6 ⟨⟨v6,rfl,hO6⟩,hb6⟩;have TF:Dn X6 w.heap.size=o5.length:=Dq (hF5.below hb6).box;have hF6:=hF5.below hb6;have hB6:=(hB3.kp hK5 (by decide) (by decide)).bel hb6;obtain ⟨ad6,cap6,rfl,-⟩:=jG hO6;gi_wp2;exact ⟨⟨dW us xs,ad6,cap6,o5,Dd::rl2,_,X5.heap.size,_,_,_,_,_,_,_,_,_,_,_,_,_,_,_,_,_,_,_,_,_,_,_,_,_,_,rfl,YY,hLim5,hG5,hF6,hB6,hMk5.bel hb6,hMn5,hO6,by omega,fun o ho=>ZV o (SX.1 ho).1⟩,by
     show 2 * (200000 - Dn X6 w.heap.size) + min 1 (dW us xs).length < 2 * (200000 - Dn X2 w.heap.size) + min 1 us.length;rw [TF,hmu];omega⟩
   refine ⟨trivial,(callsIn_wide.2 (pF Ua Tw us _ _ xs X5 (by omega) (by omega) hsU5 (hsx _ rfl))).mono ?_⟩;rintro e X6 ⟨⟨v6,rfl,hO6⟩,hb6⟩;have TF:Dn X6 w.heap.size=o5.length:=Dq (hF5.below hb6).box;have hF6:=hF5.below hb6;have hB6:=(hB3.kp hK5 (by decide) (by decide)).bel hb6;obtain ⟨ad6,cap6,rfl,-⟩:=jG hO6;gi_wp2;exact ⟨⟨dW us xs,ad6,cap6,o5,Dd::rl2,_,X5.heap.size,_,_,_,_,_,_,_,_,_,_,_,_,_,_,_,_,_,_,_,_,_,_,_,_,_,_,rfl,YY,hLim5,hG5,hF6,hB6,hMk5.bel hb6,hMn5,hO6,by omega,fun o ho=>ZV o (SX.1 ho).1⟩,by
    show 2 * (200000 - Dn X6 w.heap.size) + min 1 (dW us xs).length < 2 * (200000 - Dn X2 w.heap.size) + min 1 us.length;rw [TF,hmu];omega⟩
 have hqN:q=N:=by omega
 subst hqN;obtain ⟨Xj,Un,rfl,-⟩:=iD hF.row;have bc:=hF.box.c;have hR:X.ownsRow (w.heap.size + 1) 63 5 (.slice Xj (A q).length Un) (kR (ag rs) ts st xo xu q).length (av (kR (ag rs) ts st xo xu q)):=by rw [hAN]; exact hF.row
 have hBl:=hF.bel;have hsz:w.heap.size < X.heap.size:=aC bc;clear hF hB hD;gi_wp2;refine tq (w.heap.size + 1 + 1) (fun Y=>Y.ownsRow w.heap.size 63 5 (.slice Xj (A q).length Un) (kR (ag rs) ts st xo xu q).length (av (kR (ag rs) ts st xo xu q))∧aa w Y) (fun Y r hr hY hd=>⟨dw hY.1 fun g hg=>mI fun e=>?_,?_⟩) (fun Y hY=>⟨_,results_tmp rfl _ _ _,⟨_,rfl,hY.1⟩,hY.2⟩) rl X hMk ZE ⟨j5 hR (Nat.le_succ _),hBl⟩
 ·obtain ⟨cur,e2⟩:=iV hY.1 hg;rw [e,hd] at e2; cases e2
 exact hY.2.grown (grownBy_putObj' Y r _) hY.2.size (fun g e=>by injection e with e; omega)
end
end Go.Proofs.YtdmniljjnaebbaaGreatDoor
