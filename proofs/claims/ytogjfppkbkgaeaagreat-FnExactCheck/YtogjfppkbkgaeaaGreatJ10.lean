/- The key of a fact: five strings; is a fact in a set of facts? -/
import Derived.Test.YtogjfppkbkgaeaaGreatJ9
import Derived.Test.YtogjfppkbkgaeaaGreatJ8
import Derived.WideKeyEntry
namespace Go.Proofs.YtogjfppkbkgaeaaGreat
open Go.ChangeShapes Go.WideShapes Go.ChangeAt Go.RowKit Go.Maps
def Fc.fits (t:Fc):Prop:=t.a.size≤maxLen∧t.b.size≤maxLen∧t.r.size≤maxLen∧t.c.size≤maxLen∧t.d.size≤maxLen
def encF (k:Fc):Value:=.agg #[.string k.a,.string k.b,.string k.r,.string k.c,.string k.d]
theorem encF_inj (x y:Fc) (h:encF x=encF y):x=y:=by
 unfold encF at h
 injection h with h
 have h1:=congrArg Array.toList h
 simp at h1
 obtain ⟨xa,xb,xr,xc,xd⟩:=x
 obtain ⟨ya,yb,yr,yc,yd⟩:=y
 simp only at h1
 obtain ⟨rfl,rfl,rfl,rfl,rfl⟩:=h1
 rfl
theorem laidOutF:laidOutB Tryz.prog=true:=by kernel_rfl
theorem facRow:(47:TypeId) < Tryz.prog.types.size:=of_decide_eq_true (by kernel_rfl)
theorem facWide:(match Tryz.prog.underlying 47 with | some (.array _ _) | some (.struct _)=>true | _=>false)=true:=by rw [Tryz.underlying47]
set_option maxRecDepth 100000 in
theorem facLaw0:WideMaps.KeyLaw Tryz.prog 47:=deep_law_laid laidOutF (m:=3) (by omega) facRow (by kernel_rfl) facWide
theorem facLaw:Keyed Tryz.prog 47:=Keyed.of_law facLaw0
theorem facKeyT:Tryz.prog.keyType 47=true:=by kernel_rfl
theorem facCells:Tryz.prog.cellsOf 47=5:=by kernel_rfl
theorem objCellsF:Tryz.prog.cellsOf 45=2:=by kernel_rfl
theorem strCellsF:Tryz.prog.cellsOf 9=1:=by kernel_rfl
theorem typesTwoF:2≤Tryz.prog.types.size:=of_decide_eq_true (by kernel_rfl)
theorem typesSizeF:∃ n,Tryz.prog.types.size=n + 2:=⟨Tryz.prog.types.size - 2,by have:=typesTwoF; omega⟩
set_option maxRecDepth 100000 in
theorem facKeyOf (k:Fc) (h:k.fits):∃ kl,keyOf Tryz.prog 47 (encF k)=some kl:=by
 obtain ⟨n,hn⟩:=typesSizeF
 obtain ⟨h0,h1,h2,h3,h4⟩:=h
 refine ⟨.string (keyBytes [.string k.a.data.toList,.string k.b.data.toList,.string k.r.data.toList,.string k.c.data.toList,.string k.d.data.toList]),?_⟩
 unfold keyOf
 rw [Tryz.underlying47]
 simp only [facKeyT,encF,Value.formed,Tryz.underlying47,facCells,hn,Value.cells]
 simp +decide [Program.keyLits,Tryz.underlying47,Tryz.underlying45,Tryz.underlying9,facCells,objCellsF,strCellsF,h0,h1,h2,h3,h4]
theorem zeroUnit (w:World):(zeroValue 125).run Tryz.prog w=.ok (.agg #[]) w:=by kernel_rfl
theorem factHas_any (b n:Nat) (M:Fc→Option Value) (f:Fc) (w:World) (hf:f.fits) (hV:MapV encF Tryz.prog 47 w b n M) (hM:∀ v,M f=some v→v=.agg #[]) :
  Calls Tryz.prog 97 #[.map (some b),.agg #[.string f.a,.string f.b,.string f.r,.string f.c,.string f.d]] w fun e w'=>e=.returned (.bool (M f).isSome)∧Below w.heap.size w w':=by
 obtain ⟨kl,hkl⟩:=facKeyOf f hf
 have HKL:Hid (keyOf Tryz.prog 47 (encF f)=some kl):=hkl
 have HM:Hid ((M f).getD (.agg #[])=.agg #[]):=by
  show _=_
  cases e:M f with
  | none=>rfl
  | some v=>exact hM v e
 obtain ⟨W,hW⟩:∃ W,W=w.alloc (.cells #[.string f.a,.string f.b,.string f.r,.string f.c,.string f.d] 47):=⟨_,rfl⟩
 have HB:Hid (Below w.heap.size w W):=by show Below _ _ _; rw [hW]; exact (Below.refl _ _).alloc (Nat.le_refl _) _
 have HV:Hid (MapV encF Tryz.prog 47 W b n M):=hV.below HB.out
 have HB2:Hid (Below w.heap.size w (W.alloc (.cells #[] 125))):=HB.out.alloc HB.out.size _
 clear hkl hV hM
 go_enter Tryz.func97,Tryz.ntmps97
 go_wp2_with (at_lookup; rw [← hW]; clear hW; refine wpList_lookV_ok _ rfl _ _ 121 rfl 47 125 facLaw Tryz.underlying121 (zeroUnit _) b n M rfl HV.out f kl rfl HKL.out ?_; rw [HM.out])
 go_ret
 exact ⟨rfl,HB2.out⟩
end Go.Proofs.YtogjfppkbkgaeaaGreat
namespace Go.Proofs.YtogjfppkbkgaeaaGreat
open Go.ChangeShapes Go.WideShapes Go.ChangeAt Go.RowKit Go.Maps
def encK (k:ByteArray × ByteArray):Value:=.agg #[.string k.1,.string k.2]
theorem encK_inj (x y:ByteArray × ByteArray) (h:encK x=encK y):x=y:=by
 unfold encK at h
 injection h with h
 have h1:=congrArg Array.toList h
 simp at h1
 exact Prod.ext h1.1 h1.2
theorem laidOutM:laidOutB Tryz.prog=true:=by kernel_rfl
theorem relRow:(117:TypeId) < Tryz.prog.types.size:=of_decide_eq_true (by kernel_rfl)
theorem relWide:(match Tryz.prog.underlying 117 with | some (.array _ _) | some (.struct _)=>true | _=>false)=true:=by rw [Tryz.underlying117]
set_option maxRecDepth 100000 in
theorem relLaw0:WideMaps.KeyLaw Tryz.prog 117:=deep_law_laid laidOutM (m:=2) (by omega) relRow (by kernel_rfl) relWide
theorem relLaw:Keyed Tryz.prog 117:=Keyed.of_law relLaw0
theorem relKeyT:Tryz.prog.keyType 117=true:=by kernel_rfl
theorem relCells:Tryz.prog.cellsOf 117=2:=by kernel_rfl
theorem strCells:Tryz.prog.cellsOf 9=1:=by kernel_rfl
theorem typesSize:∃ n,Tryz.prog.types.size=n + 1:=Nat.exists_eq_succ_of_ne_zero (Nat.ne_of_gt (Nat.lt_of_le_of_lt (Nat.zero_le _) relRow))
theorem relKeyOf (k:ByteArray × ByteArray) (h1:k.1.size≤maxLen) (h2:k.2.size≤maxLen):∃ kl,keyOf Tryz.prog 117 (encK k)=some kl:=by
 obtain ⟨n,hn⟩:=typesSize
 refine ⟨.string (keyBytes [.string k.1.data.toList,.string k.2.data.toList]),?_⟩
 unfold keyOf
 rw [Tryz.underlying117]
 simp only [relKeyT,encK,Value.formed,Tryz.underlying117,relCells,hn,Value.cells]
 simp [Program.keyLits,Tryz.underlying117,Tryz.underlying9,relCells,strCells,h1,h2]
end Go.Proofs.YtogjfppkbkgaeaaGreat
namespace Go.Proofs.YtogjfppkbkgaeaaGreat
open Go.ChangeShapes Go.WideShapes Go.ChangeAt Go.RowKit Go.Maps
open Go.ChangeMaps (setBlock heap_setBlock_same heap_setBlock_other)
section
variable {K:Type} {enc:K→Value} {P:Program} {k:TypeId} {w:World} {b n:Nat} {M:K→Option Value}
theorem MapV.of_block {w':World} (h:MapV enc P k w b n M) (e:w'.heap[b]?=w.heap[b]?):MapV enc P k w' b n M:=by
 obtain ⟨D,⟨es,clock,hb,r⟩,h2⟩:=h
 exact ⟨D,⟨es,clock,e.trans hb,r⟩,h2⟩
theorem grown_setBlock {w:World} {b:Nat} {es es':Array MapEntry} {c c':Nat} (hb:w.heap[b]?=some (.map es c)):w.grownBy (setBlock w b (.map es' c')) (some b) :=
 ⟨rfl,rfl,rfl,by simp [setBlock],fun i _ hi=>heap_setBlock_other hb _ (fun e=>hi (by rw [e]))⟩
theorem MapV.entry [DecidableEq K] {t e:TypeId} (h:MapV enc P k w b n M) (L:WideMaps.KeyLaw P k) (hinj:∀ x y,enc x=enc y→x=y) (ht:P.underlying t=some (.map k e)) {z:Value} (hz:∀ u:World,(zeroValue e).run P u=.ok z u) (hn:n < maxLen) {x:K} {kl:Lit} (hkey:keyOf P k (enc x)=some kl) :
  ∃ (st:Nat) (w1:World),(Instr.mapEntry t (.map (some b)) (enc x)).run P w=.ok (.tuple #[(M x).getD z,goInt st]) w1∧w.grownBy w1 (some b) ∧
   ∀ (w2:World) (val:Value),w2.heap[b]?=w1.heap[b]?→∃ w3,(Instr.entryStore t (.map (some b)) (goInt st) val).run P w2=.ok () w3∧MapV enc P k w3 b (n + 1) (updM M x (some val))∧w2.grownBy w3 (some b):=by
 have LK:=Keyed.of_law L
 have hlook:=h.look LK ht (hz w) hkey
 have hst:=fun v=>h.store LK hinj ht hn hkey v
 obtain ⟨D,⟨es,clock,hb,F,hs,hD⟩,h2⟩:=h
 obtain ⟨v0,st,es1,clock1,hrun,hv0,hback⟩:=WideElems.entry_then_store L ht hz hb F hkey
 have hb1:(setBlock w b (.map es1 clock1)).heap[b]?=some (.map es1 clock1):=heap_setBlock_same hb _
 have ev:v0=(M x).getD z:=by
  have hl:=hlook
  rcases Maps.fit_look false LK ht (hz w) hb F hkey with ⟨hrun2,hno,-⟩ | ⟨e0,y,hmem,hek,hrun2,-,-,-⟩
  ·rw [hl] at hrun2
   injection hrun2 with e1
   rcases hv0 with ⟨e0,hm,hk0,-⟩ | ⟨-,hz0⟩
   ·exact absurd hk0 (hno e0 hm)
   ·rw [hz0,e1]; rfl
  ·rw [hl] at hrun2
   injection hrun2 with e1
   rcases hv0 with ⟨e1',hm,hk0,hv⟩ | ⟨hno,-⟩
   ·have hnd:=F.stamped.2.2
    have:e1'=e0:=by
     have h3:e1'.key=e0.key:=by rw [hk0,hek]
     obtain ⟨i,hi,hie⟩:=List.mem_iff_getElem.1 hm
     obtain ⟨j,hj,hje⟩:=List.mem_iff_getElem.1 hmem
     have h4:(es.toList.map (·.key))[i]'(by simpa using hi)=(es.toList.map (·.key))[j]'(by simpa using hj):=by simp only [List.getElem_map,hie,hje]; exact h3
     have h6:=List.pairwise_iff_getElem.1 hnd
     have h5:i=j:=by
      rcases Nat.lt_trichotomy i j with hl | hl | hl
      ·exact absurd h4 (h6 i j _ _ hl)
      ·exact hl
      ·exact absurd h4.symm (h6 j i _ _ hl)
     subst h5
     rw [← hie,← hje]
    rw [hv,this,e1]; rfl
   ·exact absurd hek (hno e0 hmem)
 refine ⟨st,_,by rw [hrun,ev],grown_setBlock hb,fun w2 val hw2=>?_⟩
 have hw2':w2.heap[b]?=some (.map es1 clock1):=hw2.trans hb1
 obtain ⟨es',clock',hr1,hr2⟩:=hback w2 val hw2'
 obtain ⟨w',hr3,hM',-⟩:=hst val
 rw [hr2] at hr3
 injection hr3 with _ e3
 refine ⟨_,hr1,hM'.of_block ?_,grown_setBlock hw2'⟩
 rw [← e3,heap_setBlock_same hb,heap_setBlock_same hw2']
end
section
variable {K:Type} {enc:K→Value} {P:Program} (w:World) {ops:Array Oper} {rest:List Oper} {o:Oper} {a:Act} {Q:Exit→Act→World→Prop}
theorem wpList_entryV [DecidableEq K] (hg:o.guard=none) (m x:Operand) (t:TypeId) (hop:o.op=Op.mapEntry t m x) (k e:TypeId) (L:WideMaps.KeyLaw P k) (hinj:∀ x y,enc x=enc y→x=y) (ht:P.underlying t=some (.map k e)) {z:Value} (hz:∀ u:World,(zeroValue e).run P u=.ok z u) (b n:Nat) (M:K→Option Value)
  (hm:a.eval m=.map (some b)) (hV:MapV enc P k w b n M) (hn:n < maxLen) (y:K) (kl:Lit) (hx:a.eval x=enc y) (hkey:keyOf P k (enc y)=some kl)
  (hK:∀ (st:Nat) (w1:World),w.grownBy w1 (some b)→(∀ (w2:World) (val:Value),w2.heap[b]?=w1.heap[b]?→∃ w3,(Instr.entryStore t (.map (some b)) (goInt st) val).run P w2=.ok () w3∧MapV enc P k w3 b (n + 1) (updM M y (some val))∧w2.grownBy w3 (some b)) →
   wpList P ops Q rest (a.put o.dst (.tuple #[(M y).getD z,goInt st])) w1):wpList P ops Q (o::rest) a w:=by
 refine wpList_plain hg fun K' hK'=>?_
 obtain ⟨st,w1,hrun,h1,h2⟩:=hV.entry L hinj ht hz hn hkey
 unfold Oper.wp
 simp [execOp,hop,hm,hx,hrun,Result.andThen]
 exact hK' _ _ (hK st w1 h1 h2)
theorem wpList_entryStoreV (hg:o.guard=none) (m s v:Operand) (t:TypeId) (hop:o.op=Op.entryStore t m s v) (b st:Nat) (hm:a.eval m=.map (some b)) (hs:a.eval s=goInt st) (u:Value) (hv:a.eval v=u) (k:TypeId) (n:Nat) (M:K→Option Value)
  (hback:∃ w3,(Instr.entryStore t (.map (some b)) (goInt st) u).run P w=.ok () w3∧MapV enc P k w3 b n M∧w.grownBy w3 (some b))
  (hK:∀ w',MapV enc P k w' b n M→w.grownBy w' (some b)→wpList P ops Q rest (a.put o.dst undef) w'):wpList P ops Q (o::rest) a w:=by
 refine wpList_plain hg fun K' hK'=>?_
 obtain ⟨w3,hrun,h1,h2⟩:=hback
 unfold Oper.wp
 simp [execOp,hop,hm,hs,hv,hrun,Result.andThen]
 exact hK' _ _ (hK w3 h1 h2)
end
end Go.Proofs.YtogjfppkbkgaeaaGreat
namespace Go.Proofs.YtogjfppkbkgaeaaGreat.G
open Go.ChangeShapes Go.WideShapes Go.ChangeAt Go.RowKit Go.Maps
open Pl
variable {K α:Type} {enc:K→Value} {P:Program} {kt et:TypeId} {sz:Nat} {cl:α→List Value}
def FreeB (M:K→Option Value) (g:Nat):Prop:=∀ k v,M k=some v→v.ownBlock ≠ some g
structure Stl (W:World) (M:K→Option Value) (w2:World) (M2:K→Option Value) (bL:Nat):Prop where
 size:W.heap.size≤w2.heap.size
 block:∀ g,g < W.heap.size→g ≠ bL→FreeB M g→w2.heap[g]?=W.heap[g]?
 free:∀ g,g < W.heap.size→FreeB M g→FreeB M2 g
theorem Stl.refl (W:World) (M:K→Option Value) (bL:Nat):Stl W M W M bL:=⟨Nat.le_refl _,fun _ _ _ _=>rfl,fun _ _ h=>h⟩
theorem Stl.trans {W w2 w3:World} {M M2 M3:K→Option Value} {bL:Nat} (h:Stl W M w2 M2 bL) (h2:Stl w2 M2 w3 M3 bL):Stl W M w3 M3 bL where
 size:=Nat.le_trans h.size h2.size
 block g hg hb hf:=(h2.block g (Nat.lt_of_lt_of_le hg h.size) hb (h.free g hg hf)).trans (h.block g hg hb hf)
 free g hg hf:=h2.free g (Nat.lt_of_lt_of_le hg h.size) (h.free g hg hf)
theorem Stl.below {W w2:World} {M:K→Option Value} {bL:Nat} (hB:Below W.heap.size W w2):Stl W M w2 M bL:=⟨hB.size,fun g hg _ _=>hB.block g hg,fun _ _ h=>h⟩
structure Cel (w:World) (M:K→Option Value) (bL g o:Nat) (u:Value):Prop where
 cell:w.cell? ⟨g,o,none⟩=some u
 lt:g < w.heap.size
 free:FreeB M g
 ne:g ≠ bL
theorem Cel.stl {w w2:World} {M M2:K→Option Value} {bL g o:Nat} {u:Value} (h:Cel w M bL g o u) (hS:Stl w M w2 M2 bL):Cel w2 M2 bL g o u where
 cell:=(World.cell?_of_block (w:=w) (hS.block g h.lt h.ne h.free)).trans h.cell
 lt:=Nat.lt_of_lt_of_le h.lt hS.size
 free:=hS.free g h.lt h.free
 ne:=h.ne
theorem own_belowG {w w':World} {base:Nat} {e:TypeId} {size:Nat} {v:Value} {n:Nat} {xs:List Value} (h:w.ownsRow base e size v n xs) (hb:Below w.heap.size w w'):w'.ownsRow base e size v n xs:=by
 have hl:=fun g hg=>(h.lt g hg).2
 refine ⟨h.1,?_⟩
 rcases h.2 with h0 | ⟨g,cap,cur,rfl,h1,h2,h3⟩
 ·exact .inl h0
 ·exact .inr ⟨g,cap,cur,rfl,h1,(hb.block g (hl g rfl)).trans h2,h3⟩
variable [DecidableEq K]
def flatG (cl:α→List Value) (xs:List α):List Value:=xs.flatMap cl
theorem flatG_snoc (cl:α→List Value) (xs:List α) (x:α):flatG cl (xs ++ [x])=flatG cl xs ++ cl x:=by simp [flatG]
def lookL (E:List (K × α)) (k:K):List α:=E.filterMap fun p=>if p.1=k then some p.2 else none
theorem lookL_append (E F:List (K × α)) (k:K):lookL (E ++ F) k=lookL E k ++ lookL F k:=by unfold lookL; rw [List.filterMap_append]
theorem lookL_same (E:List (K × α)) (k:K) (s:α):lookL (E ++ [(k,s)]) k=lookL E k ++ [s]:=by rw [lookL_append]; simp [lookL]
theorem lookL_other (E:List (K × α)) {k y:K} (s:α) (h:k ≠ y):lookL (E ++ [(y,s)]) k=lookL E k:=by rw [lookL_append]; simp [lookL,Ne.symm h]
theorem mem_lookL {E:List (K × α)} {k:K} {s:α}:s ∈ lookL E k ↔ (k,s) ∈ E:=by
 unfold lookL
 rw [List.mem_filterMap]
 constructor
 ·rintro ⟨⟨a,b⟩,h1,h2⟩
  simp only at h2
  split at h2
  ·rename_i e; injection h2 with h2; rw [← e,← h2]; exact h1
  ·cases h2
 ·intro h; exact ⟨(k,s),h,by simp⟩
structure Grp (enc:K→Value) (P:Program) (kt et:TypeId) (sz:Nat) (cl:α→List Value) (w:World) (bL n:Nat) (M:K→Option Value) (E:List (K × α)):Prop where
 map:MapV enc P kt w bL n M
 row:∀ k,(M k=none∧lookL E k=[]) ∨ ∃ v,M k=some v∧w.ownsRow (bL + 1) et sz v (lookL E k).length (flatG cl (lookL E k))
 apart:∀ k k' v v',k ≠ k'→M k=some v→M k'=some v'→∀ g,v.ownBlock=some g→v'.ownBlock ≠ some g
theorem Grp.lt {w:World} {bL n:Nat} {M:K→Option Value} {E:List (K × α)} (h:Grp enc P kt et sz cl w bL n M E) {k:K} {v:Value} (hk:M k=some v) {g:Nat} (hg:v.ownBlock=some g):bL < g∧g < w.heap.size:=by
 rcases h.row k with ⟨e,-⟩ | ⟨v',e,ho⟩
 ·rw [e] at hk; cases hk
 ·rw [e] at hk; injection hk with hk; subst hk
  have:=ho.lt g hg
  exact ⟨by omega,this.2⟩
theorem Grp.fresh {w:World} {bL n:Nat} {M:K→Option Value} {E:List (K × α)} (h:Grp enc P kt et sz cl w bL n M E) {g:Nat} (hg:w.heap.size≤g):FreeB M g:=fun k v hk e=>by
 have:=(h.lt hk e).2; omega
theorem Grp.mono {w:World} {bL n n':Nat} {M:K→Option Value} {E:List (K × α)} (h:Grp enc P kt et sz cl w bL n M E) (hn:n≤n'):Grp enc P kt et sz cl w bL n' M E:=⟨h.map.mono hn,h.row,h.apart⟩
theorem Grp.below {w w':World} {bL n:Nat} {M:K→Option Value} {E:List (K × α)} (h:Grp enc P kt et sz cl w bL n M E) (hB:Below w.heap.size w w'):Grp enc P kt et sz cl w' bL n M E where
 map:=h.map.below hB
 row k:=by
  rcases h.row k with e | ⟨v,e,ho⟩
  ·exact .inl e
  ·exact .inr ⟨v,e,own_belowG ho hB⟩
 apart:=h.apart
theorem grp_made (w:World):Grp enc P kt et sz cl (w.alloc (.map #[] 0)) w.heap.size 0 (fun _=>none) [] where
 map:=mapV_made _ _ _ w
 row k:=.inl ⟨rfl,rfl⟩
 apart k k' v v' _ h:=by cases h
theorem Grp.step {W0 w1 w2 w3:World} {bL n:Nat} {M:K→Option Value} {E:List (K × α)} {y:K} {v':Value} {s:α} (h:Grp enc P kt et sz cl W0 bL n M E) (hg1:W0.grownBy w1 (some bL)) (hown:w2.ownsRow (bL + 1) et sz v' ((lookL E y).length + 1) (flatG cl (lookL E y) ++ cl s))
  (hg2:w1.grownBy w2 ((M y).getD (.slice none 0 0)).ownBlock) (hloc:v'.ownBlock=((M y).getD (.slice none 0 0)).ownBlock ∨ v'.ownBlock=some w1.heap.size) (hg3:w2.grownBy w3 (some bL)) (hM:MapV enc P kt w3 bL (n + 1) (updM M y (some v'))) :
  Grp enc P kt et sz cl w3 bL (n + 1) (updM M y (some v')) (E ++ [(y,s)])∧Stl W0 M w3 (updM M y (some v')) bL:=by
 have hrow0:∀ k v,M k=some v→∃ xs m,W0.ownsRow (bL + 1) et sz v m xs:=fun k v hk=>by
  rcases h.row k with ⟨e,-⟩ | ⟨v1,e,ho⟩
  ·rw [e] at hk; cases hk
  ·rw [e] at hk; injection hk with hk; subst hk; exact ⟨_,_,ho⟩
 have hne2:∀ k v,k ≠ y→M k=some v→v.ownBlock=none ∨ v.ownBlock ≠ ((M y).getD (.slice none 0 0)).ownBlock:=fun k v hky hk=>by
  cases e:v.ownBlock with
  | none=>exact .inl rfl
  | some g =>
   right
   cases ey:M y with
   | none=>simp [Value.ownBlock]
   | some vy=>intro e2; exact h.apart k y v vy hky hk ey g e (by simpa using e2.symm)
 have hnb:∀ v,(∃ k,M k=some v)→v.ownBlock=none ∨ v.ownBlock ≠ some bL:=fun v ⟨k,hk⟩=>by
  cases e:v.ownBlock with
  | none=>exact .inl rfl
  | some g=>right; have:=(h.lt hk e).1; intro e2; injection e2 with e2; omega
 have hnew:∀ g,v'.ownBlock=some g→bL < g:=fun g e=>by have:=(hown.lt g e).1; omega
 have hv'b:v'.ownBlock=none ∨ v'.ownBlock ≠ some bL:=by
  cases e:v'.ownBlock with
  | none=>exact .inl rfl
  | some g=>right; have:=hnew g e; intro e2; injection e2 with e2; omega
 constructor
 ·refine ⟨hM,fun k=>?_,fun k k' v u hkk hk hk' g e=>?_⟩
  ·by_cases ek:k=y
   ·subst ek
    rw [updM_same,lookL_same]
    refine .inr ⟨v',rfl,?_⟩
    rw [flatG_snoc,List.length_append]
    exact hown.kept hg3 hv'b
   ·rw [updM_other ek,lookL_other _ _ ek]
    rcases h.row k with e | ⟨v,e,ho⟩
    ·exact .inl e
    ·exact .inr ⟨v,e,((ho.kept hg1 (hnb v ⟨k,e⟩)).kept hg2 (hne2 k v ek e)).kept hg3 (hnb v ⟨k,e⟩)⟩
  ·by_cases ek:k=y
   ·subst ek
    rw [updM_same] at hk; injection hk with hk; subst hk
    rw [updM_other (Ne.symm hkk)] at hk'
    intro e2
    rcases hloc with el | el
    ·rw [e] at el
     cases ey:M k with
     | none=>rw [ey] at el; simp [Value.ownBlock] at el
     | some vy=>rw [ey] at el; exact h.apart k k' vy u hkk ey hk' g (by simpa using el.symm) e2
    ·rw [e] at el; injection el with el
     have:=(h.lt hk' e2).2
     have:=hg1.size
     omega
   ·rw [updM_other ek] at hk
    by_cases ek':k'=y
    ·subst ek'
     rw [updM_same] at hk'; injection hk' with hk'; subst hk'
     intro e2
     rcases hloc with el | el
     ·rw [e2] at el
      cases ey:M k' with
      | none=>rw [ey] at el; simp [Value.ownBlock] at el
      | some vy=>rw [ey] at el; exact h.apart k k' v vy hkk hk ey g e (by simpa using el.symm)
     ·rw [e2] at el; injection el with el
      have:=(h.lt hk e).2
      have:=hg1.size
      omega
    ·rw [updM_other ek'] at hk'
     exact h.apart k k' v u hkk hk hk' g e
 ·refine ⟨Nat.le_trans hg1.size (Nat.le_trans hg2.size hg3.size),fun g hg hb hf=>?_,fun g hg hf k v hk=>?_⟩
  ·have h1:=hg1.block g hg (fun e=>hb (by injection e))
   have h2:=hg2.block g (Nat.lt_of_lt_of_le hg hg1.size) (fun e=>by
    cases ey:M y with
    | none=>rw [ey] at e; simp [Value.ownBlock] at e
    | some vy=>rw [ey] at e; exact hf y vy ey (by simpa using e.symm))
   have h3:=hg3.block g (Nat.lt_of_lt_of_le hg (Nat.le_trans hg1.size hg2.size)) (fun e=>hb (by injection e))
   rw [h3,h2,h1]
  ·by_cases ek:k=y
   ·subst ek
    rw [updM_same] at hk; injection hk with hk; subst hk
    intro e2
    rcases hloc with el | el
    ·rw [e2] at el
     cases ey:M k with
     | none=>rw [ey] at el; simp [Value.ownBlock] at el
     | some vy=>rw [ey] at el; exact hf k vy ey (by simpa using el.symm)
    ·rw [e2] at el; injection el with el; have:=hg1.size; omega
   ·rw [updM_other ek] at hk
    exact hf k v hk
end Go.Proofs.YtogjfppkbkgaeaaGreat.G
