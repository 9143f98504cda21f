/- The keys of the program's maps of places and of levels. -/
import Derived.WalkArith
import Derived.Test.YtdaoiceeidoehaaGreatJ10
open Go.Proofs.Tryz
set_option maxHeartbeats 80000000
namespace Go.Proofs.YtdaoiceeidoehaaGreat
open Go.ChangeShapes Go.WideShapes Go.ChangeAt Go.RowKit Go.Maps
abbrev K3:=ByteArray × ByteArray × ByteArray
def kZ (k:K3):Value:=.agg #[.string k.1,.string k.2.1,.string k.2.2]
theorem Ij (x y:K3) (h:kZ x=kZ y):x=y:=by
 unfold kZ at h;injection h with h;have h1:=congrArg Array.toList h;simp at h1;exact Prod.ext h1.1 (Prod.ext h1.2.1 h1.2.2)
theorem LY:(216:TypeId) < prog.types.size:=of_decide_eq_true (by kernel_rfl)
theorem K7:(match prog.underlying 216 with | some (.array _ _) | some (.struct _)=>true | _=>false)=true:=by rw [underlying216]
set_option maxRecDepth 100000 in
theorem Ik:WideMaps.KeyLaw prog 216:=deep_law_laid uK (m:=3) (by omega) LY (by kernel_rfl) K7
theorem EL:Keyed prog 216:=Keyed.of_law Ik
theorem K8:prog.keyType 216=true:=by kernel_rfl
theorem EM:prog.cellsOf 216=3:=by kernel_rfl
theorem FW:prog.cellsOf 40=2:=by kernel_rfl
theorem FX:2≤prog.types.size:=of_decide_eq_true (by kernel_rfl)
theorem uL:∃ n,prog.types.size=n + 2:=⟨prog.types.size - 2,by have:=FX; omega⟩
set_option maxRecDepth 100000 in
theorem pG (k:K3) (h0:k.1.size≤maxLen) (h1:k.2.1.size≤maxLen) (h2:k.2.2.size≤maxLen):∃ kl,keyOf prog 216 (kZ k)=some kl:=by
 obtain ⟨n,hn⟩:=uL;refine ⟨.string (keyBytes [.string k.1.data.toList,.string k.2.1.data.toList,.string k.2.2.data.toList]),?_⟩;unfold keyOf;rw [underlying216];simp only [K8,kZ,Value.formed,underlying216,EM,hn,Value.cells];simp +decide [Program.keyLits,underlying216,underlying40,underlying9,EM,FW,strCells,h0,h1,h2]
abbrev KL:=ByteArray × Int
def ze (k:KL):Value:=.agg #[.string k.1,.int .i64 k.2]
theorem Il (x y:KL) (h:ze x=ze y):x=y:=by
 unfold ze at h;injection h with h;have h1:=congrArg Array.toList h;simp at h1;exact Prod.ext h1.1 h1.2
theorem LZ:(179:TypeId) < prog.types.size:=of_decide_eq_true (by kernel_rfl)
theorem K9:(match prog.underlying 179 with | some (.array _ _) | some (.struct _)=>true | _=>false)=true:=by rw [underlying179]
set_option maxRecDepth 100000 in
theorem Im:WideMaps.KeyLaw prog 179:=deep_law_laid uK (m:=2) (by omega) LZ (by kernel_rfl) K9
theorem L6:Keyed prog 179:=Keyed.of_law Im
theorem La:prog.keyType 179=true:=by kernel_rfl
theorem EN:prog.cellsOf 179=2:=by kernel_rfl
theorem Io:prog.cellsOf 2=1:=by kernel_rfl
set_option maxRecDepth 100000 in
theorem EO (k:KL) (h0:k.1.size≤maxLen) (h1:0≤k.2) (h2:k.2≤1000000):∃ kl,keyOf prog 179 (ze k)=some kl:=by
 have hw:(Lit.int .i64 k.2).wf=true:=WalkArith.wf_i64 ⟨by omega,by omega⟩;obtain ⟨n,hn⟩:=uL;refine ⟨.string (keyBytes [.string k.1.data.toList,.int .i64 k.2]),?_⟩;unfold keyOf;rw [underlying179];simp only [La,ze,Value.formed,underlying179,EN,hn,Value.cells];simp +decide [Program.keyLits,underlying179,underlying2,underlying9,EN,Io,strCells,h0,hw]
open Pl
set_option linter.unusedVariables false
def fI (xs:List Al) (t:Tp):List Al:=aL (aL xs ⟨t.a,t.b⟩) ⟨t.c,t.d⟩
def bW (xs:List Al) (t:Tp):List Al:=if t.s.toList == [] then aL xs ⟨t.c,t.d⟩ else xs
def fC (ts:List Tp):List Al:=ts.foldl fI []
def dC (ts:List Tp):List Al:=ts.foldl bW []
theorem uM (ts:List Tp) (t:Tp):fC (ts ++ [t])=fI (fC ts) t:=by simp [fC]
theorem rP (ts:List Tp) (t:Tp):dC (ts ++ [t])=bW (dC ts) t:=by simp [dC]
theorem jV (xs:List Al) (o:Al):(aL xs o).length≤xs.length + 1:=by
 unfold aL; split
 ·omega
 ·simp
theorem l5 (xs:List Al) (t:Tp):(fI xs t).length≤xs.length + 2:=by
 unfold fI;have h1:=jV (aL xs ⟨t.a,t.b⟩) ⟨t.c,t.d⟩;have h2:=jV xs ⟨t.a,t.b⟩;omega
theorem l6 (xs:List Al) (t:Tp):(bW xs t).length≤xs.length + 1:=by
 unfold bW; split
 ·exact jV _ _
 ·omega
def EP (t:Tp):K3:=(t.a,t.b,t.r)
def aN (ts:List Tp):List (K3 × Tp):=ts.map fun t=>(EP t,t)
theorem De (ts:List Tp) (t:Tp):aN (ts ++ [t])=aN ts ++ [(EP t,t)]:=by simp [aN]
structure DatT (w:World) (D br bp:Nat) (tab:Value) (n1:Int) (E:List (K3 × Tp)) (xo xu:List Al) (np:Nat) (Mp:K3→Option Value) (vo vu:Value):Prop where
 gt:bp < D
 lt:D < w.heap.size
 kind:∃ cur,w.heap[D]?=some (.cells cur 128 (0,0))
 c0:w.cell? ⟨D,0,none⟩=some tab
 c1:w.cell? ⟨D,1,none⟩=some (.int .i64 n1)
 c2:w.cell? ⟨D,2,none⟩=some (.map (some br))
 c3:w.cell? ⟨D,3,none⟩=some (.map (some bp))
 c4:w.cell? ⟨D,4,none⟩=some vo
 c5:w.cell? ⟨D,5,none⟩=some vu
 told:G.Grp kZ prog 216 73 6 Tp.row w bp np Mp E
 objs:w.ownsRow (bp + 1) 40 2 vo xo.length (pairs xo)
 users:w.ownsRow (bp + 1) 40 2 vu xu.length (pairs xu)
 apart:∀ g,vo.ownBlock=some g→vu.ownBlock ≠ some g
theorem bZ {w:World} {base size n g:Nat} {e e':TypeId} {v:Value} {xs:List Value} {cur:Array Value} (h:w.ownsRow base e size v n xs) (hg:v.ownBlock=some g) (hc:w.heap[g]?=some (.cells cur e' (0,0))):e=e':=by
 rcases h.2 with ⟨rfl,-⟩ | ⟨g',cap,cur',rfl,-,hg',-⟩
 ·simp [Value.ownBlock] at hg
 ·have e1:g'=g:=by simpa [Value.ownBlock] using hg
  rw [e1,hc] at hg';injection hg' with hg';injection hg' with _ h2;exact h2.symm
theorem zf {w:World} {base size n g:Nat} {e:TypeId} {v:Value} {xs:List Value} {es:Array MapEntry} {c:Nat} (h:w.ownsRow base e size v n xs) (hg:v.ownBlock=some g) (hc:w.heap[g]?=some (.map es c)):False:=by
 rcases h.2 with ⟨rfl,-⟩ | ⟨g',cap,cur',rfl,-,hg',-⟩
 ·simp [Value.ownBlock] at hg
 ·have e1:g'=g:=by simpa [Value.ownBlock] using hg
  rw [e1,hc] at hg';cases hg'
theorem di {w w':World} {base size n:Nat} {e:TypeId} {v:Value} {xs:List Value} (h:w.ownsRow base e size v n xs) (hb:∀ g,v.ownBlock=some g→w'.heap[g]?=w.heap[g]?):w'.ownsRow base e size v n xs:=by
 refine ⟨h.1,?_⟩;rcases h.2 with h0 | ⟨g,cap,cur,rfl,h1,h2,h3⟩
 ·exact .inl h0
 ·exact .inr ⟨g,cap,cur,rfl,h1,(hb g rfl).trans h2,h3⟩
theorem gZ {w:World} {base size n g:Nat} {e:TypeId} {v:Value} {xs:List Value} (h:w.ownsRow base e size v n xs) (hg:v.ownBlock=some g):∃ cur,w.heap[g]?=some (.cells cur e (0,0)):=by
 rcases h.2 with ⟨rfl,-⟩ | ⟨g',cap,cur',rfl,-,hg',-⟩
 ·simp [Value.ownBlock] at hg
 ·have e1:g'=g:=by simpa [Value.ownBlock] using hg
  exact ⟨cur',by rw [← e1]; exact hg'⟩
theorem pI {w:World} {bp np:Nat} {Mp:K3→Option Value} {E:List (K3 × Tp)} (h:G.Grp kZ prog 216 73 6 Tp.row w bp np Mp E) {k:K3} {v:Value} (hk:Mp k=some v):∃ n xs,w.ownsRow (bp + 1) 73 6 v n xs:=by
 rcases h.row k with ⟨e,-⟩ | ⟨v',e,ho⟩
 ·rw [e] at hk; cases hk
 ·rw [e] at hk; injection hk with hk; subst hk; exact ⟨_,_,ho⟩
theorem AY {w:World} {bp np g:Nat} {Mp:K3→Option Value} {E:List (K3 × Tp)} {e:TypeId} {cur:Array Value} (h:G.Grp kZ prog 216 73 6 Tp.row w bp np Mp E) (hc:w.heap[g]?=some (.cells cur e (0,0))) (hne:(73:TypeId) ≠ e):G.FreeB Mp g:=fun k v hk hg=>by
 obtain ⟨n,xs,ho⟩:=pI h hk;exact hne (bZ ho hg hc)
theorem pJ {w w':World} {bp np:Nat} {Mp:K3→Option Value} {E:List (K3 × Tp)} (h:G.Grp kZ prog 216 73 6 Tp.row w bp np Mp E) (hm:w'.heap[bp]?=w.heap[bp]?) (hr:∀ k v g,Mp k=some v→v.ownBlock=some g→w'.heap[g]?=w.heap[g]?):G.Grp kZ prog 216 73 6 Tp.row w' bp np Mp E where
 map:=h.map.of_block hm
 row k:=by
  rcases h.row k with e | ⟨v,e,ho⟩
  ·exact .inl e
  ·exact .inr ⟨v,e,di ho fun g hg=>hr k v g e hg⟩
 apart:=h.apart
section
variable {w w':World} {D br bp:Nat} {tab:Value} {n1:Int} {E:List (K3 × Tp)} {xo xu:List Al} {np:Nat} {Mp:K3→Option Value} {vo vu:Value}
theorem DatT.below (h:DatT w D br bp tab n1 E xo xu np Mp vo vu) (hb:Below w.heap.size w w'):DatT w' D br bp tab n1 E xo xu np Mp vo vu where
 gt:=h.gt
 lt:=Nat.lt_of_lt_of_le h.lt hb.size
 kind:=by obtain ⟨cur,e⟩:=h.kind; exact ⟨cur,(hb.block D h.lt).trans e⟩
 c0:=(hb.cell (p:=⟨D,0,none⟩) h.lt).trans h.c0
 c1:=(hb.cell (p:=⟨D,1,none⟩) h.lt).trans h.c1
 c2:=(hb.cell (p:=⟨D,2,none⟩) h.lt).trans h.c2
 c3:=(hb.cell (p:=⟨D,3,none⟩) h.lt).trans h.c3
 c4:=(hb.cell (p:=⟨D,4,none⟩) h.lt).trans h.c4
 c5:=(hb.cell (p:=⟨D,5,none⟩) h.lt).trans h.c5
 told:=h.told.below hb
 objs:=aK h.objs hb
 users:=aK h.users hb
 apart:=h.apart
theorem DatT.tell (h:DatT w D br bp tab n1 E xo xu np Mp vo vu) {Mp':K3→Option Value} {E':List (K3 × Tp)} {np':Nat} (hg:G.Grp kZ prog 216 73 6 Tp.row w' bp np' Mp' E') (hs:G.Stl w Mp w' Mp' bp):DatT w' D br bp tab n1 E' xo xu np' Mp' vo vu:=by
 have hD:w'.heap[D]?=w.heap[D]?:=by
  obtain ⟨cur,e⟩:=h.kind;exact hs.block D h.lt (by have:=h.gt; omega) (AY h.told e (by decide))
 have hc:∀ o,w'.cell? ⟨D,o,none⟩=w.cell? ⟨D,o,none⟩:=fun o=>World.cell?_of_block (w:=w) (a:=⟨D,o,none⟩) hD;have hO:∀ {v:Value} {n:Nat} {xs:List Value},w.ownsRow (bp + 1) 40 2 v n xs→w'.ownsRow (bp + 1) 40 2 v n xs:=fun {v n xs} ho=>di ho fun g hg=>by
  obtain ⟨cur,e⟩:=gZ ho hg;have:=ho.lt g hg;exact hs.block g this.2 (by omega) (AY h.told e (by decide))
 exact ⟨h.gt,Nat.lt_of_lt_of_le h.lt hs.size,by obtain ⟨cur,e⟩:=h.kind; exact ⟨cur,hD.trans e⟩,(hc _).trans h.c0,(hc _).trans h.c1,(hc _).trans h.c2,(hc _).trans h.c3,(hc _).trans h.c4,(hc _).trans h.c5,hg,hO h.objs,hO h.users,h.apart⟩
theorem DatT.newO (h:DatT w D br bp tab n1 E xo xu np Mp vo vu) {vo':Value} {xo':List Al} (ho:w'.ownsRow (bp + 1) 40 2 vo' xo'.length (pairs xo')) (ha:Aside w vo w' vo'):DatT (w'.setCell ⟨D,4,none⟩ vo') D br bp tab n1 E xo' xu np Mp vo' vu:=by
 obtain ⟨cur,hk⟩:=h.kind;have hDo:vo.ownBlock ≠ some D:=fun e=>absurd (bZ h.objs e hk) (by decide);have hD:w'.heap[D]?=w.heap[D]?:=ha.block D h.lt hDo;have hc:∀ o,w'.cell? ⟨D,o,none⟩=w.cell? ⟨D,o,none⟩:=fun o=>World.cell?_of_block (w:=w) (a:=⟨D,o,none⟩) hD;have hc2:∀ o,o ≠ 4→(w'.setCell ⟨D,4,none⟩ vo').cell? ⟨D,o,none⟩=w.cell? ⟨D,o,none⟩:=fun o ne=>(dV (by omega)).trans (hc o);have hDn:vo'.ownBlock ≠ some D:=ha.apart h.lt hDo;have hne:∀ g,g ≠ D→(w'.setCell ⟨D,4,none⟩ vo').heap[g]?=w'.heap[g]?:=fun g e=>heap_setCell_other w' ⟨D,4,none⟩ g vo' e;have hbp:bp < w.heap.size:=by have:=h.gt; have:=h.lt; omega
 have hrow:∀ k v g,Mp k=some v→v.ownBlock=some g→(w'.setCell ⟨D,4,none⟩ vo').heap[g]?=w.heap[g]?:=fun k v g hm hg=>by
  obtain ⟨n,xs,hr⟩:=pI h.told hm;obtain ⟨cr,er⟩:=gZ hr hg;rw [hne g (fun e=>absurd (bZ hr (e ▸ hg) hk) (by decide))];exact ha.block g (hr.lt g hg).2 (fun e=>absurd (bZ h.objs e er) (by decide))
 refine ⟨h.gt,by simpa using Nat.lt_of_lt_of_le h.lt ha.size,⟨_,heap_setCell_same w' D 4 cur _ vo' (hD.trans hk)⟩,(hc2 0 (by omega)).trans h.c0,(hc2 1 (by omega)).trans h.c1,(hc2 2 (by omega)).trans h.c2,(hc2 3 (by omega)).trans h.c3,CU ((hc 4).trans h.c4),(hc2 5 (by omega)).trans h.c5,pJ h.told ?_ hrow,di ho fun g hg=>hne g fun e=>hDn (e ▸ hg),di h.users fun g hg=>?_,fun g hg hu=>?_⟩
 ·rw [hne bp (by have:=h.gt; omega)];exact ha.block bp hbp fun e=>by have:=(h.objs.lt bp e).1; omega
 ·rw [hne g (fun e=>absurd (bZ h.users (e ▸ hg) hk) (by decide))];exact ha.block g (h.users.lt g hg).2 fun e=>h.apart g e hg
 ·rcases ha.own with e | ⟨g',e,hg'⟩
  ·exact h.apart g (e ▸ hg) hu
  ·rw [hg] at e; injection e with e;have:=(h.users.lt g hu).2;omega
theorem DatT.newU (h:DatT w D br bp tab n1 E xo xu np Mp vo vu) {vu':Value} {xu':List Al} (ho:w'.ownsRow (bp + 1) 40 2 vu' xu'.length (pairs xu')) (ha:Aside w vu w' vu'):DatT (w'.setCell ⟨D,5,none⟩ vu') D br bp tab n1 E xo xu' np Mp vo vu':=by
 obtain ⟨cur,hk⟩:=h.kind;have hDo:vu.ownBlock ≠ some D:=fun e=>absurd (bZ h.users e hk) (by decide);have hD:w'.heap[D]?=w.heap[D]?:=ha.block D h.lt hDo;have hc:∀ o,w'.cell? ⟨D,o,none⟩=w.cell? ⟨D,o,none⟩:=fun o=>World.cell?_of_block (w:=w) (a:=⟨D,o,none⟩) hD;have hc2:∀ o,o ≠ 5→(w'.setCell ⟨D,5,none⟩ vu').cell? ⟨D,o,none⟩=w.cell? ⟨D,o,none⟩:=fun o ne=>(dV (by omega)).trans (hc o);have hDn:vu'.ownBlock ≠ some D:=ha.apart h.lt hDo;have hne:∀ g,g ≠ D→(w'.setCell ⟨D,5,none⟩ vu').heap[g]?=w'.heap[g]?:=fun g e=>heap_setCell_other w' ⟨D,5,none⟩ g vu' e;have hbp:bp < w.heap.size:=by have:=h.gt; have:=h.lt; omega
 have hrow:∀ k v g,Mp k=some v→v.ownBlock=some g→(w'.setCell ⟨D,5,none⟩ vu').heap[g]?=w.heap[g]?:=fun k v g hm hg=>by
  obtain ⟨n,xs,hr⟩:=pI h.told hm;obtain ⟨cr,er⟩:=gZ hr hg;rw [hne g (fun e=>absurd (bZ hr (e ▸ hg) hk) (by decide))];exact ha.block g (hr.lt g hg).2 (fun e=>absurd (bZ h.users e er) (by decide))
 refine ⟨h.gt,by simpa using Nat.lt_of_lt_of_le h.lt ha.size,⟨_,heap_setCell_same w' D 5 cur _ vu' (hD.trans hk)⟩,(hc2 0 (by omega)).trans h.c0,(hc2 1 (by omega)).trans h.c1,(hc2 2 (by omega)).trans h.c2,(hc2 3 (by omega)).trans h.c3,(hc2 4 (by omega)).trans h.c4,CU ((hc 5).trans h.c5),pJ h.told ?_ hrow,di h.objs fun g hg=>?_,di ho fun g hg=>hne g fun e=>hDn (e ▸ hg),fun g hg hu=>?_⟩
 ·rw [hne bp (by have:=h.gt; omega)];exact ha.block bp hbp fun e=>by have:=(h.users.lt bp e).1; omega
 ·rw [hne g (fun e=>absurd (bZ h.objs (e ▸ hg) hk) (by decide))];exact ha.block g (h.objs.lt g hg).2 fun e=>h.apart g hg e
 ·rcases ha.own with e | ⟨g',e,hg'⟩
  ·exact h.apart g hg (e ▸ hu)
  ·rw [hu] at e; injection e with e;have:=(h.objs.lt g hg).2;omega
end
section
variable {P:Program} {ops:Array Oper} {Q:Exit→Act→World→Prop}
theorem iB {id:Nat} {a:Act} {w:World} (L:Nat) (f0:Nat→Value) (F:(Nat→Value)→Act) (I:(Nat→Bool)→(Nat→Value)→World→Prop)
  (hm:P.follows .mixedOrders=true) (hsz:ops.size=L + 1) (hord:zb ops=true)
  (hcl:∀ o,ops[L]?=some o→∀ (l:Nat→Bool) f w',I l f w'→(∀ e ∈ o.after,Region.binds .any e=true→l e.on=true)→∀ k,k < L→l k=true)
  (h0:a=F f0) (hI0:I (fun _=>false) f0 w.drew)
  (hstep:∀ i,i < L→∀ o,ops[i]?=some o→∀ (l:Nat→Bool) f w',l i=false→I l f w'→(∀ e ∈ o.after,Region.binds .any e=true→l e.on=true) →
   wpOp P ops Q i (fun a' w''=>∃ v,a'=F (upd f i v)∧I (fun k=>if k=i then true else l k) (upd f i v) w'') (F f) w')
  (hfin:∀ o,ops[L]?=some o→∀ (l:Nat→Bool) f w',(∀ k,k < L→l k=true)→I l f w'→wpOp P ops Q L (fun a' w''=>Q .normal a' w'') (F f) w') :
  (Code.region id ops true).wp P Q a w:=by
 refine iC (fun listed a' w'=>listed.size=L + 1∧((listed.getD L false=false∧∃ f,a'=F f∧I (fun k=>listed.getD k false) f w') ∨ ((∀ j,j≤L→listed.getD j true=true)∧Q .normal a' w'))) hm ?_ ?_ ?_
 ·refine ⟨by simpa using hsz,Or.inl ⟨?_,_,h0,?_⟩⟩
  ·rw [Array.getD_eq_getD_getElem?,Array.getElem?_replicate]; split <;> rfl
  ·have:(fun k=>(Array.replicate ops.size false).getD k false)=fun _=>false:=funext fun k=>by rw [Array.getD_eq_getD_getElem?,Array.getElem?_replicate]; split <;> rfl
   rw [this]; exact hI0
 ·rintro listed a' w' ⟨hs,h⟩ i hi;obtain ⟨hl,o,ho,hpre⟩:=mem_ready.1 hi;have hiL:i < L + 1:=by have:=(Array.getElem?_eq_some_iff.1 ho).1; omega
  rcases h with ⟨hn,f,rfl,hI⟩ | ⟨hall,-⟩
  ·by_cases e:i=L
   ·subst e;have hall:∀ k,k < i→listed.getD k false=true:=hcl o ho _ f w' hI (fun e he hb=>hpre e he hb);refine wpOp_mono (fun a'' w'' hq=>⟨by simpa using hs,Or.inr ⟨fun j hj=>?_,hq⟩⟩) (hfin o ho _ f w' hall hI);rw [oU (by simp; omega),eQ _ _ _ (by omega)];by_cases e:j=i
    ·simp [e]
    ·rw [if_neg e]; exact hall j (by omega)
   ·refine wpOp_mono ?_ (hstep i (by omega) o ho _ f w' (by rw [← oU (by omega)]; exact hl) hI (fun e he hb=>hpre e he hb));rintro a'' w'' ⟨v,rfl,hI'⟩;refine ⟨by simpa using hs,Or.inl ⟨?_,_,rfl,?_⟩⟩
    ·rw [eQ _ _ _ (by omega),if_neg (Ne.symm e)]; exact hn
    ·have:(fun k=>(listed.setIfInBounds i true).getD k false)=fun k=>if k=i then true else listed.getD k false:=funext fun k=>eQ _ _ _ (by omega)
     rw [this]; exact hI'
  ·rw [hall i (by omega)] at hl; cases hl
 ·rintro listed a' w' ⟨hs,h⟩ hr;rcases h with ⟨hn,-⟩ | ⟨-,hq⟩
  ·have:=rO hr hsz (xE hord) hs L (by omega);rw [oU (by omega)] at this;rw [this] at hn; cases hn
  ·exact hq
end
end Go.Proofs.YtdaoiceeidoehaaGreat
namespace Go.Proofs.YtdaoiceeidoehaaGreat.G
set_option linter.unusedVariables false
open Go.ChangeShapes Go.WideShapes Go.ChangeAt Go.RowKit
structure WI (C:Nat→Value) (W:World) (CD:Value→World→Prop) (l:Nat→Bool) (f:Nat→Value) (w:World):Prop where
 val:∀ k,k≤9→k ≠ 7→l k=true→f k=C k
 seq:l 7=true→l 4=true∧l 6=true
 nin:l 9=true→l 8=true
 mid:(l 7=false∧Below W.heap.size W w) ∨ (l 7=true∧CD (f 7) w)
section
variable {C:Nat→Value} {W:World} {CD:Value→World→Prop} {l:Nat→Bool} {f:Nat→Value} {w:World}
theorem wi_start (W:World):WI C W CD (fun _=>false) f W.drew:=⟨fun _ _ _ h=>(by cases h),fun h=>(by cases h),fun h=>(by cases h),.inl ⟨rfl,(Below.refl _ _).drew⟩⟩
theorem WI.put (h:WI C W CD l f w) {i:Nat} (hi:i ≠ 7) (h9:i=9→l 8=true) {v:Value} (hv:v=C i):WI C W CD (fun k=>if k=i then true else l k) (upd f i v) w:=by
 refine ⟨fun k hk h7 hl=>?_,fun hl=>?_,fun hl=>?_,?_⟩
 ·by_cases e:k=i
  ·subst e; simp [upd,hv]
  ·simp only [if_neg e] at hl;simp only [upd,if_neg e]; exact h.val k hk h7 hl
 ·have hl':(if (7:Nat)=i then true else l 7)=true:=hl;rw [if_neg (Ne.symm hi)] at hl';have:=h.seq hl';constructor
  ·show (if (4:Nat)=i then true else l 4)=true; rw [this.1]; split <;> rfl
  ·show (if (6:Nat)=i then true else l 6)=true; rw [this.2]; split <;> rfl
 ·have hl':(if (9:Nat)=i then true else l 9)=true:=hl;show (if (8:Nat)=i then true else l 8)=true;by_cases e:(9:Nat)=i
  ·rw [h9 e.symm]; split <;> rfl
  ·rw [if_neg e] at hl'; rw [h.nin hl']; split <;> rfl
 ·have e7:(if (7:Nat)=i then true else l 7)=l 7:=if_neg (Ne.symm hi);have f7:upd f i v 7=f 7:=by simp only [upd]; rw [if_neg (Ne.symm hi)]
  rcases h.mid with ⟨h1,h2⟩ | ⟨h1,h2⟩
  ·exact .inl ⟨e7.trans h1,h2⟩
  ·exact .inr ⟨e7.trans h1,by rw [f7]; exact h2⟩
theorem WI.before (h:WI C W CD l f w) (hl:l 7=false):Below W.heap.size W w:=by
 rcases h.mid with ⟨_,h2⟩ | ⟨h1,_⟩
 ·exact h2
 ·rw [h1] at hl; cases hl
theorem WI.early (h:WI C W CD l f w) (hl:l 4=false ∨ l 6=false):Below W.heap.size W w:=by
 refine h.before ?_;cases h7:l 7 with
 | false=>rfl
 | true =>
  obtain ⟨h4,h6⟩:=h.seq h7;rcases hl with e | e
  ·rw [h4] at e; cases e
  ·rw [h6] at e; cases e
theorem WI.call (h:WI C W CD l f w) (h4:l 4=true) (h6:l 6=true) {v:Value} {w':World} (hc:CD v w'):WI C W CD (fun k=>if k=7 then true else l k) (upd f 7 v) w':=by
 refine ⟨fun k hk h7 hl=>?_,fun _=>⟨by simp [h4],by simp [h6]⟩,fun hl=>h.nin hl,.inr ⟨by simp,by simp only [upd,if_true]; exact hc⟩⟩;simp only [if_neg h7] at hl;simp only [upd,if_neg h7]; exact h.val k hk h7 hl
theorem WI.last (h:WI C W CD l f w) (hall:∀ k,k < 10→l k=true):(∀ k,k≤9→k ≠ 7→f k=C k)∧CD (f 7) w:=by
 refine ⟨fun k hk h7=>h.val k hk h7 (hall k (by omega)),?_⟩;rcases h.mid with ⟨h1,_⟩ | ⟨_,h2⟩
 ·rw [hall 7 (by omega)] at h1; cases h1
 ·exact h2
end
end Go.Proofs.YtdaoiceeidoehaaGreat.G
namespace Go.Proofs.YtdaoiceeidoehaaGreat
open Go.ChangeShapes Go.WideShapes Go.ChangeAt Go.RowKit
open Pl
theorem EQ:∃ i z,prog.info? 73=some i∧i.zero=some z∧i.size=6∧i.bytes=96:=by
 have h:(prog.info? 73).map (fun i=>(i.zero.isSome,i.size,i.bytes))=some (true,6,96):=by kernel_rfl
 cases hi:prog.info? 73 with
 | none=>rw [hi] at h; cases h
 | some i =>
  rw [hi] at h;simp at h;obtain ⟨z,hz⟩:=Option.isSome_iff_exists.mp h.1;exact ⟨i,z,rfl,hz,h.2.1,h.2.2⟩
structure Filling (w wr:World) (g:Nat) (ts:List Tp) (k:Nat):Prop where
 below:Below w.heap.size w wr
 ge:w.heap.size≤g
 lt:g < wr.heap.size
 done:∀ (i:Nat) (h:i < ts.length),i < k→JM wr g (0 + i * 6) ts[i]
 there:∀ j,j < ts.length * 6→(wr.cell? ⟨g,j,none⟩).isSome=true
 free:∀ j,wr.frozen? ⟨g,j,none⟩=false
theorem Filling.later {w wr w1:World} {g:Nat} {ts:List Tp} {k:Nat} (h:Filling w wr g ts k) (hb:Below wr.heap.size wr w1):Filling w w1 g ts k where
 below:=h.below.trans (hb.mono h.below.size)
 ge:=h.ge
 lt:=Nat.lt_of_lt_of_le h.lt hb.size
 done i hi hk:=(h.done i hi hk).same fun o=>hb.cell (p:=⟨g,o,none⟩) h.lt
 there j hj:=by rw [hb.cell (p:=⟨g,j,none⟩) h.lt]; exact h.there j hj
 free j:=by rw [hb.frozen (p:=⟨g,j,none⟩) h.lt]; exact h.free j
theorem Filling.put {w wr:World} {g:Nat} {ts:List Tp} {k:Nat} (h:Filling w wr g ts k) (hk:k < ts.length):Filling w (uF wr g (k * 6) ts[k]) g ts (k + 1) where
 below:=CV h.below h.ge
 ge:=h.ge
 lt:=by rw [FN]; exact h.lt
 done i hi hik:=by
  by_cases e:i=k
  ·subst e;rw [Nat.zero_add];exact EK _ (fun j hj=>h.there _ (by omega))
  ·obtain ⟨a0,a1,a2,a3,a4,a5⟩:=h.done i hi (by omega);refine ⟨?_,?_,?_,?_,?_,?_⟩ <;> (rw [Az _ _ _ _ _ (by omega)]; assumption)
 there j hj:=by
  by_cases hin:j < k * 6 ∨ k * 6 + 6≤j
  ·rw [Az _ _ _ _ _ hin]; exact h.there j hj
  ·obtain ⟨a0,a1,a2,a3,a4,a5⟩:=EK (w:=wr) (g:=g) (o:=k * 6) ts[k] (fun j hj=>h.there _ (by omega));have hj6:j=k * 6 ∨ j=k * 6 + 1 ∨ j=k * 6 + 2 ∨ j=k * 6 + 3 ∨ j=k * 6 + 4 ∨ j=k * 6 + 5:=by omega
   rcases hj6 with e | e | e | e | e | e
   ·rw [e,a0]; rfl
   ·rw [e,a1]; rfl
   ·rw [e,a2]; rfl
   ·rw [e,a3]; rfl
   ·rw [e,a4]; rfl
   ·rw [e,a5]; rfl
 free j:=by rw [AA]; exact h.free j
theorem pK {w w0:World} {ts:List Tp} {base:Nat} {e:TypeId} {xs:List Value} (h:w0.ownsRow base e 6 (.slice (some ⟨w.heap.size,0,none⟩) ts.length ts.length) ts.length xs) (hg:w.grownBy w0 none):Filling w w0 w.heap.size ts 0 where
 below:=(Below.refl _ _).grown hg (Nat.le_refl _) (fun k hk=>by cases hk)
 ge:=Nat.le_refl _
 lt:=(h.lt w.heap.size rfl).2
 done i hi hk:=absurd hk (Nat.not_lt_zero _)
 there j hj:=by
  rw [h.cellAt j hj,List.getElem?_eq_getElem (by rw [h.1]; exact hj)]; rfl
 free j:=h.frozenAt j
theorem zg (b off cap:Nat) (ts:List Tp) (w:World) (hlen:ts.length≤1048576) (hr:uE w b off ts) (hb:b < w.heap.size) :
  Calls prog 12 #[.slice (some ⟨b,off,none⟩) ts.length cap] w fun e w'=>e=.returned (.slice (some ⟨w.heap.size,0,none⟩) ts.length ts.length)∧Filling w w' w.heap.size ts ts.length:=by
 obtain ⟨inf,z,hi,hz0,hz1,hz2⟩:=EQ;go_enter func12,ntmps12;go_wp2_with (at_make; refine wpList_make_full _ rfl _ _ 36 rfl w.heap.size 73 inf z 6 underlying36 hi hz0 hz1 .i64 .i64 _ _ ts.length rfl rfl rfl rfl (by rw [hz2]; omega) (by unfold maxLen; omega) (Nat.le_refl _) ?_; intro w0 hown0 hgrow0);have F0:Filling w w0 w.heap.size ts 0:=pK hown0 hgrow0;clear hown0 hgrow0 hi hz0 hz1 hz2;go_loopw [4] (fun i wr=>∃ k:Nat,k≤ts.length∧i=.int .i64 k∧Filling w wr w.heap.size ts k) (fun i _=>ts.length - (intOf i).toNat);case atStart=>exact ⟨0,Nat.zero_le _,rfl,F0⟩
 case round =>
  obtain ⟨k,hk,rfl,F⟩:=hrel;by_cases hlt:k < ts.length
  ·obtain ⟨t0,t1,t2,t3,t4,t5⟩:=(hr.below F.below hb) k hlt;go_wp2_with fail;refine (Ay _ _ _ _ _ _ _).mono ?_;rintro e w1 ⟨rfl,hb1⟩;have F1:=F.later hb1;have fz:=F1.free;obtain ⟨v0,u0⟩:=Option.isSome_iff_exists.mp (F1.there (k * 6) (by omega));obtain ⟨v1,u1⟩:=Option.isSome_iff_exists.mp (F1.there (k * 6 + 1) (by omega));obtain ⟨v2,u2⟩:=Option.isSome_iff_exists.mp (F1.there (k * 6 + 2) (by omega));obtain ⟨v3,u3⟩:=Option.isSome_iff_exists.mp (F1.there (k * 6 + 3) (by omega));obtain ⟨v4,u4⟩:=Option.isSome_iff_exists.mp (F1.there (k * 6 + 4) (by omega));obtain ⟨v5,u5⟩:=Option.isSome_iff_exists.mp (F1.there (k * 6 + 5) (by omega));have F2:=F1.put hlt;clear F F0 t0 t1 t2 t3 t4 t5 hb1;go_wp2;go_roundw;case rel=>exact ⟨k + 1,by omega,by go_num,F2⟩
   case measure=>simp [intOf]; omega
  ·obtain rfl:k=ts.length:=by omega
   go_wp2;go_ret;exact ⟨rfl,F⟩
theorem zh (ad:Option Addr) (cap:Nat) (w:World) :
  Calls prog 12 #[.slice ad 0 cap] w fun e w'=>e=.returned (.slice (some ⟨w.heap.size,0,none⟩) 0 0)∧Filling w w' w.heap.size [] 0:=by
 obtain ⟨inf,z,hi,hz0,hz1,hz2⟩:=EQ;go_enter func12,ntmps12;go_wp2_with (at_make; refine wpList_make_full _ rfl _ _ 36 rfl w.heap.size 73 inf z 6 underlying36 hi hz0 hz1 .i64 .i64 _ _ 0 rfl rfl rfl rfl (by omega) (by unfold maxLen; omega) (Nat.le_refl _) ?_; intro w0 hown0 hgrow0);have F0:Filling w w0 w.heap.size [] 0:=pK (ts:=[]) hown0 hgrow0;clear hown0 hgrow0 hi hz0 hz1 hz2;go_loopw [4] (fun i wr=>∃ k:Nat,k=0∧i=.int .i64 k∧Filling w wr w.heap.size [] 0) (fun i _=>(intOf i).toNat);case atStart=>exact ⟨0,rfl,rfl,F0⟩
 case round =>
  obtain ⟨k,rfl,rfl,F⟩:=hrel;go_wp2;go_ret;exact ⟨rfl,F⟩
theorem kC (ad:Option Addr) (cap:Nat) (ts:List Tp) (w:World) (hlen:ts.length≤1048576) (hs:Sl w ad ts) :
  Calls prog 12 #[.slice ad ts.length cap] w fun e w'=>e=.returned (.slice (some ⟨w.heap.size,0,none⟩) ts.length ts.length)∧Filling w w' w.heap.size ts ts.length:=by
 rcases hs with rfl | ⟨b,off,rfl,hb,hr⟩
 ·exact zh ad cap w
 ·exact zg b off cap ts w hlen hr hb
theorem Filling.row {w w':World} {g:Nat} {ts:List Tp} (h:Filling w w' g ts ts.length):uE w' g 0 ts:=fun i hi=>h.done i hi hi
theorem Filling.sl {w w':World} {g:Nat} {ts:List Tp} (h:Filling w w' g ts ts.length):Sl w' (some ⟨g,0,none⟩) ts:=.inr ⟨g,0,rfl,h.lt,h.row⟩
end Go.Proofs.YtdaoiceeidoehaaGreat
namespace Go.Proofs.YtdaoiceeidoehaaGreat
open Go.ChangeShapes Go.WideShapes Go.ChangeAt Go.RowKit
open Pl
attribute [local go_sem ↓] Go.wp_at_zero Go.wp_at_succ
theorem KR {w W w':World} {n:Nat} {x0 x1 x2 x3 x4 x5:Value} (h:W.cell? ⟨n,0,none⟩=some x0∧W.cell? ⟨n,1,none⟩=some x1∧W.cell? ⟨n,2,none⟩=some x2∧W.cell? ⟨n,3,none⟩=some x3∧W.cell? ⟨n,4,none⟩=some x4∧W.cell? ⟨n,5,none⟩=some x5∧n < W.heap.size∧Below n w W) (hb:Below W.heap.size W w'):w'.cell? ⟨n,0,none⟩=some x0∧w'.cell? ⟨n,1,none⟩=some x1∧w'.cell? ⟨n,2,none⟩=some x2∧w'.cell? ⟨n,3,none⟩=some x3∧w'.cell? ⟨n,4,none⟩=some x4∧w'.cell? ⟨n,5,none⟩=some x5∧n < w'.heap.size∧Below n w w':=by
 obtain ⟨h0,h1,h2,h3,h4,h5,hn,hB⟩:=h;have hc:∀ o,w'.cell? ⟨n,o,none⟩=W.cell? ⟨n,o,none⟩:=fun o=>hb.cell (p:=⟨n,o,none⟩) hn;refine ⟨by rw [hc]; exact h0,by rw [hc]; exact h1,by rw [hc]; exact h2,by rw [hc]; exact h3,by rw [hc]; exact h4,by rw [hc]; exact h5,Nat.lt_of_lt_of_le hn hb.size,hB.trans (hb.mono (Nat.le_of_lt hn))⟩
theorem sw (a b r c d s:ByteArray) (w:World) (ha:a.size≤maxLen) (hb:b.size≤maxLen) (hr:r.size≤maxLen) (hc:c.size≤maxLen) (hd:d.size≤maxLen) (hs:s.size≤maxLen) :
  Calls prog 114 #[.agg #[.string a,.string b,.string r,.string c,.string d,.string s]] w fun e w'=>e=.returned (.string (aT a b r c d s))∧Below w.heap.size w w':=by
 by_cases hn:bi a b r c d s=true
 ·obtain ⟨h1,h2,h3,h4⟩:=jg hn;have hx:=ja a b;have hy:=ja c d;have hr12:=(lQ h2).2;have hs12:=EJ h4;clear h1 h2 h3 h4;go_enter func114,ntmps114;go_wp2_with fail;refine (bv _ _ _ _ _ _ _ ha hb hr hc hd hs).mono ?_;rintro e w1 ⟨rfl,hb1⟩;obtain ⟨hc1,hf1⟩:=dH hb1;have hz1:w.heap.size < w1.heap.size:=by have:=hb1.size; simp at this; omega
  have k:∀ o v,(w.alloc (.cells #[.string a,.string b,.string r,.string c,.string d,.string s] 73)).cell? ⟨w.heap.size,o,none⟩=some v→w1.cell? ⟨w.heap.size,o,none⟩=some v:=fun o v h=>by rw [hc1 _ _ (by simp)]; exact h
  have k0:=k 0 (.string a) (by simp);have k1:=k 1 (.string b) (by simp);have k2:=k 2 (.string r) (by simp);have k3:=k 3 (.string c) (by simp);have k4:=k 4 (.string d) (by simp);have k5:=k 5 (.string s) (by simp);have HB1:Below w.heap.size w w1:=((Below.refl _ _).alloc (Nat.le_refl _) _).trans (hb1.mono (by simp));clear k hb1 hc1 hf1;have q1:(9223372036854775807 < (aA a b).size + 1)=False:=by simp; omega
  have q2:(9223372036854775807 < (aA a b).size + 1 + r.size)=False:=by simp; omega
  have q3:(9223372036854775807 < (aA a b).size + 1 + r.size + 1)=False:=by simp; omega
  have q4:(9223372036854775807 < (aA a b).size + 1 + r.size + 1 + (aA c d).size)=False:=by simp; omega
  go_wp2_with fail
  go_region_held3 (fun w'=>w'.cell? ⟨w.heap.size,0,none⟩=some (.string a)∧w'.cell? ⟨w.heap.size,1,none⟩=some (.string b)∧w'.cell? ⟨w.heap.size,2,none⟩=some (.string r)∧w'.cell? ⟨w.heap.size,3,none⟩=some (.string c)∧w'.cell? ⟨w.heap.size,4,none⟩=some (.string d)∧w'.cell? ⟨w.heap.size,5,none⟩=some (.string s)∧w.heap.size < w'.heap.size∧Below w.heap.size w w')
   (first | exact KR (by assumption) hbx | exact ⟨k0,k1,k2,k3,k4,k5,hz1,HB1.drew⟩)
   (first | (go_at_call 139; refine (si _ _ _ (by assumption) (by assumption)).mono ?_; rintro e w' ⟨rfl,hbx⟩))
  rename_i hH;obtain ⟨g0,g1,g2,g3,g4,g5,gz,gB⟩:=hH;clear k0 k1 k2 k3 k4 k5 hbx q1 q2 q3 q4 HB1;by_cases he:s.toList.isEmpty=true
  ·have HT:Hid (aT a b r c d s=_):=lV hn he;go_wp2;go_ret;exact ⟨iE HT.out.symm,gB⟩
  ·have he':s.toList.isEmpty=false:=by simpa using he
   have HT:Hid (aT a b r c d s=_):=lW hn he';clear he;go_wp2;go_ret;exact ⟨iE HT.out.symm,gB⟩
 ·have hn':bi a b r c d s=false:=by simpa using hn
  have HT:Hid (aT a b r c d s=⟨#[]⟩):=uC hn';clear hn;go_enter func114,ntmps114;go_wp2_with fail;refine (bv _ _ _ _ _ _ _ ha hb hr hc hd hs).mono ?_;rintro e w1 ⟨rfl,hb1⟩;go_wp2;go_ret;exact ⟨iE HT.out.symm,((Below.refl _ _).alloc (Nat.le_refl _) _).trans (hb1.mono (by simp))⟩
theorem sD (a b r c d s:ByteArray) (w:World) (ha:a.size≤maxLen) (hb:b.size≤maxLen) (hr:r.size≤maxLen) (hc:c.size≤maxLen) (hd:d.size≤maxLen) (hs:s.size≤maxLen) :
  Calls prog 165 #[.agg #[.string a,.string b,.string r,.string c,.string d,.string s]] w fun e w'=>e=.returned (.string (aT a b r c d s))∧Below w.heap.size w w':=by
 by_cases hn:bi a b r c d s=true
 ·obtain ⟨h1,h2,h3,h4⟩:=jg hn;have hx:=ja a b;have hy:=ja c d;have hr12:=(lQ h2).2;have hs12:=EJ h4;clear h1 h2 h3 h4;go_enter func165,ntmps165;go_wp2_with fail;refine (bz _ _ _ _ _ _ _ ha hb hr hc hd hs).mono ?_;rintro e w1 ⟨rfl,hb1⟩;obtain ⟨hc1,hf1⟩:=dH hb1;have hz1:w.heap.size < w1.heap.size:=by have:=hb1.size; simp at this; omega
  have k:∀ o v,(w.alloc (.cells #[.string a,.string b,.string r,.string c,.string d,.string s] 73)).cell? ⟨w.heap.size,o,none⟩=some v→w1.cell? ⟨w.heap.size,o,none⟩=some v:=fun o v h=>by rw [hc1 _ _ (by simp)]; exact h
  have k0:=k 0 (.string a) (by simp);have k1:=k 1 (.string b) (by simp);have k2:=k 2 (.string r) (by simp);have k3:=k 3 (.string c) (by simp);have k4:=k 4 (.string d) (by simp);have k5:=k 5 (.string s) (by simp);have HB1:Below w.heap.size w w1:=((Below.refl _ _).alloc (Nat.le_refl _) _).trans (hb1.mono (by simp));clear k hb1 hc1 hf1;have q1:(9223372036854775807 < (aA a b).size + 1)=False:=by simp; omega
  have q2:(9223372036854775807 < (aA a b).size + 1 + r.size)=False:=by simp; omega
  have q3:(9223372036854775807 < (aA a b).size + 1 + r.size + 1)=False:=by simp; omega
  have q4:(9223372036854775807 < (aA a b).size + 1 + r.size + 1 + (aA c d).size)=False:=by simp; omega
  go_wp2_with fail
  go_region_held3 (fun w'=>w'.cell? ⟨w.heap.size,0,none⟩=some (.string a)∧w'.cell? ⟨w.heap.size,1,none⟩=some (.string b)∧w'.cell? ⟨w.heap.size,2,none⟩=some (.string r)∧w'.cell? ⟨w.heap.size,3,none⟩=some (.string c)∧w'.cell? ⟨w.heap.size,4,none⟩=some (.string d)∧w'.cell? ⟨w.heap.size,5,none⟩=some (.string s)∧w.heap.size < w'.heap.size∧Below w.heap.size w w')
   (first | exact KR (by assumption) hbx | exact ⟨k0,k1,k2,k3,k4,k5,hz1,HB1.drew⟩)
   (first | (go_at_call 177; refine (sj _ _ _ (by assumption) (by assumption)).mono ?_; rintro e w' ⟨rfl,hbx⟩))
  rename_i hH;obtain ⟨g0,g1,g2,g3,g4,g5,gz,gB⟩:=hH;clear k0 k1 k2 k3 k4 k5 hbx q1 q2 q3 q4 HB1;by_cases he:s.toList.isEmpty=true
  ·have HT:Hid (aT a b r c d s=_):=lV hn he;go_wp2;go_ret;exact ⟨iE HT.out.symm,gB⟩
  ·have he':s.toList.isEmpty=false:=by simpa using he
   have HT:Hid (aT a b r c d s=_):=lW hn he';clear he;go_wp2;go_ret;exact ⟨iE (HT.out.trans (by simp only [ByteArray.append_assoc])).symm,gB⟩
 ·have hn':bi a b r c d s=false:=by simpa using hn
  have HT:Hid (aT a b r c d s=⟨#[]⟩):=uC hn';clear hn;go_enter func165,ntmps165;go_wp2_with fail;refine (bz _ _ _ _ _ _ _ ha hb hr hc hd hs).mono ?_;rintro e w1 ⟨rfl,hb1⟩;go_wp2;go_ret;exact ⟨iE HT.out.symm,((Below.refl _ _).alloc (Nat.le_refl _) _).trans (hb1.mono (by simp))⟩
end Go.Proofs.YtdaoiceeidoehaaGreat
