/- A map of rows that are appended to, key by key. -/
import Derived.Test.YtajkkeikihhejaaGreatSq
import Derived.Test.YtajkkeikihhejaaGreatJ19
import Derived.Test.YtajkkeikihhejaaGreatJ23
open Go.Proofs.Tryz
set_option maxHeartbeats 80000000
namespace Go.Proofs.YtajkkeikihhejaaGreat
open Go.ChangeShapes Go.WideShapes Go.ChangeAt Go.RowKit Go.Maps
open Pl
abbrev Ky:=ByteArray × ByteArray
def lookL (E:List (Ky × St)) (k:Ky):List St:=E.filterMap fun p=>if p.1=k then some p.2 else none
theorem lookL_append (E F:List (Ky × St)) (k:Ky):lookL (E ++ F) k=lookL E k ++ lookL F k:=by unfold lookL; rw [List.filterMap_append]
theorem sU (E:List (Ky × St)) (k:Ky) (s:St):lookL (E ++ [(k,s)]) k=lookL E k ++ [s]:=by rw [lookL_append]; simp [lookL]
theorem qp (E:List (Ky × St)) {k y:Ky} (s:St) (h:k ≠ y):lookL (E ++ [(y,s)]) k=lookL E k:=by rw [lookL_append]; simp [lookL,Ne.symm h]
theorem mem_lookL {E:List (Ky × St)} {k:Ky} {s:St}:s ∈ lookL E k ↔ (k,s) ∈ E:=by
 unfold lookL;rw [List.mem_filterMap];constructor
 ·rintro ⟨⟨a,b⟩,h1,h2⟩;simp only at h2;split at h2
  ·rename_i e; injection h2 with h2; rw [← e,← h2]; exact h1
  cases h2
 intro h; exact ⟨(k,s),h,by simp⟩
def FreeB (M:Ky→Option Value) (g:Nat):Prop:=∀ k v,M k=some v→v.ownBlock ≠ some g
structure Grp (w:World) (bL n:Nat) (M:Ky→Option Value) (E:List (Ky × St)):Prop where
 map:aM dQ prog 94 w bL n M
 row:∀ k,(M k=none∧lookL E k=[]) ∨ ∃ v,M k=some v∧w.ownsRow (bL + 1) 274 3 v (lookL E k).length (iG (lookL E k))
 apart:∀ k k' v v',k ≠ k'→M k=some v→M k'=some v'→∀ g,v.ownBlock=some g→v'.ownBlock ≠ some g
theorem Grp.lt {w:af} {bL n:Nat} {M:Ky→Option Value} {E:List (Ky × St)} (h:Grp w bL n M E) {k:Ky} {v:Value} (hk:M k=some v) {g:Nat} (hg:v.ownBlock=some g):bL < g∧g < w.heap.size:=by
 rcases h.row k with ⟨e,-⟩ | ⟨v',e,ho⟩
 ·rw [e] at hk; cases hk
 rw [e] at hk; injection hk with hk; subst hk;have:=ho.lt g hg;exact ⟨by omega,this.2⟩
theorem Grp.fresh {w:af} {bL n:Nat} {M:Ky→Option Value} {E:List (Ky × St)} (h:Grp w bL n M E) {g:Nat} (hg:w.heap.size≤g):FreeB M g:=fun k v hk e=>by
 have:=(h.lt hk e).2; omega
theorem Grp.mono {w:af} {bL n n':Nat} {M:Ky→Option Value} {E:List (Ky × St)} (h:Grp w bL n M E) (hn:n≤n'):Grp w bL n' M E:=⟨h.map.mono hn,h.row,h.apart⟩
theorem Grp.below {w w':af} {bL n:Nat} {M:Ky→Option Value} {E:List (Ky × St)} (h:Grp w bL n M E) (hB:ag w w'):Grp w' bL n M E where
 map:=h.map.below hB
 row k:=by
  rcases h.row k with e | ⟨v,e,ho⟩
  ·exact .inl e
  exact .inr ⟨v,e,own_below ho hB⟩
 apart:=h.apart
theorem grp_made (w:af):Grp (w.alloc (.map #[] 0)) w.heap.size 0 (fun _=>none) [] where
 map:=nM _ _ _ w
 row k:=.inl ⟨rfl,rfl⟩
 apart k k' v v' _ h:=by cases h
structure Stl (W:World) (M:Ky→Option Value) (w2:World) (M2:Ky→Option Value) (bL:Nat):Prop where
 size:W.heap.size≤w2.heap.size
 block:∀ g,g < W.heap.size→g ≠ bL→FreeB M g→w2.heap[g]?=W.heap[g]?
 free:∀ g,g < W.heap.size→FreeB M g→FreeB M2 g
theorem Stl.refl (W:af) (M:Ky→Option Value) (bL:Nat):Stl W M W M bL:=⟨TS _,fun _ _ _ _=>rfl,fun _ _ h=>h⟩
theorem Stl.trans {W w2 w3:af} {M M2 M3:Ky→Option Value} {bL:Nat} (h:Stl W M w2 M2 bL) (h2:Stl w2 M2 w3 M3 bL):Stl W M w3 M3 bL where
 size:=TZ h.size h2.size
 block g hg hb hf:=(h2.block g (TP hg h.size) hb (h.free g hg hf)).trans (h.block g hg hb hf)
 free g hg hf:=h2.free g (TP hg h.size) (h.free g hg hf)
theorem Stl.below {W w2:af} {M:Ky→Option Value} {bL:Nat} (hB:ag W w2):Stl W M w2 M bL:=⟨hB.size,fun g hg _ _=>hB.block g hg,fun _ _ h=>h⟩
structure Cel (w:World) (M:Ky→Option Value) (bL g o:Nat) (u:Value):Prop where
 cell:w.cell? ⟨g,o,none⟩=some u
 lt:g < w.heap.size
 free:FreeB M g
 ne:g ≠ bL
theorem Cel.stl {w w2:af} {M M2:Ky→Option Value} {bL g o:Nat} {u:Value} (h:Cel w M bL g o u) (hS:Stl w M w2 M2 bL):Cel w2 M2 bL g o u where
 cell:=(Ul (w:=w) (hS.block g h.lt h.ne h.free)).trans h.cell
 lt:=TP h.lt hS.size
 free:=hS.free g h.lt h.free
 ne:=h.ne
theorem Grp.step {W0 w1 w2 w3:af} {bL n:Nat} {M:Ky→Option Value} {E:List (Ky × St)} {y:Ky} {v':Value} {s:St} (h:Grp W0 bL n M E) (hg1:W0.grownBy w1 (some bL)) (hown:w2.ownsRow (bL + 1) 274 3 v' ((lookL E y).length + 1) (iG (lookL E y) ++ s.cells))
  (hg2:w1.grownBy w2 ((M y).getD (.slice none 0 0)).ownBlock) (hloc:v'.ownBlock=((M y).getD (.slice none 0 0)).ownBlock ∨ v'.ownBlock=some w1.heap.size) (hg3:w2.grownBy w3 (some bL)) (hM:aM dQ prog 94 w3 bL (n + 1) (kY M y (some v'))) :
  Grp w3 bL (n + 1) (kY M y (some v')) (E ++ [(y,s)])∧Stl W0 M w3 (kY M y (some v')) bL:=by
 have hrow0:∀ k v,M k=some v→∃ xs m,W0.ownsRow (bL + 1) 274 3 v m xs:=fun k v hk=>by
  rcases h.row k with ⟨e,-⟩ | ⟨v1,e,ho⟩
  ·rw [e] at hk; cases hk
  rw [e] at hk; injection hk with hk; subst hk; exact ⟨_,_,ho⟩
 have hne2:∀ k v,k ≠ y→M k=some v→v.ownBlock=none ∨ v.ownBlock ≠ ((M y).getD (.slice none 0 0)).ownBlock:=fun k v Zb hk=>by
  cases e:v.ownBlock with
  | none=>exact .inl rfl
  | some g =>
   right;cases ey:M y with
   | none=>simp [Value.ownBlock]
   | some vy=>intro e2; exact h.apart k y v vy Zb hk ey g e (by simpa using e2.symm)
 have hnb:∀ v,(∃ k,M k=some v)→v.ownBlock=none ∨ v.ownBlock ≠ some bL:=fun v ⟨k,hk⟩=>by
  cases e:v.ownBlock with
  | none=>exact .inl rfl
  | some g=>right; have:=(h.lt hk e).1; intro e2; injection e2 with e2; omega
 have hnew:∀ g,v'.ownBlock=some g→bL < g:=fun g e=>by have:=(hown.lt g e).1; omega
 have hv'b:v'.ownBlock=none ∨ v'.ownBlock ≠ some bL:=by
  cases e:v'.ownBlock with
  | none=>exact .inl rfl
  | some g=>right; have:=hnew g e; intro e2; injection e2 with e2; omega
 constructor
 ·refine ⟨hM,fun k=>?_,fun k k' v u hkk hk hk' g e=>?_⟩
  ·by_cases ek:k=y
   ·subst ek;rw [dZ,sU];refine .inr ⟨v',rfl,?_⟩;rw [zD,T9];exact hown.kept hg3 hv'b
   rw [cz ek,qp _ _ ek];rcases h.row k with e | ⟨v,e,ho⟩
   ·exact .inl e
   exact .inr ⟨v,e,((ho.kept hg1 (hnb v ⟨k,e⟩)).kept hg2 (hne2 k v ek e)).kept hg3 (hnb v ⟨k,e⟩)⟩
  by_cases ek:k=y
  ·subst ek;rw [dZ] at hk; injection hk with hk; subst hk;rw [cz (Ne.symm hkk)] at hk';intro e2;rcases hloc with el | el
   ·rw [e] at el;cases ey:M k with
    | none=>rw [ey] at el; simp [Value.ownBlock] at el
    | some vy=>rw [ey] at el; exact h.apart k k' vy u hkk ey hk' g (by simpa using el.symm) e2
   rw [e] at el; injection el with el;have:=(h.lt hk' e2).2;have:=hg1.size;omega
  rw [cz ek] at hk;by_cases ek':k'=y
  ·subst ek';rw [dZ] at hk'; injection hk' with hk'; subst hk';intro e2;rcases hloc with el | el
   ·rw [e2] at el;cases ey:M k' with
    | none=>rw [ey] at el; simp [Value.ownBlock] at el
    | some vy=>rw [ey] at el; exact h.apart k k' v vy hkk hk ey g e (by simpa using el.symm)
   rw [e2] at el; injection el with el;have:=(h.lt hk e).2;have:=hg1.size;omega
  rw [cz ek'] at hk';exact h.apart k k' v u hkk hk hk' g e
 refine ⟨TZ hg1.size (TZ hg2.size hg3.size),fun g hg hb hf=>?_,fun g hg hf k v hk=>?_⟩
 ·have h1:=hg1.block g hg (fun e=>hb (by injection e));have h2:=hg2.block g (TP hg hg1.size) (fun e=>by
   cases ey:M y with
   | none=>rw [ey] at e; simp [Value.ownBlock] at e
   | some vy=>rw [ey] at e; exact hf y vy ey (by simpa using e.symm))
  have h3:=hg3.block g (TP hg (TZ hg1.size hg2.size)) (fun e=>hb (by injection e));rw [h3,h2,h1]
 by_cases ek:k=y
 ·subst ek;rw [dZ] at hk; injection hk with hk; subst hk;intro e2;rcases hloc with el | el
  ·rw [e2] at el;cases ey:M k with
   | none=>rw [ey] at el; simp [Value.ownBlock] at el
   | some vy=>rw [ey] at el; exact hf k vy ey (by simpa using el.symm)
  rw [e2] at el; injection el with el; have:=hg1.size; omega
 rw [cz ek] at hk;exact hf k v hk
def xW (b:Bool):Int:=if b then 1 else 0
def AZ (ts:List Ty) (t r:ByteArray) (ng:Bool) (e:Ex):List (Ky × St):=(jg ts t e).map fun a=>((a.t,a.s),⟨t,r,xW ng⟩)
def relE (ts:List Ty) (t r:ByteArray) (es:List Ex):Nat→List (Ky × St)
 | 0=>[]
 | i + 1=>relE ts t r es i ++ (match es[i]? with | none=>[] | some e=>AZ ts t r ((dz es).getD i false) e)
def ji (ts:List Ty) (t:ByteArray) (qs:List RR):List (Ky × St):=qs.flatMap fun q=>relE ts t q.name (aj q.rows) q.rows.length
def jk (ts:List Ty) (rs:List TR):List (Ky × St):=rs.flatMap fun t=>ji ts t.name t.rows
theorem Ju (ts:List Ty) (t:bF) (qs:List RR) (j:Nat) (h:j < qs.length):ji ts t (qs.take (j + 1))=ji ts t (qs.take j) ++ relE ts t qs[j].name (aj qs[j].rows) qs[j].rows.length:=by
 unfold ji;rw [TV h,List.flatMap_append,List.flatMap_singleton]
theorem Jv (ts:List Ty) (rs:List TR) (k:Nat) (h:k < rs.length):jk ts (rs.take (k + 1))=jk ts (rs.take k) ++ ji ts rs[k].name rs[k].rows:=by
 unfold jk;rw [TV h,List.flatMap_append,List.flatMap_singleton]
theorem Dl (ts:List Ty) (t r:bF) (rows:List ER) (i:Nat) (h:i < rows.length) (ng:Bool) (hn:ng=(dz (aj rows)).getD i false):relE ts t r (aj rows) (i + 1)=relE ts t r (aj rows) i ++ AZ ts t r ng rows[i].e:=by
 have e:(aj rows)[i]?=some rows[i].e:=by simp [aj,h]
 simp only [relE,e,hn]
theorem Dm (rs:List TR) (hl:∀ r ∈ rs,∀ q ∈ r.rows,∀ e ∈ q.rows,e.e.allow.length≤6) (typ:bF) (e:Ex) (he:e.allow.length≤6):(jg (ae rs) typ e).length≤6:=by
 unfold jg;split
 ·exact TZ (CS _) he
 split
 ·simp
 split
 ·rw [Uy];unfold gy;split
  ·refine TZ (zH _ _ _ _) ?_;unfold aA;cases h:fH (ae rs) typ e.over with
   | none=>simp [aU]
   | some es =>
    obtain ⟨t,ht,q,hq,-,-,rfl⟩:=nX h;have h1:=hl t ht q hq;have:∀ (xs:List ER),(∀ q ∈ xs,q.e.allow.length≤6)→(aU (aj xs)).length≤6:=by
     intro xs
     induction xs with
     | nil=>intro _; simp [aj,aU]
     | cons x xs ih =>
      intro h;have e4:aj (x::xs)=x.e::aj xs:=rfl;rw [e4];simp only [aU];split
      ·exact h x (by simp)
      exact ih (fun q hq=>h q (by simp [hq]))
    exact this q.rows h1
  simp
 simp
theorem Jw (rs:List TR) (hf:∀ r ∈ rs,r.fits) (typ:bF) (ht:typ.size≤maxLen) (e:Ex) (he:e.fits):∀ a ∈ jg (ae rs) typ e,a.t.size≤maxLen∧a.s.size≤maxLen:=by
 have hA:∀ (xs:List Al),(∀ a ∈ xs,a.fits)→∀ a ∈ dH xs,a.t.size≤maxLen∧a.s.size≤maxLen:=by
  intro xs
  induction xs with
  | nil=>intro _ a ha; cases ha
  | cons b xs ih =>
   intro h a ha;simp only [dH] at ha;split at ha
   ·exact ih (fun q hq=>h q (by simp [hq])) a ha
   rcases List.mem_cons.1 ha with rfl | ha
   ·exact h a (by simp)
   exact ih (fun q hq=>h q (by simp [hq])) a ha
 have hG:∀ (xs:List Al) (rel:ByteArray),(∀ a ∈ xs,a.fits)→∀ g ∈ gl (ae rs) rel xs,g.size≤maxLen:=by
  intro xs rel
  induction xs with
  | nil=>intro _ a ha; cases ha
  | cons b xs ih =>
   intro h a ha;simp only [gl] at ha;split at ha
   ·exact ih (fun q hq=>h q (by simp [hq])) a ha
   rcases List.mem_cons.1 ha with rfl | ha
   ·exact (h b (by simp)).1
   exact ih (fun q hq=>h q (by simp [hq])) a ha
 unfold jg;split
 ·exact hA _ he.1
 split
 ·intro a ha; simp at ha; subst ha; exact ⟨ht,he.2.2.1⟩
 split
 ·intro a ha;obtain ⟨g,hg,rfl⟩:=Ue.1 ha;refine ⟨?_,he.2.2.1⟩;unfold gy at hg;split at hg
  ·unfold ig at hg;refine hG _ _ ?_ g hg;unfold aA;cases e3:fH (ae rs) typ e.over with
   | none=>intro a ha; simp [aU] at ha
   | some es =>
    obtain ⟨t,ht',q,hq,-,-,rfl⟩:=nX e3;have hq2:=((hf t ht').2.2 q hq).2.2;intro a ha;have:∀ (xs:List ER),(∀ q ∈ xs,q.e.fits)→∀ a ∈ aU (aj xs),a.fits:=by
     intro xs
     induction xs with
     | nil=>intro _ a ha; simp [aj,aU] at ha
     | cons x xs ih =>
      intro h a ha;have e4:aj (x::xs)=x.e::aj xs:=rfl;rw [e4] at ha;simp only [aU] at ha;split at ha
      ·exact (h x (by simp)).1 a ha
      exact ih (fun q hq=>h q (by simp [hq])) a ha
    exact this q.rows hq2 a ha
  cases hg
 intro a ha; cases ha
theorem QL:(prog.info? 274).map (fun i=>(i.zero,i.size,i.bytes))=some (some (.agg #[.string ⟨#[]⟩,.string ⟨#[]⟩,.int .i64 0]),3,40):=by kernel_rfl
theorem Jy (u:af):(zeroValue 272).run prog u=.ok (.slice none 0 0) u:=by kernel_rfl
theorem vH {w:af} {bL n:Nat} {M:Ky→Option Value} {E:List (Ky × St)} (h:Grp w bL n M E) (y:Ky):w.ownsRow (bL + 1) 274 3 ((M y).getD (.slice none 0 0)) (lookL E y).length (iG (lookL E y)):=by
 rcases h.row y with ⟨e,e2⟩ | ⟨v,e,ho⟩
 ·rw [e,e2]; exact World.ownsRow_nil _ _ _ _
 rw [e]; exact ho
theorem Pm {w:af} {bL n:Nat} {M:Ky→Option Value} {E:List (Ky × St)} (h:Grp w bL n M E) (y:Ky):some bL ≠ ((M y).getD (.slice none 0 0)).ownBlock:=by
 cases e:M y with
 | none=>simp [Value.ownBlock]
 | some v=>intro e2; have:=(h.lt e (g:=bL) (by simpa using e2.symm)).1; omega
theorem Dn (E:List (Ky × St)) (y:Ky):(lookL E y).length≤E.length:=List.length_filterMap_le _ _
set_option maxRecDepth 100000 in
theorem BL (ad:Option Addr) (cap:Nat) (rs:List TR) (bT nT:Nat) (T:Ky→Option Value) (w:af) (hlen:rs.length≤6) (hs:kW w ad rs) (hl:∀ r ∈ rs,r.light) (hf:∀ r ∈ rs,r.fits) (hrl:∀ r ∈ rs,r.rows.length≤6) (hel:∀ r ∈ rs,∀ q ∈ r.rows,q.rows.length≤15∧∀ e ∈ q.rows,dV q.rows.length e.e.kids) (hal6:∀ r ∈ rs,∀ q ∈ r.rows,∀ e ∈ q.rows,e.e.allow.length≤6) (hV:aM dQ prog 94 w bT nT T) (hT:Tab rs T) :
  Calls prog 134 #[.slice ad rs.length cap,.map (some bT)] w fun e w'=>e=.returned (.map (some w.heap.size))∧(∃ n M,Grp w' w.heap.size n M (jk (ae rs) rs))∧ag w w':=by
 have HS:=az hs;have HL:=az hl;have UL:=az hf;have Yx:Hid (∀ r ∈ rs,r.rows.length≤6):=hrl;have V8:Hid (∀ r ∈ rs,∀ q ∈ r.rows,q.rows.length≤15∧∀ e ∈ q.rows,dV q.rows.length e.e.kids):=hel;have HV:Hid (aM dQ prog 94 w bT nT T):=hV;have HT:=az hT;have Yn:Hid (∀ r ∈ rs,∀ q ∈ r.rows,∀ e ∈ q.rows,e.e.allow.length≤6):=hal6;clear hs hl hf hrl hel hV hT hal6;obtain ⟨i0,hi,hz0,hz1,hz2⟩:=info_parts QL;have HG0:Hid (Grp (w.alloc (.map #[] 0)) w.heap.size 0 (fun _=>none) []):=grp_made w;have HB0:Hid (ag w (w.alloc (.map #[] 0))):=(TT _ _).alloc (TS _) _;have hmm:=@run_makeMap prog;go_enter func134,ntmps134;go_wp2_with fail;go_loopw [19] (fun i wr=>∃ k:Nat,k≤rs.length∧i=.int .i64 k∧Hid (∃ n M,Grp wr w.heap.size n M (jk (ae rs) (rs.take k))∧n≤k * 540∧(jk (ae rs) (rs.take k)).length≤k * 540)∧Hid (ag w wr)) (fun i _=>rs.length - (intOf i).toNat);case atStart=>exact ⟨0,TW _,rfl,⟨0,_,HG0.out,by omega,by simp [jk]⟩,HB0⟩
 clear HG0 HB0 hmm;obtain ⟨k,hk,rfl,HG,HB⟩:=hrel;by_cases hlt:k < rs.length
 ·rcases HS.out.below HB.out with rfl | ⟨b,off,rfl,hb,hr,-⟩
  ·simp at hlt
  obtain ⟨t0,t1⟩:=hr k hlt;have hk1:=bB k;have hk2:(k:Int) < (rs.length:Int):=by omega
  have h6:rs[k].rows.length≤6:=Yx.out _ (TQ hlt);have z0:rs[k].name.size≤maxLen:=(UL.out _ (TQ hlt)).1;have WK:Hid (∀ q ∈ rs[k].rows,q.fits):=(UL.out _ (TQ hlt)).2.2;have HLR:Hid (∀ q ∈ rs[k].rows,q.light):=(HL.out _ (TQ hlt)).2;have HER:Hid (∀ q ∈ rs[k].rows,q.rows.length≤15∧∀ e ∈ q.rows,dV q.rows.length e.e.kids):=V8.out _ (TQ hlt);obtain ⟨n1,M1,hG1,hn1,hE1⟩:=HG.out;obtain ⟨E1,hE1d⟩:∃ E1,E1=jk (ae rs) (rs.take k):=⟨_,rfl⟩;rw [← hE1d] at hG1 hE1;have HE1D:Hid (E1=jk (ae rs) (rs.take k)):=hE1d;obtain ⟨W1,hW1⟩:∃ W1,W1=wr.alloc (.cells #[.string rs[k].name,.slice rs[k].ad rs[k].rows.length rs[k].cap] 127):=⟨_,rfl⟩;have hal:ag wr W1:=by rw [hW1]; exact (TT _ _).alloc (TS _) _
  have hbn:w.heap.size < wr.heap.size:=hG1.map.lt;have HC7:Hid (Cel W1 M1 w.heap.size wr.heap.size 0 (.string rs[k].name)):=⟨by rw [hW1]; simp,by rw [hW1]; simp,hG1.fresh (TS _),by omega⟩;have HG1:=az (hG1.below hal);have HB1:=jP HB hal;clear hr hal hG1 HG hE1d;go_wp2_with fail;rw [← hW1];clear hW1 t0 t1 HB;obtain ⟨g7,WO⟩:∃ g7,g7=wr.heap.size:=⟨_,rfl⟩;rw [← WO] at HC7 hbn ⊢;clear WO;go_loopw [26] (fun i w2=>∃ j:Nat,j≤rs[k].rows.length∧i=.int .i64 j∧Hid (∃ n M,Grp w2 w.heap.size n M (E1 ++ ji (ae rs) rs[k].name (rs[k].rows.take j))∧n≤k * 540 + j * 90∧(E1 ++ ji (ae rs) rs[k].name (rs[k].rows.take j)).length≤k * 540 + j * 90∧Cel w2 M w.heap.size g7 0 (.string rs[k].name))∧Hid (ag w w2)) (fun i _=>rs[k].rows.length - (intOf i).toNat);case atStart=>exact ⟨0,TW _,rfl,⟨n1,M1,by simpa [ji] using HG1.out,by omega,by have e:ji (ae rs) rs[k].name (rs[k].rows.take 0)=[]:=rfl; rw [e,List.append_nil]; omega,HC7.out⟩,HB1⟩
  clear HG1 HB1 HC7;obtain ⟨j,hj,rfl,HG,HB⟩:=hrel;by_cases hjl:j < rs[k].rows.length
  ·rcases HS.out.below HB.out with hnil | ⟨b',off',he,hb2,hr,hok⟩
   ·rw [hnil] at hlt; simp at hlt
   injection he with he; injection he with he1 he2; subst he1; subst he2;have ok:=hok rs[k] (TQ hlt);rcases ok with hnil | ⟨b2,UZ,had,hbb,hr2,-⟩
   ·rw [hnil] at hjl; simp at hjl
   obtain ⟨q0,q1⟩:=hr2 j hjl;have z1:rs[k].rows[j].name.size≤maxLen:=(WK.out _ (TQ hjl)).1;have WH:Hid (∀ q ∈ rs[k].rows[j].rows,q.e.fits):=(WK.out _ (TQ hjl)).2.2;have Vj:Hid (∀ q ∈ rs[k].rows[j].rows,q.e.light):=(HLR.out _ (TQ hjl)).2;have h15:rs[k].rows[j].rows.length≤15:=(HER.out _ (TQ hjl)).1;have HKR:Hid (∀ e ∈ rs[k].rows[j].rows,dV rs[k].rows[j].rows.length e.e.kids):=(HER.out _ (TQ hjl)).2;have Xp:Hid (iH w rs[k].rows[j].ad rs[k].rows[j].rows):=M8.mem (HS.out.mem (TQ hlt)) (TQ hjl);have hj1:=bB j;have hj2:(j:Int) < (rs[k].rows.length:Int):=by omega
   obtain ⟨n2,M2,hG2,hn2,hE2,Zw⟩:=HG.out;obtain ⟨E2,hE2d⟩:∃ E2,E2=E1 ++ ji (ae rs) rs[k].name (rs[k].rows.take j):=⟨_,rfl⟩;rw [← hE2d] at hG2 hE2;have HE2D:Hid (E2=E1 ++ ji (ae rs) rs[k].name (rs[k].rows.take j)):=hE2d;obtain ⟨W2,hW2⟩:∃ W2,W2=wr.alloc (.cells #[.string rs[k].rows[j].name,.slice rs[k].rows[j].ad rs[k].rows[j].rows.length rs[k].rows[j].cap] 147):=⟨_,rfl⟩;have hal:ag wr W2:=by rw [hW2]; exact (TT _ _).alloc (TS _) _
   have hbn2:w.heap.size < wr.heap.size:=hG2.map.lt;have Zx:Cel W2 M2 w.heap.size wr.heap.size 0 (.string rs[k].rows[j].name):=⟨by rw [hW2]; simp,by rw [hW2]; simp,hG2.fresh (TS _),by omega⟩;have hC9b:Cel W2 M2 w.heap.size wr.heap.size 1 (.slice rs[k].rows[j].ad rs[k].rows[j].rows.length rs[k].rows[j].cap):=⟨by rw [hW2]; simp,by rw [hW2]; simp,hG2.fresh (TS _),by omega⟩;have HC7:Hid (Cel W2 M2 w.heap.size g7 0 (.string rs[k].name)):=Zw.stl (Stl.below hal);have HC9:Hid (Cel W2 M2 w.heap.size wr.heap.size 0 (.string rs[k].rows[j].name)):=Zx;have HC9b:=az hC9b;have HG2:=az (hG2.below hal);have HB2:=jP HB hal;rw [had];clear hr hok hr2 hG2 Zw Zx hC9b hal HG HB hE2d;go_wp2_with fail;rw [← hW2];clear hW2 q0 q1;refine (BJ rs[k].rows[j].ad rs[k].rows[j].cap rs[k].rows[j].rows _ (by omega) (Xp.out.below HB2.out) Vj.out HKR.out).mono ?_;rintro e w3 ⟨rfl,XX⟩;obtain ⟨g9,hg9⟩:∃ g9,g9=wr.heap.size:=⟨_,rfl⟩;rw [← hg9] at HC9 HC9b hbn2 ⊢;have HB3:Hid (ag w w3):=HB2.out.trans (XX.below.mono HB2.out.size);have XF:=az (HG2.out.below XX.below);have VF:Hid (Cel w3 M2 w.heap.size g7 0 (.string rs[k].name)∧Cel w3 M2 w.heap.size g9 0 (.string rs[k].rows[j].name)∧∀ (i:Nat) (h:i < rs[k].rows[j].rows.length),Cel w3 M2 w.heap.size W2.heap.size i (.bool ((dz (aj rs[k].rows[j].rows)).getD i false))):=by
    refine ⟨HC7.out.stl (Stl.below XX.below),HC9.out.stl (Stl.below XX.below),fun i hi=>⟨?_,XX.lt,HG2.out.fresh (TS _),?_⟩⟩
    ·have hn:i < (dz (aj rs[k].rows[j].rows)).length:=by rw [FN,aT]; exact hi
     rw [XX.done i (by simpa [bools] using hn)];simp [bools,hn]
    have:=HG2.out.map.lt; omega
   have c9:=(HC9b.out.stl (Stl.below (bL:=w.heap.size) (M:=M2) XX.below)).cell;obtain ⟨gA,hgA⟩:∃ gA,gA=W2.heap.size:=⟨_,rfl⟩;rw [← hgA] at VF ⊢;clear XX HC7 HC9 HC9b HG2 HB2 hg9 hgA;go_wp2_with fail;clear c9;go_loopw [36] (fun i w4=>∃ m:Nat,m≤rs[k].rows[j].rows.length∧i=.int .i64 m∧Hid (∃ n M,Grp w4 w.heap.size n M (E2 ++ relE (ae rs) rs[k].name rs[k].rows[j].name (aj rs[k].rows[j].rows) m)∧n≤k * 540 + j * 90 + m * 6∧(E2 ++ relE (ae rs) rs[k].name rs[k].rows[j].name (aj rs[k].rows[j].rows) m).length≤k * 540 + j * 90 + m * 6∧(Cel w4 M w.heap.size g7 0 (.string rs[k].name)∧Cel w4 M w.heap.size g9 0 (.string rs[k].rows[j].name)∧∀ (i:Nat) (h:i < rs[k].rows[j].rows.length),Cel w4 M w.heap.size gA i (.bool ((dz (aj rs[k].rows[j].rows)).getD i false))))∧Hid (ag w w4)) (fun i _=>rs[k].rows[j].rows.length - (intOf i).toNat);case atStart=>exact ⟨0,TW _,rfl,⟨n2,M2,by simpa [relE] using XF.out,by omega,by have e:relE (ae rs) rs[k].name rs[k].rows[j].name (aj rs[k].rows[j].rows) 0=[]:=rfl; rw [e,List.append_nil]; omega,VF.out⟩,HB3⟩
   clear XF HB3 VF;obtain ⟨m,hm,rfl,HG,HB⟩:=hrel;by_cases U5:m < rs[k].rows[j].rows.length
   ·rcases Xp.out.below HB.out with hnil | ⟨bE,Z8,X7,Z9,ZN,hok⟩
    ·rw [hnil] at U5; simp at U5
    obtain ⟨t0,t1,t2,t3,t4⟩:=ZN m U5;have hm1:=bB m;have hm2:(m:Int) < (rs[k].rows[j].rows.length:Int):=by omega
    have Xk:Hid (rs[k].rows[j].rows[m].e.fits):=WH.out _ (TQ U5);have HXL:Hid (rs[k].rows[j].rows[m].e.light):=Vj.out _ (TQ U5);obtain ⟨n3,M3,hG3,hn3,hE3,Zw,Zx,hCA⟩:=HG.out;obtain ⟨E3,hE3d⟩:∃ E3,E3=E2 ++ relE (ae rs) rs[k].name rs[k].rows[j].name (aj rs[k].rows[j].rows) m:=⟨_,rfl⟩;rw [← hE3d] at hG3 hE3;have HE3D:Hid (E3=E2 ++ relE (ae rs) rs[k].name rs[k].rows[j].name (aj rs[k].rows[j].rows) m):=hE3d;have hbn3:w.heap.size < wr.heap.size:=hG3.map.lt;obtain ⟨ng,ZJ⟩:∃ ng,ng=(dz (aj rs[k].rows[j].rows)).getD m false:=⟨_,rfl⟩;have HNG:Hid (ng=(dz (aj rs[k].rows[j].rows)).getD m false):=ZJ;rw [X7];clear ZJ hE3d ZN;cases ng
    case' true =>
     obtain ⟨W3,hW3⟩:∃ W3,W3=((wr.alloc (.cells #[.int .i64 rs[k].rows[j].rows[m].e.kind,.slice rs[k].rows[j].rows[m].adA rs[k].rows[j].rows[m].e.allow.length rs[k].rows[j].rows[m].capA,.string rs[k].rows[j].rows[m].e.over,.string rs[k].rows[j].rows[m].e.name,.slice rs[k].rows[j].rows[m].adK rs[k].rows[j].rows[m].e.kids.length rs[k].rows[j].rows[m].capK] 39)).alloc (.cells #[.string rs[k].name,.string rs[k].rows[j].name,.int .i64 1] 274)):=⟨_,rfl⟩;have hal:ag wr W3:=by
      rw [hW3]
      repeat (first | exact TT _ _ | refine Below.setCell ?_ (by first | (simp; done) | (simp; omega)) _ | refine Below.alloc ?_ (by first | (simp; done) | (simp; omega)) _)
     have hsz3:W3.heap.size=wr.heap.size + 2:=by rw [hW3]; simp
     have HB3:=jP HB hal;have XF:=az (hG3.below hal);have Ye:Hid (Cel W3 M3 w.heap.size (wr.heap.size + 1) 0 (.string rs[k].name)∧Cel W3 M3 w.heap.size (wr.heap.size + 1) 1 (.string rs[k].rows[j].name)∧Cel W3 M3 w.heap.size (wr.heap.size + 1) 2 (.int .i64 1)):=by
      have hfr:FreeB M3 (wr.heap.size + 1):=hG3.fresh (by omega);refine ⟨⟨?_,by omega,hfr,by omega⟩,⟨?_,by omega,hfr,by omega⟩,⟨?_,by omega,hfr,by omega⟩⟩
      all_goals (rw [hW3]; simp)
     obtain ⟨dv,hdv⟩:∃ dv:Int,dv=1:=⟨_,rfl⟩;rw [← hdv] at Ye;have HDE:Hid (dv=1):=hdv;clear hdv;have VF:Hid (Cel W3 M3 w.heap.size g7 0 (.string rs[k].name)∧Cel W3 M3 w.heap.size g9 0 (.string rs[k].rows[j].name)∧∀ (i:Nat) (h:i < rs[k].rows[j].rows.length),Cel W3 M3 w.heap.size gA i (.bool ((dz (aj rs[k].rows[j].rows)).getD i false))):=⟨Zw.stl (Stl.below hal),Zx.stl (Stl.below hal),fun i h=>(hCA i h).stl (Stl.below hal)⟩;have ZO:Hid (rs[k].rows[j].rows[m].ok W3):=(hok rs[k].rows[j].rows[m] (TQ U5)).below hal;have hc7:=Zw.cell;have hc9:=Zx.cell;have hl7:=Zw.lt;have hl9:=Zx.lt;have hcA:=(hCA m U5).cell;have hlA:=(hCA m U5).lt;rw [← HNG.out] at hcA;clear hG3 hal Zw Zx hCA hok HG;go_wp2_with fail;rw [← hW3];clear hW3 t0 t1 t2 t3 t4 hc7 hc9 hl7 hl9 hcA hlA
    case' false =>
     obtain ⟨W3,hW3⟩:∃ W3,W3=((wr.alloc (.cells #[.int .i64 rs[k].rows[j].rows[m].e.kind,.slice rs[k].rows[j].rows[m].adA rs[k].rows[j].rows[m].e.allow.length rs[k].rows[j].rows[m].capA,.string rs[k].rows[j].rows[m].e.over,.string rs[k].rows[j].rows[m].e.name,.slice rs[k].rows[j].rows[m].adK rs[k].rows[j].rows[m].e.kids.length rs[k].rows[j].rows[m].capK] 39)).alloc (.cells #[.string rs[k].name,.string rs[k].rows[j].name,.int .i64 0] 274)):=⟨_,rfl⟩;have hal:ag wr W3:=by
      rw [hW3]
      repeat (first | exact TT _ _ | refine Below.setCell ?_ (by first | (simp; done) | (simp; omega)) _ | refine Below.alloc ?_ (by first | (simp; done) | (simp; omega)) _)
     have hsz3:W3.heap.size=wr.heap.size + 2:=by rw [hW3]; simp
     have HB3:=jP HB hal;have XF:=az (hG3.below hal);have Ye:Hid (Cel W3 M3 w.heap.size (wr.heap.size + 1) 0 (.string rs[k].name)∧Cel W3 M3 w.heap.size (wr.heap.size + 1) 1 (.string rs[k].rows[j].name)∧Cel W3 M3 w.heap.size (wr.heap.size + 1) 2 (.int .i64 0)):=by
      have hfr:FreeB M3 (wr.heap.size + 1):=hG3.fresh (by omega);refine ⟨⟨?_,by omega,hfr,by omega⟩,⟨?_,by omega,hfr,by omega⟩,⟨?_,by omega,hfr,by omega⟩⟩
      all_goals (rw [hW3]; simp)
     obtain ⟨dv,hdv⟩:∃ dv:Int,dv=0:=⟨_,rfl⟩;rw [← hdv] at Ye;have HDE:Hid (dv=0):=hdv;clear hdv;have VF:Hid (Cel W3 M3 w.heap.size g7 0 (.string rs[k].name)∧Cel W3 M3 w.heap.size g9 0 (.string rs[k].rows[j].name)∧∀ (i:Nat) (h:i < rs[k].rows[j].rows.length),Cel W3 M3 w.heap.size gA i (.bool ((dz (aj rs[k].rows[j].rows)).getD i false))):=⟨Zw.stl (Stl.below hal),Zx.stl (Stl.below hal),fun i h=>(hCA i h).stl (Stl.below hal)⟩;have ZO:Hid (rs[k].rows[j].rows[m].ok W3):=(hok rs[k].rows[j].rows[m] (TQ U5)).below hal;have hc7:=Zw.cell;have hc9:=Zx.cell;have hl7:=Zw.lt;have hl9:=Zx.lt;have hcA:=(hCA m U5).cell;have hlA:=(hCA m U5).lt;rw [← HNG.out] at hcA;clear hG3 hal Zw Zx hCA hok HG;go_wp2_with fail;rw [← hW3];clear hW3 t0 t1 t2 t3 t4 hc7 hc9 hl7 hl9 hcA hlA
    all_goals
     refine (Ga bT nT rs (some ⟨b,off,none⟩) T rs[k].name rs[k].rows[j].rows[m] _ (HV.out.below HB3.out) HT.out (HS.out.below HB3.out) HL.out UL.out z0 Xk.out HXL.out ZO.out).mono ?_;rintro e w5 ⟨⟨V9,cpO,rfl,hSO,hNO⟩,hb5⟩;obtain ⟨ks,hks⟩:∃ ks,ks=jg (ae rs) rs[k].name rs[k].rows[j].rows[m].e:=⟨_,rfl⟩;rw [← hks] at hSO ⊢;have HKS:Hid (ks=jg (ae rs) rs[k].name rs[k].rows[j].rows[m].e):=hks;have hkl6:ks.length≤6:=by rw [hks]; exact Dm rs Yn.out _ _ (Yn.out _ (TQ hlt) _ (TQ hjl) _ (TQ U5))
     have HKF:Hid (∀ a ∈ ks,a.t.size≤maxLen∧a.s.size≤maxLen):=by show ∀ _,_; rw [hks]; exact Jw rs UL.out _ z0 _ Xk.out
     obtain ⟨g13,XI⟩:∃ g13,g13=wr.heap.size + 1:=⟨_,rfl⟩;have VQ:=jP HB3 hb5;have HG5:=az (XF.out.below hb5);have hS5:Stl W3 M3 w5 M3 w.heap.size:=Stl.below hb5;have Wy:Hid (Cel w5 M3 w.heap.size g7 0 (.string rs[k].name)∧Cel w5 M3 w.heap.size g9 0 (.string rs[k].rows[j].name)∧∀ (i:Nat) (h:i < rs[k].rows[j].rows.length),Cel w5 M3 w.heap.size gA i (.bool ((dz (aj rs[k].rows[j].rows)).getD i false))):=⟨VF.out.1.stl hS5,VF.out.2.1.stl hS5,fun i h=>(VF.out.2.2 i h).stl hS5⟩;have HD5:Hid (Cel w5 M3 w.heap.size g13 0 (.string rs[k].name)∧Cel w5 M3 w.heap.size g13 1 (.string rs[k].rows[j].name)∧Cel w5 M3 w.heap.size g13 2 (.int .i64 dv)):=by rw [XI]; exact ⟨Ye.out.1.stl hS5,Ye.out.2.1.stl hS5,Ye.out.2.2.stl hS5⟩
     have UK:Hid (ks=[] ∨ ∃ gO U8,V9=some ⟨gO,U8,none⟩∧∀ (i:Nat) (h:i < ks.length),Cel w5 M3 w.heap.size gO (U8 + i * 2) (.string ks[i].t)∧Cel w5 M3 w.heap.size gO (U8 + i * 2 + 1) (.string ks[i].s)):=by
      rcases hSO with e | ⟨gO,U8,e,hgO,hcO⟩
      ·exact .inl e
      have hN:=hNO _ e;have YR:=XF.out.map.lt;have hfr:FreeB M3 gO:=XF.out.fresh hN;refine .inr ⟨gO,U8,e,fun i hi=>⟨⟨(hcO i hi).1,hgO,hfr,?_⟩,⟨(hcO i hi).2,hgO,hfr,?_⟩⟩⟩
      all_goals (simp only at hN; omega)
     rw [← XI];clear hb5 hSO hNO hks hS5 Ye VF XF HB3 ZO XI;go_wp2_with fail;go_loopw [58] (fun i w6=>∃ q:Nat,q≤ks.length∧i=.int .i64 q∧Hid (∃ n M,Grp w6 w.heap.size n M (E3 ++ (ks.take q).map (fun a:Al=>(((a.t,a.s),⟨rs[k].name,rs[k].rows[j].name,dv⟩):Ky × St)))∧n≤k * 540 + j * 90 + m * 6 + q∧(E3 ++ (ks.take q).map (fun a:Al=>(((a.t,a.s),⟨rs[k].name,rs[k].rows[j].name,dv⟩):Ky × St))).length≤k * 540 + j * 90 + m * 6 + q∧(Cel w6 M w.heap.size g7 0 (.string rs[k].name)∧Cel w6 M w.heap.size g9 0 (.string rs[k].rows[j].name)∧∀ (i:Nat) (h:i < rs[k].rows[j].rows.length),Cel w6 M w.heap.size gA i (.bool ((dz (aj rs[k].rows[j].rows)).getD i false)))∧(Cel w6 M w.heap.size g13 0 (.string rs[k].name)∧Cel w6 M w.heap.size g13 1 (.string rs[k].rows[j].name)∧Cel w6 M w.heap.size g13 2 (.int .i64 dv))∧(ks=[] ∨ ∃ gO U8,V9=some ⟨gO,U8,none⟩∧∀ (i:Nat) (h:i < ks.length),Cel w6 M w.heap.size gO (U8 + i * 2) (.string ks[i].t)∧Cel w6 M w.heap.size gO (U8 + i * 2 + 1) (.string ks[i].s)))∧Hid (ag w w6)) (fun i _=>ks.length - (intOf i).toNat);case atStart=>exact ⟨0,TW _,rfl,⟨n3,M3,by simpa using HG5.out,by omega,by simpa using hE3,Wy.out,HD5.out,UK.out⟩,VQ⟩
     clear HG5 VQ Wy HD5 UK HB;obtain ⟨q,hq,rfl,HG,HB⟩:=hrel;by_cases Yc:q < ks.length
     ·obtain ⟨n6,M6,hG6,hn6,hE6,hC6,hD6,WQ⟩:=HG.out;rcases WQ with hnil | ⟨gO,U8,XB,hcO⟩
      ·rw [hnil] at Yc; simp at Yc
      have x0:=(hcO q Yc).1.cell;have x1:=(hcO q Yc).2.cell;have y0:=hD6.1.cell;have y1:=hD6.2.1.cell;have y2:=hD6.2.2.cell;have yl:=hD6.1.lt;have hq1:=bB q;have hq2:(q:Int) < (ks.length:Int):=by omega
      obtain ⟨E6,hE6d⟩:∃ E6,E6=E3 ++ (ks.take q).map (fun a:Al=>(((a.t,a.s),⟨rs[k].name,rs[k].rows[j].name,dv⟩):Ky × St)):=⟨_,rfl⟩;rw [← hE6d] at hG6 hE6;have HE6D:Hid (E6=E3 ++ (ks.take q).map (fun a:Al=>(((a.t,a.s),⟨rs[k].name,rs[k].rows[j].name,dv⟩):Ky × St))):=hE6d;obtain ⟨W6,Zt⟩:∃ W6,W6=((wr.alloc (.cells #[.string ks[q].t,.string ks[q].s] 94)).alloc (.cells #[.string rs[k].name,.string rs[k].rows[j].name,.int .i64 dv] 274)):=⟨_,rfl⟩;have hal:ag wr W6:=by
       rw [Zt]
       repeat (first | exact TT _ _ | refine Below.alloc ?_ (by first | (simp; done) | (simp; omega)) _)
      have hsz6:W6.heap.size=wr.heap.size + 2:=by rw [Zt]; simp
      have WJ:=jP HB hal;have HG6:=az (hG6.below hal);have HNB:Hid (W6.heap[wr.heap.size + 1]?=some (.cells #[.string rs[k].name,.string rs[k].rows[j].name,.int .i64 dv] 274)):=by show _=_; rw [Zt]; exact wN wr _ _
      have hbn6:w.heap.size < wr.heap.size:=hG6.map.lt;have HS6:Hid (Stl wr M6 W6 M6 w.heap.size):=Stl.below hal;have HCK:Hid ((Cel wr M6 w.heap.size g7 0 (.string rs[k].name)∧Cel wr M6 w.heap.size g9 0 (.string rs[k].rows[j].name)∧∀ (i:Nat) (h:i < rs[k].rows[j].rows.length),Cel wr M6 w.heap.size gA i (.bool ((dz (aj rs[k].rows[j].rows)).getD i false)))∧(Cel wr M6 w.heap.size g13 0 (.string rs[k].name)∧Cel wr M6 w.heap.size g13 1 (.string rs[k].rows[j].name)∧Cel wr M6 w.heap.size g13 2 (.int .i64 dv))∧(ks=[] ∨ ∃ gO U8,V9=some ⟨gO,U8,none⟩∧∀ (i:Nat) (h:i < ks.length),Cel wr M6 w.heap.size gO (U8 + i * 2) (.string ks[i].t)∧Cel wr M6 w.heap.size gO (U8 + i * 2 + 1) (.string ks[i].s))):=⟨hC6,hD6,.inr ⟨gO,U8,XB,hcO⟩⟩;have hzz:=HKF.out _ (TQ Yc);obtain ⟨kl,hkl⟩:=jy (ks[q].t,ks[q].s) hzz.1 hzz.2;have Vl:Hid (keyOf prog 94 (dQ (ks[q].t,ks[q].s))=some kl):=hkl;have hLL:=Dn E6 (ks[q].t,ks[q].s);have hn6b:n6 < 100000:=by omega
      have hLb:(lookL E6 (ks[q].t,ks[q].s)).length < 100000:=by omega
      have XG:Hid (W6.heap.size=wr.heap.size + 2):=hsz6;rw [XB];clear hal hG6 hC6 hD6 hcO hkl HG hE6d hzz hLL hsz6
      go_wp2_with (first
       | (at_builtin; refine wpList_append_own_at _ rfl _ _ 272 rfl (w.heap.size + 1) 274 i0 _ 3 40 underlying272 hi hz0 hz1 hz2 rfl (by decide) _ _ _ rfl ((vH HG6.out (ks[q].t,ks[q].s)).kept WO (.inr (Ne.symm (Pm HG6.out (ks[q].t,ks[q].s))))) ⟨wr.heap.size + 1,0,none⟩ 1 1 [.string rs[k].name,.string rs[k].rows[j].name,.int .i64 dv] rfl rfl (World.news_of_block (cs:=#[.string rs[k].name,.string rs[k].rows[j].name,.int .i64 dv]) (t:=274) (fr:=(0,0)) ((WO.block (wr.heap.size + 1) (by rw [XG.out]; omega) (by simp; omega)).trans HNB.out)) (by simp [Value.oneCell']) (by unfold maxLen; omega) (by omega) (by have h1:=WO.size; rw [XG.out] at h1; omega) ?_; intro v' w8 XJ Xc hnil8 hloc8)
       | (rw [← Zt]; refine Bw _ rfl _ _ 211 rfl 94 272 J8 ut underlying211 Jy w.heap.size n6 M6 rfl HG6.out.map (by unfold maxLen; omega) (ks[q].t,ks[q].s) kl rfl Vl.out ?_; intro st7 w7 WO hback; clear Zt x0 x1 y0 y1 y2)
       | (refine sS _ rfl _ _ _ 211 rfl w.heap.size st7 rfl rfl v' rfl 94 (n6 + 1) (kY M6 (ks[q].t,ks[q].s) (some v')) (hback w8 v' (Xc.block w.heap.size (by have h1:=WO.size; rw [XG.out] at h1; omega) (Pm HG6.out (ks[q].t,ks[q].s)))) ?_; intro w9 hM9 hg9))
      have hst:=HG6.out.step (s:=(⟨rs[k].name,rs[k].rows[j].name,dv⟩:St)) WO XJ Xc hloc8 hg9 hM9;have HBN:Hid (ag w w9):=by
       have hs1:=WJ.out.size;have b7:ag w w7:=WJ.out.grown WO hs1 (fun i hi=>by injection hi with hi; omega);have b8:ag w w8:=b7.grown Xc b7.size (fun i hi=>by have:=((vH HG6.out (ks[q].t,ks[q].s)).lt i hi).1; omega);exact b8.grown hg9 b8.size (fun i hi=>by injection hi with hi; omega)
      have ZW:Hid (∃ n M,Grp w9 w.heap.size n M (E3 ++ (ks.take (q + 1)).map (fun a:Al=>(((a.t,a.s),⟨rs[k].name,rs[k].rows[j].name,dv⟩):Ky × St)))∧n≤k * 540 + j * 90 + m * 6 + (q + 1)∧(E3 ++ (ks.take (q + 1)).map (fun a:Al=>(((a.t,a.s),⟨rs[k].name,rs[k].rows[j].name,dv⟩):Ky × St))).length≤k * 540 + j * 90 + m * 6 + (q + 1)∧(Cel w9 M w.heap.size g7 0 (.string rs[k].name)∧Cel w9 M w.heap.size g9 0 (.string rs[k].rows[j].name)∧∀ (i:Nat) (h:i < rs[k].rows[j].rows.length),Cel w9 M w.heap.size gA i (.bool ((dz (aj rs[k].rows[j].rows)).getD i false)))∧(Cel w9 M w.heap.size g13 0 (.string rs[k].name)∧Cel w9 M w.heap.size g13 1 (.string rs[k].rows[j].name)∧Cel w9 M w.heap.size g13 2 (.int .i64 dv))∧(ks=[] ∨ ∃ gO U8,V9=some ⟨gO,U8,none⟩∧∀ (i:Nat) (h:i < ks.length),Cel w9 M w.heap.size gO (U8 + i * 2) (.string ks[i].t)∧Cel w9 M w.heap.size gO (U8 + i * 2 + 1) (.string ks[i].s))):=by
       have hS9:=HS6.out.trans hst.2;have e:E3 ++ (ks.take (q + 1)).map (fun a:Al=>(((a.t,a.s),⟨rs[k].name,rs[k].rows[j].name,dv⟩):Ky × St))=E6 ++ [((ks[q].t,ks[q].s),(⟨rs[k].name,rs[k].rows[j].name,dv⟩:St))]:=by
        rw [TV Yc,List.map_append,← List.append_assoc,← HE6D.out]; rfl
       obtain ⟨k1,k2,k3⟩:=HCK.out;refine ⟨n6 + 1,_,by rw [e]; exact hst.1,by omega,by rw [e,T9]; simp; omega,⟨k1.1.stl hS9,k1.2.1.stl hS9,fun i h=>(k1.2.2 i h).stl hS9⟩,⟨k2.1.stl hS9,k2.2.1.stl hS9,k2.2.2.stl hS9⟩,?_⟩;rcases k3 with hnil | ⟨gO',offO',e1,hc⟩
       ·exact .inl hnil
       exact .inr ⟨gO',offO',e1,fun i h=>⟨(hc i h).1.stl hS9,(hc i h).2.stl hS9⟩⟩
      clear hst WO hback XJ Xc hnil8 hloc8 hg9 hM9;go_wp2;go_roundw;case rel=>exact ⟨q + 1,by omega,by go_num,(by rw [XB] at ZW; exact ZW),HBN⟩
      simp [intOf] <;> omega
     obtain rfl:q=ks.length:=by omega
     have ZW:Hid (∃ n M,Grp wr w.heap.size n M (E2 ++ relE (ae rs) rs[k].name rs[k].rows[j].name (aj rs[k].rows[j].rows) (m + 1))∧n≤k * 540 + j * 90 + (m + 1) * 6∧(E2 ++ relE (ae rs) rs[k].name rs[k].rows[j].name (aj rs[k].rows[j].rows) (m + 1)).length≤k * 540 + j * 90 + (m + 1) * 6∧(Cel wr M w.heap.size g7 0 (.string rs[k].name)∧Cel wr M w.heap.size g9 0 (.string rs[k].rows[j].name)∧∀ (i:Nat) (h:i < rs[k].rows[j].rows.length),Cel wr M w.heap.size gA i (.bool ((dz (aj rs[k].rows[j].rows)).getD i false)))):=by
      obtain ⟨n,M,h1,hn,h2,h3,-,-⟩:=HG.out;rw [Ug] at h1 h2;have e:E2 ++ relE (ae rs) rs[k].name rs[k].rows[j].name (aj rs[k].rows[j].rows) (m + 1)=E3 ++ ks.map (fun a:Al=>(((a.t,a.s),⟨rs[k].name,rs[k].rows[j].name,dv⟩):Ky × St)):=by
       rw [Dl _ _ _ _ _ U5 _ HNG.out,← List.append_assoc,← HE3D.out,HKS.out,HDE.out]; rfl
      refine ⟨n,M,by rw [e]; exact h1,by omega,by rw [e]; omega,h3⟩
     clear HG;go_wp2;go_roundw;case rel=>exact ⟨m + 1,by omega,by go_num,ZW,HB⟩
     simp [intOf] <;> omega
   obtain rfl:m=rs[k].rows[j].rows.length:=by omega
   have ZW:Hid (∃ n M,Grp wr w.heap.size n M (E1 ++ ji (ae rs) rs[k].name (rs[k].rows.take (j + 1)))∧n≤k * 540 + (j + 1) * 90∧(E1 ++ ji (ae rs) rs[k].name (rs[k].rows.take (j + 1))).length≤k * 540 + (j + 1) * 90∧Cel wr M w.heap.size g7 0 (.string rs[k].name)):=by
    obtain ⟨n,M,h1,hn,h2,h3⟩:=HG.out;have e:E1 ++ ji (ae rs) rs[k].name (rs[k].rows.take (j + 1))=E2 ++ relE (ae rs) rs[k].name rs[k].rows[j].name (aj rs[k].rows[j].rows) rs[k].rows[j].rows.length:=by
     rw [Ju _ _ _ _ hjl,← List.append_assoc,← HE2D.out]
    refine ⟨n,M,?_,by omega,?_,h3.1⟩
    ·rw [e]; exact h1
    rw [e]; omega
   go_wp2;go_roundw;case rel=>exact ⟨j + 1,by omega,by go_num,ZW,HB⟩
   simp [intOf] <;> omega
  obtain rfl:j=rs[k].rows.length:=by omega
  have ZW:Hid (∃ n M,Grp wr w.heap.size n M (jk (ae rs) (rs.take (k + 1)))∧n≤(k + 1) * 540∧(jk (ae rs) (rs.take (k + 1))).length≤(k + 1) * 540):=by
   obtain ⟨n,M,h1,hn,h2,h3⟩:=HG.out;rw [Ug] at h1 h2;have e:jk (ae rs) (rs.take (k + 1))=E1 ++ ji (ae rs) rs[k].name rs[k].rows:=by rw [Jv _ _ _ hlt,← HE1D.out]
   refine ⟨n,M,?_,by omega,?_⟩
   ·rw [e]; exact h1
   rw [e]; omega
  go_wp2;go_roundw;case rel=>exact ⟨k + 1,by omega,by go_num,ZW,HB⟩
  simp [intOf] <;> omega
 obtain rfl:k=rs.length:=by omega
 have ZW:Hid (∃ n M,Grp wr w.heap.size n M (jk (ae rs) rs)):=by
  obtain ⟨n,M,h1,-⟩:=HG.out;rw [Ug] at h1;exact ⟨n,M,h1⟩
 go_wp2;go_ret;exact ⟨rfl,ZW.out,HB.out⟩
end Go.Proofs.YtajkkeikihhejaaGreat
