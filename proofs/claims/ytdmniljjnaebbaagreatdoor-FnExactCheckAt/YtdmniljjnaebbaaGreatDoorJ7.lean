/- Expressions in memory: slices of allowed pairs, of whole numbers, of nodes; what a later world keeps of them. -/
import Derived.Test.YtdmniljjnaebbaaGreatDoorJ1
open Go.Proofs.Tryz
set_option maxHeartbeats 80000000
namespace Go.Proofs.YtdmniljjnaebbaaGreatDoor
open Go.ChangeShapes Go.WideShapes Go.ChangeAt Go.RowKit
open Pl
structure Al where
 t:ByteArray
 s:ByteArray
def Al.fits (a:Al):Prop:=a.t.size≤maxLen∧a.s.size≤maxLen
def MC (w:World) (b off:Nat) (a:Al):Prop:=w.cell? ⟨b,off,none⟩=some (.string a.t)∧w.cell? ⟨b,off + 1,none⟩=some (.string a.s)
def gu (w:World) (ad:Option Addr) (xs:List Al):Prop:=xs=[] ∨ ∃ b off,ad=some ⟨b,off,none⟩∧b < w.heap.size∧∀ (i:Nat) (h:i < xs.length),MC w b (off + i * 2) xs[i]
def rF (w:World) (ad:Option Addr) (zs:List Int):Prop:=zs=[] ∨ ∃ b off,ad=some ⟨b,off,none⟩∧b < w.heap.size∧∀ (i:Nat) (h:i < zs.length),w.cell? ⟨b,off + i,none⟩=some (.int .i64 zs[i])
theorem MC.same {w w':World} {b off:Nat} {a:Al} (h:MC w b off a) (hc:∀ o,w'.cell? ⟨b,o,none⟩=w.cell? ⟨b,o,none⟩):MC w' b off a:=⟨(hc _).trans h.1,(hc _).trans h.2⟩
theorem gu.below {w w':World} {ad:Option Addr} {xs:List Al} (h:gu w ad xs) (hB:Below w.heap.size w w'):gu w' ad xs:=by
 rcases h with h | ⟨b,off,e,hb,hr⟩
 ·exact .inl h
 ·exact .inr ⟨b,off,e,Nat.lt_of_lt_of_le hb hB.size,fun i hi=>(hr i hi).same fun o=>hB.cell (p:=⟨b,o,none⟩) hb⟩
theorem rF.below {w w':World} {ad:Option Addr} {zs:List Int} (h:rF w ad zs) (hB:Below w.heap.size w w'):rF w' ad zs:=by
 rcases h with h | ⟨b,off,e,hb,hr⟩
 ·exact .inl h
 ·exact .inr ⟨b,off,e,Nat.lt_of_lt_of_le hb hB.size,fun i hi=>(hB.cell (p:=⟨b,off + i,none⟩) hb).trans (hr i hi)⟩
structure Ex where
 kind:Int
 allow:List Al
 over:ByteArray
 name:ByteArray
 kids:List Int
structure ER where
 e:Ex
 adA:Option Addr
 capA:Nat
 adK:Option Addr
 capK:Nat
def ER.val (r:ER):Value:=.agg #[.int .i64 r.e.kind,.slice r.adA r.e.allow.length r.capA,.string r.e.over,.string r.e.name,.slice r.adK r.e.kids.length r.capK]
def ER.ok (w:World) (r:ER):Prop:=gu w r.adA r.e.allow∧rF w r.adK r.e.kids
def Ex.fits (e:Ex):Prop:=(∀ a ∈ e.allow,a.fits)∧e.over.size≤maxLen∧e.name.size≤maxLen∧e.allow.length≤maxLen∧e.kids.length≤maxLen
theorem ER.ok.below {w w':World} {r:ER} (h:r.ok w) (hB:Below w.heap.size w w'):r.ok w':=⟨h.1.below hB,h.2.below hB⟩
def yg (w:World) (b off:Nat) (r:ER):Prop :=
 w.cell? ⟨b,off,none⟩=some (.int .i64 r.e.kind)∧w.cell? ⟨b,off + 1,none⟩=some (.slice r.adA r.e.allow.length r.capA)∧w.cell? ⟨b,off + 2,none⟩=some (.string r.e.over) ∧
 w.cell? ⟨b,off + 3,none⟩=some (.string r.e.name)∧w.cell? ⟨b,off + 4,none⟩=some (.slice r.adK r.e.kids.length r.capK)
theorem yg.same {w w':World} {b off:Nat} {r:ER} (h:yg w b off r) (hc:∀ o,w'.cell? ⟨b,o,none⟩=w.cell? ⟨b,o,none⟩):yg w' b off r:=by
 obtain ⟨h0,h1,h2,h3,h4⟩:=h;exact ⟨(hc _).trans h0,(hc _).trans h1,(hc _).trans h2,(hc _).trans h3,(hc _).trans h4⟩
def dZ (w:World) (ad:Option Addr) (rs:List ER):Prop:=rs=[] ∨ ∃ b off,ad=some ⟨b,off,none⟩∧b < w.heap.size∧(∀ (i:Nat) (h:i < rs.length),yg w b (off + i * 5) rs[i])∧∀ r ∈ rs,r.ok w
theorem dZ.below {w w':World} {ad:Option Addr} {rs:List ER} (h:dZ w ad rs) (hB:Below w.heap.size w w'):dZ w' ad rs:=by
 rcases h with h | ⟨b,off,e,hb,hr,hk⟩
 ·exact .inl h
 ·exact .inr ⟨b,off,e,Nat.lt_of_lt_of_le hb hB.size,fun i hi=>(hr i hi).same fun o=>hB.cell (p:=⟨b,o,none⟩) hb,fun r hr=>(hk r hr).below hB⟩
def ag (rs:List ER):List Ex:=rs.map ER.e
theorem aP (rs:List ER):(ag rs).length=rs.length:=by simp [ag]
def vW (s:ByteArray):Bool:=s.toList.isEmpty || aO s
theorem vX (s:ByteArray) (w:World) (hs:s.size≤maxLen) :
  Calls prog 171 #[.string s] w fun e w'=>e=.returned (.bool (vW s))∧w'=w:=by
 go_enter func171,ntmps171;go_wp2_with (go_at_call 162; refine (au _ _ hs).mono ?_; rintro e w' ⟨rfl,rfl⟩)
 all_goals go_ret
 all_goals exact ⟨ae (by simp [vW, *]),rfl⟩
def iN (x y:Al):Bool:=x.t.toList == y.t.toList && x.s.toList == y.s.toList
def I9 (a:Al):Bool:=aO a.t && vW a.s
def cz (xs:List Al) (k:Nat) (a:Al):Bool:=(xs.take k).any fun x=>iN x a
theorem lF (xs:List Al) (k:Nat) (a:Al) (h:k < xs.length):cz xs (k + 1) a=(cz xs k a || iN xs[k] a):=by
 unfold cz; rw [List.take_succ_eq_append_getElem h,List.any_append]; simp
theorem lG (xs:List Al) (a:Al):cz xs 0 a=false:=by simp [cz]
def Aw (xs:List Al):Nat→Bool
 | 0=>true
 | k + 1=>Aw xs k && (xs[k]?.map fun a=>I9 a && !cz xs k a).getD true
theorem qF (xs:List Al) (k:Nat) (h:k < xs.length):Aw xs (k + 1)=(Aw xs k && (I9 xs[k] && !cz xs k xs[k])):=by
 simp [Aw,h]
theorem jW (xs:List Al) (k:Nat) (h:k < xs.length) (hb:(I9 xs[k] && !cz xs k xs[k])=false):∀ n,k < n→Aw xs n=false
 | 0,hn=>by omega
 | n + 1,hn=>by
  by_cases e:n=k
  ·subst e; rw [qF _ _ h,hb]; simp
  ·simp [Aw,jW xs k h hb n (by omega)]
def fF (xs:List Al):Bool:=decide (1≤xs.length) && decide (xs.length≤6) && Aw xs xs.length
def ax (e:Ex):Bool :=
 if e.kind=1 then fF e.allow && e.over.toList.isEmpty && e.name.toList.isEmpty && decide (e.kids.length=0)
 else if e.kind=2 then aO e.name && decide (e.allow.length=0) && e.over.toList.isEmpty && decide (e.kids.length=0)
 else if e.kind=3 then aO e.over && aO e.name && decide (e.allow.length=0) && decide (e.kids.length=0)
 else if e.kind=4 ∨ e.kind=5 then decide (2≤e.kids.length) && decide (e.kids.length≤5) && decide (e.allow.length=0) && e.over.toList.isEmpty && e.name.toList.isEmpty
 else if e.kind=6 then decide (e.kids.length=2) && decide (e.allow.length=0) && e.over.toList.isEmpty && e.name.toList.isEmpty
 else false
def dI (f:Int→Int):List Int→Int→Int
 | [],at'=>at' + 1
 | k::ks,at'=>if at' < 0 ∨ k ≠ at' then -1 else if f at' < 0 then -1 else dI f ks (f at' - 1)
def mD (es:List Ex) (n:Nat):List Int:=(es[n]?.map Ex.kids).getD []
def aF (es:List Ex) (n:Nat):Int:=dI (fun x=>if _h:0≤x∧x.toNat < n then aF es x.toNat else -1) (mD es n).reverse ((n:Int) - 1)
def dN (es:List Ex) (n:Nat) (x:Int):Int:=if 0≤x∧x.toNat < n then aF es x.toNat else -1
theorem kI (es:List Ex) (n:Nat):aF es n=dI (dN es n) (mD es n).reverse ((n:Int) - 1):=by
 rw [aF];rfl
theorem zb {f:Int→Int} (hf:∀ x,0≤x→f x≤x):∀ (ks:List Int) (a:Int),-1≤a→dI f ks a≤a + 1
 | [],a,_=>by simp [dI]
 | k::ks,a,ha=>by
  unfold dI;split
  ·omega
  ·rename_i h;split
   ·omega
   ·rename_i h2;have h0:0≤a:=by omega
    have:=zb hf ks (f a - 1) (by omega);have:=hf a h0;omega
theorem nV (es:List Ex) (n:Nat):aF es n≤n:=by
 induction n using Nat.strongRecOn with
 | ind n ih =>
  rw [kI];have:=zb (f:=dN es n) (fun x hx=>by
   unfold dN;split
   ·rename_i h; have:=ih x.toNat h.2; omega
   ·omega) (mD es n).reverse ((n:Int) - 1) (by omega)
  omega
theorem Ju (es:List Ex) (n:Nat) (x:Int) (hx:0≤x):dN es n x≤x:=by
 unfold dN;split
 ·have:=nV es x.toNat; omega
 ·omega
theorem oM {es:List Ex} {n:Nat} (ih:∀ m,m < n→0≤aF es m→∀ j:Nat,aF es m≤j→j≤m→0≤aF es j) :
  ∀ (ks:List Int) (a:Int),a < n→0≤dI (dN es n) ks a→∀ j:Nat,dI (dN es n) ks a≤j→(j:Int)≤a→0≤aF es j
 | [],a,ha,h,j,h1,h2=>by simp [dI] at h1; omega
 | k::ks,a,ha,h,j,h1,h2=>by
  unfold dI at h h1;split at h
  ·omega
  ·rename_i c;rw [if_neg c] at h1;split at h
   ·omega
   ·rename_i c2;rw [if_neg c2] at h1;have h0:0≤a:=by omega
    have hF:dN es n a=aF es a.toNat:=by unfold dN; rw [if_pos ⟨h0,by omega⟩]
    rw [hF] at h h1 c2;by_cases hj:aF es a.toNat≤j
    ·exact ih a.toNat (by omega) (by omega) j hj (by omega)
    ·exact oM ih ks (aF es a.toNat - 1) (by have:=nV es a.toNat; omega) h j h1 (by omega)
theorem oN (es:List Ex) (n:Nat):0≤aF es n→∀ j:Nat,aF es n≤j→j≤n→0≤aF es j:=by
 induction n using Nat.strongRecOn with
 | ind n ih =>
  intro h j h1 h2;by_cases e:j=n
  ·subst e; exact h
  ·rw [kI] at h h1;exact oM ih _ _ (by omega) h j h1 (by omega)
def kr (es:List Ex) (i:Nat):Bool:=(mD es i).all fun k=>decide (0≤k) && decide (k≤(i:Int) - 1)
theorem tQ {es:List Ex} {n:Nat}:∀ (ks:List Int) (a:Int),a < n→0≤dI (dN es n) ks a→∀ k ∈ ks,0≤k∧k≤a
 | [],_,_,_,k,hk=>by cases hk
 | x::ks,a,ha,h,k,hk=>by
  unfold dI at h;split at h
  ·omega
  ·rename_i c;split at h
   ·omega
   ·rename_i c2;have h0:0≤a:=by omega
    rcases List.mem_cons.1 hk with rfl | hk
    ·omega
    ·have hl:=Ju es n a h0;have:=tQ ks (dN es n a - 1) (by omega) h k hk;omega
theorem GZ (es:List Ex) (i:Nat) (h:0≤aF es i):kr es i=true:=by
 unfold kr;rw [List.all_eq_true];intro k hk;rw [kI] at h;have:=tQ _ _ (by omega) h k (by simpa using hk);simp; omega
def Jv (es:List Ex) (n:Nat):Prop:=∀ j,j < n→0≤aF es j
def own (es:List Ex):Nat:=(es.filter fun e=>decide (e.kind=1)).length
def eT (es:List Ex) (k:Nat):Nat:=own (es.take k)
theorem vY (es:List Ex) (k:Nat) (h:k < es.length):eT es (k + 1)=eT es k + (if es[k].kind=1 then 1 else 0):=by
 unfold eT own;rw [List.take_succ_eq_append_getElem h,List.filter_append,List.length_append];by_cases e:es[k].kind=1 <;> simp [e]
theorem qG (es:List Ex) (k:Nat):eT es k≤k:=by
 unfold eT own;exact Nat.le_trans (List.length_filter_le ..) (by simp; omega)
def ik (es:List Ex) (k:Nat):Bool:=(es.take k).all ax
theorem qH (es:List Ex) (k:Nat) (h:k < es.length):ik es (k + 1)=(ik es k && ax es[k]):=by
 unfold ik; rw [List.take_succ_eq_append_getElem h,List.all_append]; simp
theorem ze (es:List Ex) (k:Nat) (h:k < es.length) (hb:ax es[k]=false):es.all ax=false:=by
 rw [Bool.eq_false_iff]; intro h2; rw [List.all_eq_true] at h2; have:=h2 es[k] (List.getElem_mem h); rw [hb] at this; cases this
def il (es:List Ex) (k:Nat):Bool:=(List.range k).all (kr es)
theorem Ca (es:List Ex) (k:Nat):il es (k + 1)=(il es k && kr es k):=by simp [il,List.range_succ]
theorem Jw (es:List Ex) (k:Nat) (h:k < es.length) (hb:kr es k=false):il es es.length=false:=by
 rw [Bool.eq_false_iff]; intro h2; unfold il at h2; rw [List.all_eq_true] at h2; have:=h2 k (by simpa using h); rw [hb] at this; cases this
def aS (es:List Ex):Bool:=decide (1≤es.length) && decide (es.length≤15) && es.all ax && il es es.length && decide (own es≤1) && decide (aF es (es.length - 1)=0)
def jb (es:List Ex):Bool:=(List.range es.length).all fun j=>decide (0≤aF es j)
def jm (es:List Ex):Bool:=decide (1≤es.length) && decide (es.length≤15) && es.all ax && decide (own es≤1) && (jb es && decide (aF es (es.length - 1)=0))
theorem zf (es:List Ex):aS es=jm es:=by
 by_cases h1:1≤es.length
 ·by_cases ht:aF es (es.length - 1)=0
  ·have ha:jb es=true:=by
    unfold jb;rw [List.all_eq_true];intro j hj;have hj':j < es.length:=by simpa using hj
    simpa using oN es (es.length - 1) (by omega) j (by omega) (by omega)
   have hk:il es es.length=true:=by
    unfold il;rw [List.all_eq_true];intro j hj;have hj':j < es.length:=by simpa using hj
    exact GZ es j (oN es (es.length - 1) (by omega) j (by omega) (by omega))
   simp [aS,jm,ht,ha,hk,h1]
  ·simp [aS,jm,ht]
 ·simp [aS,jm,h1]
theorem ym (t s:ByteArray) (left:Int) (w:World) (ht:t.size≤maxLen) (hs:s.size≤maxLen) (h0:0≤left) (h1:left≤1048576) :
  Calls prog 208 #[.agg #[.string t,.string s],.int .i64 left] w fun e w'=>(∃ n:Int,e=.returned (.int .i64 n)∧(n=-1 ∨ 0≤n∧n≤left))∧Below w.heap.size w w':=by
 unfold maxLen at ht hs;have hB:=(Below.refl w.heap.size w).alloc (Nat.le_refl _) (.cells #[.string t,.string s] 311);by_cases h2:left - t.size < 0
 ·go_enter func208,ntmps208;go_wp2;go_ret;exact ⟨⟨-1,rfl,.inl rfl⟩,hB⟩
 ·by_cases h3:left - t.size - s.size < 0
  ·go_enter func208,ntmps208;go_wp2;go_ret;exact ⟨⟨-1,rfl,.inl rfl⟩,hB⟩
  ·go_enter func208,ntmps208;go_wp2;go_ret;exact ⟨⟨_,rfl,.inr ⟨by omega,by omega⟩⟩,hB⟩
def Ex.light (e:Ex):Prop:=e.allow.length≤1048576∧e.kids.length≤1048576
structure Fil (w wr:World) (g n:Nat) (xs:List Value):Prop where
 below:Below w.heap.size w wr
 ge:w.heap.size≤g
 lt:g < wr.heap.size
 done:∀ (j:Nat) (h:j < xs.length),wr.cell? ⟨g,j,none⟩=some xs[j]
 there:∀ j,j < n→(wr.cell? ⟨g,j,none⟩).isSome=true
 free:∀ j,wr.frozen? ⟨g,j,none⟩=false
theorem fG {w:World} {g i j:Nat} {v:Value} (h:i ≠ j):(w.setCell ⟨g,i,none⟩ v).cell? ⟨g,j,none⟩=w.cell? ⟨g,j,none⟩:=by
 apply World.cell?_setCell_other;intro e;exact h (congrArg Addr.off e)
theorem oO {w:World} {a:Addr} {v u:Value} (h:w.cell? a=some u):(w.setCell a v).cell? a=some v:=by
 apply World.cell?_setCell_same; exact h
theorem eB {w:World} {g h i j:Nat} {v:Value} (hn:g ≠ h):(w.setCell ⟨g,i,none⟩ v).cell? ⟨h,j,none⟩=w.cell? ⟨h,j,none⟩:=by
 apply World.cell?_setCell_other;intro e;exact hn (congrArg Addr.block e)
theorem Fil.later {w wr w1:World} {g n:Nat} {xs:List Value} (h:Fil w wr g n xs) (hb:Below wr.heap.size wr w1):Fil w w1 g n xs where
 below:=h.below.trans (hb.mono h.below.size)
 ge:=h.ge
 lt:=Nat.lt_of_lt_of_le h.lt hb.size
 done j hj:=by rw [hb.cell (p:=⟨g,j,none⟩) h.lt]; exact h.done j hj
 there j hj:=by rw [hb.cell (p:=⟨g,j,none⟩) h.lt]; exact h.there j hj
 free j:=by rw [hb.frozen (p:=⟨g,j,none⟩) h.lt]; exact h.free j
theorem Fil.put {w wr:World} {g n o:Nat} {xs:List Value} (h:Fil w wr g n xs) (v:Value) (ho:o=xs.length) (hn:o < n):Fil w (wr.setCell ⟨g,o,none⟩ v) g n (xs ++ [v]) where
 below:=h.below.setCell (p:=⟨g,o,none⟩) h.ge v
 ge:=h.ge
 lt:=by simpa using h.lt
 done j hj:=by
  by_cases e:j=o
  ·subst e;obtain ⟨u,hu⟩:=Option.isSome_iff_exists.mp (h.there j hn);rw [oO hu];simp [ho]
  ·have hj':j < xs.length:=by simp at hj; omega
   rw [fG (Ne.symm e),h.done j hj',List.getElem_append_left hj']
 there j hj:=by
  by_cases e:j=o
  ·subst e;obtain ⟨u,hu⟩:=Option.isSome_iff_exists.mp (h.there j hn);rw [oO hu]; rfl
  ·rw [fG (Ne.symm e)];exact h.there j hj
 free j:=by simpa using h.free j
theorem mE {w w0:World} {n k:Nat} {base:Nat} {e:TypeId} {xs:List Value} (h:w0.ownsRow base e k (.slice (some ⟨w.heap.size,0,none⟩) n n) n xs) (hg:w.grownBy w0 none):Fil w w0 w.heap.size (n * k) [] where
 below:=(Below.refl _ _).grown hg (Nat.le_refl _) (fun k hk=>by cases hk)
 ge:=Nat.le_refl _
 lt:=(h.lt w.heap.size rfl).2
 done j hj:=absurd hj (Nat.not_lt_zero _)
 there j hj:=by
  rw [h.cellAt j hj,List.getElem?_eq_getElem (by rw [h.1]; exact hj)]; rfl
 free j:=h.frozenAt j
theorem vZ {t:TypeId} {n b:Nat} (h:(prog.info? t).map (fun i=>(i.zero.isSome,i.size,i.bytes))=some (true,n,b)):∃ i z,prog.info? t=some i∧i.zero=some z∧i.size=n∧i.bytes=b:=by
 cases hi:prog.info? t with
 | none=>rw [hi] at h; cases h
 | some i =>
  rw [hi] at h;simp at h;obtain ⟨z,hz⟩:=Option.isSome_iff_exists.mp h.1;exact ⟨i,z,rfl,hz,h.2.1,h.2.2⟩
def ints (zs:List Int):List Value:=zs.map (Value.int .i64)
theorem G5 (zs:List Int) (k:Nat) (h:k < zs.length):ints (zs.take (k + 1))=ints (zs.take k) ++ [.int .i64 zs[k]]:=by
 unfold ints; rw [List.take_succ_eq_append_getElem h,List.map_append]; rfl
theorem Jy (zs:List Int) (k:Nat) (h:k≤zs.length):(ints (zs.take k)).length=k:=by simp [ints]; omega
theorem Fil.ints {w w':World} {g:Nat} {zs:List Int} (h:Fil w w' g zs.length (ints zs)):rF w' (some ⟨g,0,none⟩) zs :=
 .inr ⟨g,0,rfl,h.lt,fun i hi=>by rw [Nat.zero_add,h.done i (by simpa [YtdmniljjnaebbaaGreatDoor.ints] using hi)]; simp [YtdmniljjnaebbaaGreatDoor.ints]⟩
theorem Ay (ad:Option Addr) (cap:Nat) (zs:List Int) (w:World) (hlen:zs.length≤1048576) (hs:rF w ad zs) :
  Calls prog 190 #[.slice ad zs.length cap] w fun e w'=>e=.returned (.slice (some ⟨w.heap.size,0,none⟩) zs.length zs.length)∧rF w' (some ⟨w.heap.size,0,none⟩) zs∧Below w.heap.size w w':=by
 obtain ⟨inf,z,hi,hz0,hz1,hz2⟩:=vZ (t:=2) (n:=1) (b:=8) (by kernel_rfl);go_enter func190,ntmps190;go_wp2_with (at_make; refine wpList_make_full _ rfl _ _ 188 rfl w.heap.size 2 inf z 1 underlying188 hi hz0 hz1 .i64 .i64 _ _ zs.length rfl rfl rfl rfl (by rw [hz2]; omega) (by unfold maxLen; omega) (Nat.le_refl _) ?_; intro w0 hown0 hgrow0);have F0:Fil w w0 w.heap.size (zs.length * 1) []:=mE hown0 hgrow0;clear hown0 hgrow0 hi hz0 hz1 hz2;go_loopw [4] (fun i wr=>∃ k:Nat,k≤zs.length∧i=.int .i64 k∧Fil w wr w.heap.size (zs.length * 1) (ints (zs.take k))) (fun i _=>zs.length - (intOf i).toNat);case atStart=>exact ⟨0,Nat.zero_le _,rfl,F0⟩
 case round =>
  obtain ⟨k,hk,rfl,F⟩:=hrel;by_cases hlt:k < zs.length
  ·rcases hs.below F.below with rfl | ⟨b,off,rfl,hb,hr⟩
   ·simp at hlt
   have t0:=hr k hlt;have fz:=F.free;obtain ⟨v0,u0⟩:=Option.isSome_iff_exists.mp (F.there k (by omega));have F2:=F.put (.int .i64 zs[k]) (o:=k) (by rw [Jy _ _ hk]) (by omega);rw [← G5 _ _ hlt] at F2;have HF:Hid (Fil w (wr.setCell ⟨w.heap.size,k,none⟩ (.int .i64 zs[k])) w.heap.size (zs.length * 1) (ints (zs.take (k + 1)))):=F2;clear F F0 hr F2 hs;go_wp2;go_roundw;case rel=>exact ⟨k + 1,by omega,by go_num,HF.out⟩
   case measure=>simp [intOf]; omega
  ·obtain rfl:k=zs.length:=by omega
   rw [List.take_length,Nat.mul_one] at F;go_wp2;go_ret;exact ⟨rfl,F.ints,F.below⟩
theorem yn (t s:ByteArray) (w:World) :
  Calls prog 209 #[.agg #[.string t,.string s]] w fun e w'=>e=.returned (.agg #[.string t,.string s])∧Below w.heap.size w w':=by
 have hB:=(((Below.refl w.heap.size w).alloc (Nat.le_refl _) (.cells #[.string t,.string s] 311)).alloc (by simp) (.cells #[.string t,.string s] 204)).alloc (by simp; omega) (.cells #[.string t,.string s] 204);go_enter func209,ntmps209;go_wp2;exact bodyPost_ret (v:=.agg #[.string t,.string s]) (by simp [results,Tryz.results209,go_sem, *]) rfl ⟨rfl,hB⟩
def pairs (xs:List Al):List Value:=xs.flatMap fun a=>[.string a.t,.string a.s]
theorem Ei (xs:List Al) (k:Nat) (h:k < xs.length):pairs (xs.take (k + 1))=(pairs (xs.take k) ++ [.string xs[k].t]) ++ [.string xs[k].s]:=by
 unfold pairs; rw [List.take_succ_eq_append_getElem h,List.flatMap_append]; simp
theorem nW:∀ xs:List Al,(pairs xs).length=xs.length * 2
 | []=>rfl
 | a::xs=>by have:=nW xs; simp only [pairs,List.flatMap_cons,List.length_append,List.length_cons,List.length_nil] at this ⊢; omega
theorem wh:∀ (xs:List Al) (i:Nat) (h:i < xs.length),(pairs xs)[i * 2]?=some (.string xs[i].t)∧(pairs xs)[i * 2 + 1]?=some (.string xs[i].s)
 | [],i,h=>by simp at h
 | a::xs,0,_=>by simp [pairs]
 | a::xs,i + 1,h=>by
  have:=wh xs i (by simpa using h);simp only [pairs,List.flatMap_cons,List.cons_append,List.nil_append,List.getElem_cons_succ] at this ⊢;rw [show (i + 1) * 2=i * 2 + 1 + 1 by omega,show i * 2 + 1 + 1 + 1=(i * 2 + 1) + 1 + 1 by omega];simpa using this
theorem Fil.pairs {w w':World} {g:Nat} {xs:List Al} (h:Fil w w' g (xs.length * 2) (pairs xs)):gu w' (some ⟨g,0,none⟩) xs:=by
 refine .inr ⟨g,0,rfl,h.lt,fun i hi=>?_⟩;obtain ⟨h1,h2⟩:=wh xs i hi;have hl:=nW xs;refine ⟨?_,?_⟩
 ·rw [Nat.zero_add,h.done (i * 2) (by omega),← h1,List.getElem?_eq_getElem (by omega)]
 ·rw [Nat.zero_add,h.done (i * 2 + 1) (by omega),← h2,List.getElem?_eq_getElem (by omega)]
theorem wm (ad:Option Addr) (cap:Nat) (xs:List Al) (w:World) (hlen:xs.length≤1048576) (hs:gu w ad xs) :
  Calls prog 189 #[.slice ad xs.length cap] w fun e w'=>e=.returned (.slice (some ⟨w.heap.size,0,none⟩) xs.length xs.length)∧gu w' (some ⟨w.heap.size,0,none⟩) xs∧Below w.heap.size w w':=by
 obtain ⟨inf,z,hi,hz0,hz1,hz2⟩:=vZ (t:=204) (n:=2) (b:=32) (by kernel_rfl);go_enter func189,ntmps189;go_wp2_with (at_make; refine wpList_make_full _ rfl _ _ 187 rfl w.heap.size 204 inf z 2 underlying187 hi hz0 hz1 .i64 .i64 _ _ xs.length rfl rfl rfl rfl (by rw [hz2]; omega) (by unfold maxLen; omega) (Nat.le_refl _) ?_; intro w0 hown0 hgrow0);have F0:Fil w w0 w.heap.size (xs.length * 2) []:=mE hown0 hgrow0;clear hown0 hgrow0 hi hz0 hz1 hz2;go_loopw [4] (fun i wr=>∃ k:Nat,k≤xs.length∧i=.int .i64 k∧Fil w wr w.heap.size (xs.length * 2) (pairs (xs.take k))) (fun i _=>xs.length - (intOf i).toNat);case atStart=>exact ⟨0,Nat.zero_le _,rfl,F0⟩
 case round =>
  obtain ⟨k,hk,rfl,F⟩:=hrel;by_cases hlt:k < xs.length
  ·rcases hs.below F.below with rfl | ⟨b,off,rfl,hb,hr⟩
   ·simp at hlt
   obtain ⟨t0,t1⟩:=hr k hlt;go_wp2_with fail;refine (yn _ _ _).mono ?_;rintro e w1 ⟨rfl,hb1⟩;have F1:=F.later hb1;have fz:=F1.free;obtain ⟨v0,u0⟩:=Option.isSome_iff_exists.mp (F1.there (k * 2) (by omega));obtain ⟨v1,u1⟩:=Option.isSome_iff_exists.mp (F1.there (k * 2 + 1) (by omega));have hpl:(pairs (xs.take k)).length=k * 2:=by rw [nW,List.length_take,Nat.min_eq_left hk]
   have F2:=(F1.put (.string xs[k].t) (o:=k * 2) hpl.symm (by omega)).put (.string xs[k].s) (o:=k * 2 + 1) (by simp [hpl]) (by omega);rw [← Ei _ _ hlt] at F2;have HF:Hid (Fil w ((w1.setCell ⟨w.heap.size,k * 2,none⟩ (.string xs[k].t)).setCell ⟨w.heap.size,k * 2 + 1,none⟩ (.string xs[k].s)) w.heap.size (xs.length * 2) (pairs (xs.take (k + 1)))):=F2;clear F F0 hr F1 F2 hs t0 t1 hb1 hpl;go_wp2;go_roundw;case rel=>exact ⟨k + 1,by omega,by go_num,HF.out⟩
   case measure=>simp [intOf]; omega
  ·obtain rfl:k=xs.length:=by omega
   rw [List.take_length] at F;go_wp2;go_ret;exact ⟨rfl,F.pairs,F.below⟩
end Go.Proofs.YtdmniljjnaebbaaGreatDoor
