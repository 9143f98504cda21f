/- What a change of some blocks leaves as it was; the text of a mark. -/
import Derived.Test.YtajkkeikihhejaaGreatSq
import Derived.Laws.IdiomStrings
import Derived.Test.YtajkkeikihhejaaGreatExprs
import Derived.Lib.Join
import Derived.Deep.QuietTactic
import Derived.BigQuiet
import Derived.Maps.OwnSet
import Derived.DeepKeys4
open Go.Proofs.Tryz
set_option maxHeartbeats 80000000
namespace Go.Proofs.YtajkkeikihhejaaGreat
open Go.ChangeShapes Go.WideShapes Go.ChangeAt Go.RowKit
theorem mO {w:af} {g i j:Nat} {v:Value} (h:i ≠ j):(w.setCell ⟨g,i,none⟩ v).cell? ⟨g,j,none⟩=w.cell? ⟨g,j,none⟩:=by
 apply World.cell?_setCell_other;intro e;exact h (congrArg Addr.off e)
theorem mS {w:af} {a:Addr} {v u:Value} (h:w.cell? a=some u):(w.setCell a v).cell? a=some v:=by
 apply World.cell?_setCell_same; exact h
theorem mK {W w1:af} {n o:Nat} {v:Value} (hb:ag W w1) (hn:n < W.heap.size) (h:W.cell? ⟨n,o,none⟩=some v):w1.cell? ⟨n,o,none⟩=some v:=by
 rw [hb.cell (p:=⟨n,o,none⟩) hn]; exact h
def gY (w:World) (g:Nat):Prop:=∀ j,w.frozen? ⟨g,j,none⟩=false
structure Chg (S:Nat→Prop) (w w':World):Prop where
 base:Below 0 w w'
 block:∀ k,k < w.heap.size→¬ S k→w'.heap[k]?=w.heap[k]?
 free:∀ g,g < w.heap.size→gY w g→gY w' g
theorem Chg.refl (S:Nat→Prop) (w:af):Chg S w w:=⟨TT _ _,fun _ _ _=>rfl,fun _ _ h=>h⟩
theorem Chg.size {S:Nat→Prop} {w w':af} (h:Chg S w w'):w.heap.size≤w'.heap.size:=h.base.size
theorem Chg.trans {S:Nat→Prop} {a b c:af} (h:Chg S a b) (k:Chg S b c):Chg S a c :=
 ⟨h.base.trans k.base,fun i hi hs=>(k.block i (TP hi h.size) hs).trans (h.block i hi hs),fun g hg hf=>k.free g (TP hg h.size) (h.free g hg hf)⟩
theorem Chg.mono {S T:Nat→Prop} {a b:af} (h:Chg S a b) (hs:∀ g,S g→T g):Chg T a b :=
 ⟨h.base,fun i hi hn=>h.block i hi fun e=>hn (hs i e),h.free⟩
theorem Chg.of {S:Nat→Prop} {w w':af} (h:ag w w'):Chg S w w' :=
 ⟨h.mono (TW _),fun k hk _=>h.block k hk,fun g hg hf j=>by rw [h.frozen (p:=⟨g,j,none⟩) hg]; exact hf j⟩
theorem Chg.set {S:Nat→Prop} {w:af} {g j:Nat} (v:Value) (hs:S g):Chg S w (w.setCell ⟨g,j,none⟩ v) :=
 ⟨(TT 0 w).setCell (TW _) v,fun k _ hk=>Below.heap_setCell _ _ _ _ (fun e=>hk (by rw [e]; exact hs)),fun g' _ hf j'=>by simpa using hf j'⟩
theorem Chg.below {S:Nat→Prop} {w w':af} {m:Nat} (h:Chg S w w') (hm:∀ g,S g→m≤g) (hw:m≤w.heap.size):Below m w w' :=
 ⟨h.base.os,h.base.tape,h.base.output,h.base.size,fun k hk=>h.block k (TP hk hw) fun e=>by have:=hm k e; omega⟩
theorem Chg.cell {S:Nat→Prop} {w w':af} (h:Chg S w w') {g o:Nat} (hg:g < w.heap.size) (hs:¬ S g):w'.cell? ⟨g,o,none⟩=w.cell? ⟨g,o,none⟩:=by
 have:=h.block g hg hs;unfold World.cell?;simp only [this]
open Pl
def jR (x y:Al):Bool:=x.t.toList == y.t.toList && x.s.toList == y.s.toList
def Fh (a:Al):Bool:=aP a.t && uj a.s
def dF (xs:List Al) (k:Nat) (a:Al):Bool:=(xs.take k).any fun x=>jR x a
theorem sM (xs:List Al) (k:Nat) (a:Al) (h:k < xs.length):dF xs (k + 1) a=(dF xs k a || jR xs[k] a):=by
 unfold dF; rw [TV h,List.any_append]; simp
theorem sN (xs:List Al) (a:Al):dF xs 0 a=false:=by simp [dF]
def DN (xs:List Al):Nat→Bool
 | 0=>true
 | k + 1=>DN xs k && (xs[k]?.map fun a=>Fh a && !dF xs k a).getD true
theorem yR (xs:List Al) (k:Nat) (h:k < xs.length):DN xs (k + 1)=(DN xs k && (Fh xs[k] && !dF xs k xs[k])):=by
 simp [DN,h]
theorem oK (xs:List Al) (k:Nat) (h:k < xs.length) (hb:(Fh xs[k] && !dF xs k xs[k])=false):∀ n,k < n→DN xs n=false
 | 0,hn=>by omega
 | n + 1,hn=>by
  by_cases e:n=k
  ·subst e; rw [yR _ _ h,hb]; simp
  simp [DN,oK xs k h hb n (by omega)]
def ed (xs:List Al):Bool:=decide (1≤xs.length) && decide (xs.length≤6) && DN xs xs.length
def av (e:Ex):Bool :=
 if e.kind=1 then ed e.allow && e.over.toList.isEmpty && e.name.toList.isEmpty && decide (e.kids.length=0)
 else if e.kind=2 then aP e.name && decide (e.allow.length=0) && e.over.toList.isEmpty && decide (e.kids.length=0)
 else if e.kind=3 then aP e.over && aP e.name && decide (e.allow.length=0) && decide (e.kids.length=0)
 else if e.kind=4 ∨ e.kind=5 then decide (2≤e.kids.length) && decide (e.kids.length≤5) && decide (e.allow.length=0) && e.over.toList.isEmpty && e.name.toList.isEmpty
 else if e.kind=6 then decide (e.kids.length=2) && decide (e.allow.length=0) && e.over.toList.isEmpty && e.name.toList.isEmpty
 else false
def di (f:Int→Int):List Int→Int→Int
 | [],at'=>at' + 1
 | k::ks,at'=>if at' < 0 ∨ k ≠ at' then -1 else if f at' < 0 then -1 else di f ks (f at' - 1)
def dC (es:List Ex) (n:Nat):List Int:=(es[n]?.map Ex.kids).getD []
def ay (es:List Ex) (n:Nat):Int:=di (fun x=>if _h:0≤x∧x.toNat < n then ay es x.toNat else -1) (dC es n).reverse ((n:Int) - 1)
def dx (es:List Ex) (n:Nat) (x:Int):Int:=if 0≤x∧x.toNat < n then ay es x.toNat else -1
theorem jb (es:List Ex) (n:Nat):ay es n=di (dx es n) (dC es n).reverse ((n:Int) - 1):=by
 rw [ay];rfl
theorem Ce {f:Int→Int} (hf:∀ x,0≤x→f x≤x):∀ (ks:List Int) (a:Int),-1≤a→di f ks a≤a + 1
 | [],a,_=>by simp [di]
 | k::ks,a,ha=>by
  unfold di;split
  ·omega
  rename_i h;split
  ·omega
  rename_i h2;have h0:0≤a:=by omega
  have:=Ce hf ks (f a - 1) (by omega);have:=hf a h0;omega
theorem iB (es:List Ex) (n:Nat):ay es n≤n:=by
 induction n using Nat.strongRecOn with
 | ind n ih =>
  rw [jb];have:=Ce (f:=dx es n) (fun x hx=>by
   unfold dx;split
   ·rename_i h; have:=ih x.toNat h.2; omega
   omega) (dC es n).reverse ((n:Int) - 1) (by omega)
  omega
theorem Ng (es:List Ex) (n:Nat) (x:Int) (hx:0≤x):dx es n x≤x:=by
 unfold dx;split
 ·have:=iB es x.toNat; omega
 omega
theorem rY {es:List Ex} {n:Nat} (ih:∀ m,m < n→0≤ay es m→∀ j:Nat,ay es m≤j→j≤m→0≤ay es j) :
  ∀ (ks:List Int) (a:Int),a < n→0≤di (dx es n) ks a→∀ j:Nat,di (dx es n) ks a≤j→(j:Int)≤a→0≤ay es j
 | [],a,ha,h,j,h1,h2=>by simp [di] at h1; omega
 | k::ks,a,ha,h,j,h1,h2=>by
  unfold di at h h1;split at h
  ·omega
  rename_i c;rw [if_neg c] at h1;split at h
  ·omega
  rename_i c2;rw [if_neg c2] at h1;have h0:0≤a:=by omega
  have hF:dx es n a=ay es a.toNat:=by unfold dx; rw [if_pos ⟨h0,by omega⟩]
  rw [hF] at h h1 c2;by_cases hj:ay es a.toNat≤j
  ·exact ih a.toNat (by omega) (by omega) j hj (by omega)
  exact rY ih ks (ay es a.toNat - 1) (by have:=iB es a.toNat; omega) h j h1 (by omega)
theorem nA (es:List Ex) (n:Nat):0≤ay es n→∀ j:Nat,ay es n≤j→j≤n→0≤ay es j:=by
 induction n using Nat.strongRecOn with
 | ind n ih =>
  intro h j h1 h2;by_cases e:j=n
  ·subst e; exact h
  rw [jb] at h h1;exact rY ih _ _ (by omega) h j h1 (by omega)
def kH (es:List Ex) (i:Nat):Bool:=(dC es i).all fun k=>decide (0≤k) && decide (k≤(i:Int) - 1)
theorem xw {es:List Ex} {n:Nat}:∀ (ks:List Int) (a:Int),a < n→0≤di (dx es n) ks a→∀ k ∈ ks,0≤k∧k≤a
 | [],_,_,_,k,hk=>by cases hk
 | x::ks,a,ha,h,k,hk=>by
  unfold di at h;split at h
  ·omega
  rename_i c;split at h
  ·omega
  rename_i c2;have h0:0≤a:=by omega
  rcases List.mem_cons.1 hk with rfl | hk
  ·omega
  have hl:=Ng es n a h0;have:=xw ks (dx es n a - 1) (by omega) h k hk;omega
theorem KP (es:List Ex) (i:Nat) (h:0≤ay es i):kH es i=true:=by
 unfold kH;rw [Ub];intro k hk;rw [jb] at h;have:=xw _ _ (by omega) h k (by simpa using hk);simp; omega
def Nh (es:List Ex) (n:Nat):Prop:=∀ j,j < n→0≤ay es j
def own (es:List Ex):Nat:=(es.filter fun e=>decide (e.kind=1)).length
def gF (es:List Ex) (k:Nat):Nat:=own (es.take k)
theorem yS (es:List Ex) (k:Nat) (h:k < es.length):gF es (k + 1)=gF es k + (if es[k].kind=1 then 1 else 0):=by
 unfold gF own;rw [TV h,Uz,T9];by_cases e:es[k].kind=1 <;> simp [e]
theorem uk (es:List Ex) (k:Nat):gF es k≤k:=by
 unfold gF own;exact TZ (List.length_filter_le ..) (by simp; omega)
def jr (es:List Ex) (k:Nat):Bool:=(es.take k).all av
theorem ul (es:List Ex) (k:Nat) (h:k < es.length):jr es (k + 1)=(jr es k && av es[k]):=by
 unfold jr; rw [TV h,List.all_append]; simp
theorem Cf (es:List Ex) (k:Nat) (h:k < es.length) (hb:av es[k]=false):es.all av=false:=by
 rw [Bool.eq_false_iff]; intro h2; rw [Ub] at h2; have:=h2 es[k] (TQ h); rw [hb] at this; cases this
def iY (es:List Ex) (k:Nat):Bool:=(List.range k).all (kH es)
theorem Fj (es:List Ex) (k:Nat):iY es (k + 1)=(iY es k && kH es k):=by simp [iY,List.range_succ]
theorem Ni (es:List Ex) (k:Nat) (h:k < es.length) (hb:kH es k=false):iY es es.length=false:=by
 rw [Bool.eq_false_iff]; intro h2; unfold iY at h2; rw [Ub] at h2; have:=h2 k (by simpa using h); rw [hb] at this; cases this
def aK (es:List Ex):Bool:=decide (1≤es.length) && decide (es.length≤15) && es.all av && iY es es.length && decide (own es≤1) && decide (ay es (es.length - 1)=0)
def jv (es:List Ex):Bool:=(List.range es.length).all fun j=>decide (0≤ay es j)
def kL (es:List Ex):Bool:=decide (1≤es.length) && decide (es.length≤15) && es.all av && decide (own es≤1) && (jv es && decide (ay es (es.length - 1)=0))
theorem vY (es:List Ex):aK es=kL es:=by
 by_cases h1:1≤es.length
 ·by_cases ht:ay es (es.length - 1)=0
  ·have ha:jv es=true:=by
    unfold jv;rw [Ub];intro j hj;have hj':j < es.length:=by simpa using hj
    simpa using nA es (es.length - 1) (by omega) j (by omega) (by omega)
   have hk:iY es es.length=true:=by
    unfold iY;rw [Ub];intro j hj;have hj':j < es.length:=by simpa using hj
    exact KP es j (nA es (es.length - 1) (by omega) j (by omega) (by omega))
   simp [aK,kL,ht,ha,hk,h1]
  simp [aK,kL,ht]
 simp [aK,kL,h1]
theorem jc {a b:ByteArray} (h:a.data.toList=b.data.toList):a=b:=by
 cases a; cases b; congr; exact Array.toList_inj.1 h
def fu (sep:ByteArray) (xs:List ByteArray):ByteArray:=⟨(Lib.join (xs.map (·.data.toList)) sep.data.toList).toArray⟩
theorem Cg (sep:bH):fu sep []=⟨#[]⟩:=rfl
theorem inter_snoc {α:Type} (s:List α):∀ (l:List (List α)) (x:List α),s.intercalate (l ++ [x])=if l=[] then x else s.intercalate l ++ (s ++ x)
 | [],x=>by simp [List.intercalate]
 | [a],x=>by simp [List.intercalate]
 | a::b::l,x=>by
  have ih:=inter_snoc s (b::l) x;simp only [List.cons_append,List.intercalate,List.intersperse,reduceCtorEq,if_false] at ih ⊢;simp only [List.flatten_cons] at ih ⊢;rw [ih];simp
theorem oL (sep:bH) (xs:List ByteArray) (x:bH):fu sep (xs ++ [x])=if xs=[] then x else fu sep xs ++ sep ++ x:=by
 apply jc;unfold fu Lib.join;rw [List.map_append,List.map_cons,List.map_nil,inter_snoc];by_cases h:xs=[]
 ·simp [h]
 simp [h,ByteArray.data_append]
theorem oM (sep:bH) (b:Nat):∀ (n:Nat) (xs:List ByteArray),xs.length=n→(∀ x ∈ xs,x.size≤b)→(fu sep xs).size≤n * (b + sep.size)
 | 0,xs,hn,_=>by
  have:xs=[]:=List.eq_nil_of_length_eq_zero hn;subst this;simp [Cg];rfl
 | n + 1,xs,hn,hx=>by
  obtain ⟨ys,y,rfl⟩:∃ ys y,xs=ys ++ [y]:=by
   have hne:xs ≠ []:=by intro e; simp [e] at hn
   exact ⟨xs.dropLast,xs.getLast hne,(List.dropLast_concat_getLast hne).symm⟩
  have hl:ys.length=n:=by simp at hn; exact hn
  have ih:=oM sep b n ys hl (fun x h=>hx x (by simp [h]));have hy:=hx y (by simp);rw [oL,Nat.succ_mul];by_cases h:ys=[]
  ·rw [if_pos h]; omega
  rw [if_neg h,Uh,Uh]; omega
def fG (a:Al):ByteArray:=if a.s.toList.isEmpty then a.t else a.t ++ ⟨#[35]⟩ ++ a.s
def uq (xs:List Al):ByteArray:=⟨#[116,104,105,115,40]⟩ ++ fu ⟨#[44]⟩ (xs.map fG) ++ ⟨#[41]⟩
def gG (k:Int):ByteArray:=if k=4 then ⟨#[32,124,32]⟩ else if k=5 then ⟨#[32,38,32]⟩ else ⟨#[32,45,32]⟩
theorem lQ (k:Int):(gG k).size=3:=by
 unfold gG;split
 ·rfl
 split <;> rfl
def lT (f:Int→ByteArray) (e:Ex):ByteArray :=
 if e.kind=1 then uq e.allow else if e.kind=2 then e.name else if e.kind=3 then e.over ++ ⟨#[45,62]⟩ ++ e.name else fu (gG e.kind) (e.kids.map f)
def inT (e:Ex) (inside:Bool) (t:ByteArray):ByteArray:=if inside && !(decide (e.kind=1) || decide (e.kind=2) || decide (e.kind=3)) then ⟨#[40]⟩ ++ t ++ ⟨#[41]⟩ else t
def DR (es:List Ex) (n:Nat):Ex:=es[n]?.getD ⟨0,[],⟨#[]⟩,⟨#[]⟩,[]⟩
def txt (es:List Ex) (n:Nat):ByteArray:=inT (DR es n) true (lT (fun x=>if _h:x.toNat < n then txt es x.toNat else ⟨#[]⟩) (DR es n))
def jw (es:List Ex) (n:Nat) (x:Int):ByteArray:=if x.toNat < n then txt es x.toNat else ⟨#[]⟩
def iN (es:List Ex) (n:Nat) (inside:Bool):ByteArray:=inT (DR es n) inside (lT (jw es n) (DR es n))
theorem DT (es:List Ex) (n:Nat):txt es n=iN es n true:=by
 rw [txt]; rfl
def yT:Nat→Nat
 | 0=>200
 | n + 1=>yT n * 6
theorem J6 (n:Nat):200≤yT n:=by
 induction n with
 | zero=>exact TS _
 | succ n ih=>simp only [yT]; omega
theorem Ch {m n:Nat} (h:m≤n):yT m≤yT n:=by
 induction h with
 | refl=>exact TS _
 | step _ ih=>simp only [yT]; omega
theorem Qc:yT 14≤20000000000000:=by decide
theorem bQ {s:ByteArray} (h:aP s=true):s.size≤12:=by
 simp only [aP,dL,nG,TU,Ud] at h;exact h.1.1.2
theorem yU {s:ByteArray} (h:uj s=true):s.size≤12:=by
 unfold uj at h;rw [Bool.or_eq_true] at h;rcases h with h | h
 ·have h2:s.data.toList=[]:=by rw [Go.ByteArray.toList_eq] at h; simpa using h
  have h3:s.data.toList.length=0:=by rw [h2]; rfl
  have:s.size=s.data.toList.length:=rfl;omega
 exact bQ h
theorem yD {xs:List Al}:∀ {k:Nat},DN xs k=true→∀ (i:Nat) (h:i < xs.length),i < k→Fh xs[i]=true
 | 0,_,i,_,hi=>by omega
 | k + 1,hk,i,h,hi=>by
  unfold DN at hk;rw [TU] at hk;by_cases e:i=k
  ·subst e;have:=hk.2;simp only [TY h,Option.map_some,Option.getD_some,TU] at this;exact this.1
  exact yD hk.1 i h (by omega)
theorem pY {a:Al} (h:Fh a=true):(fG a).size≤25:=by
 unfold Fh at h;rw [TU] at h;have h1:=bQ h.1;have h2:=yU h.2;have e1:(⟨#[35]⟩:ByteArray).size=1:=rfl;unfold fG;split
 ·omega
 simp only [Uh]; omega
theorem jW {xs:List Al} (h:ed xs=true):(uq xs).size≤190:=by
 unfold ed at h;simp only [TU,Ud] at h;have hj:=oM ⟨#[44]⟩ 25 _ (xs.map fG) rfl (fun x hx=>by
  obtain ⟨a,ha,rfl⟩:=Ue.1 hx;obtain ⟨i,hi,rfl⟩:=Uu ha;exact pY (yD h.2 i hi hi))
 have e1:(⟨#[116,104,105,115,40]⟩:ByteArray).size=5:=rfl;have e2:(⟨#[41]⟩:ByteArray).size=1:=rfl;have e3:(⟨#[44]⟩:ByteArray).size=1:=rfl;have e4:(xs.map fG).length≤6:=by simp; exact h.1.2
 unfold uq;simp only [Uh];rw [e3] at hj;have:(xs.map fG).length * (25 + 1)≤6 * 26:=Nat.mul_le_mul_right _ e4;omega
def Rn (es:List Ex):Prop:=es.length≤15∧(∀ (i:Nat) (h:i < es.length),av es[i]=true)∧∀ i,i < es.length→kH es i=true
theorem Nj {es:List Ex} (h:aK es=true):Rn es:=by
 unfold aK at h;simp only [TU,Ud] at h;refine ⟨h.1.1.1.1.2,fun i hi=>?_,fun i hi=>?_⟩
 ·have:=h.1.1.1.2;rw [Ub] at this;exact this _ (TQ hi)
 have:=h.1.1.2;unfold iY at this;rw [Ub] at this;exact this i (by simpa using hi)
theorem p8 {e:Ex} (h:av e=true):e.kids.length≤5∧(e.kind=1 ∨ e.kind=2 ∨ e.kind=3 ∨ e.kind=4 ∨ e.kind=5 ∨ e.kind=6):=by
 unfold av at h;split at h
 ·rename_i k; simp at h; exact ⟨by simp [h.2],.inl k⟩
 split at h
 ·rename_i k; simp at h; exact ⟨by simp [h.2],.inr (.inl k)⟩
 split at h
 ·rename_i k; simp at h; exact ⟨by simp [h.2],.inr (.inr (.inl k))⟩
 split at h
 ·rename_i k; simp at h; exact ⟨by omega,by omega⟩
 split at h
 ·rename_i k; simp at h; exact ⟨by omega,by omega⟩
 cases h
theorem yV {es:List Ex} (hes:Rn es) {n:Nat} (hn:n < es.length) (b:Nat) (hb:200≤b) (f:Int→ByteArray) (hf:∀ k ∈ es[n].kids,(f k).size≤b):(lT f es[n]).size≤b * 5 + 20:=by
 have UA:=hes.2.1 n hn;obtain ⟨hk,hkind⟩:=p8 UA;unfold lT;unfold av at UA;split
 ·rename_i k;rw [if_pos k] at UA;simp only [TU] at UA;have:=jW UA.1.1.1;omega
 rename_i k1;rw [if_neg k1] at UA;split
 ·rename_i k2;rw [if_pos k2] at UA;simp only [TU] at UA;have:=bQ UA.1.1.1;omega
 rename_i k2;rw [if_neg k2] at UA;split
 ·rename_i k3;rw [if_pos k3] at UA;simp only [TU] at UA;have h1:=bQ UA.1.1.1;have h2:=bQ UA.1.1.2;have e1:(⟨#[45,62]⟩:ByteArray).size=2:=rfl;simp only [Uh];omega
 have hj:=oM (gG es[n].kind) b _ (es[n].kids.map f) rfl (fun x hx=>by obtain ⟨k,hk,rfl⟩:=Ue.1 hx; exact hf k hk);rw [lQ] at hj;have:(es[n].kids.map f).length * (b + 3)≤5 * (b + 3):=Nat.mul_le_mul_right _ (by simp; exact hk);omega
theorem Fp (e:Ex) (i:Bool) (t:bH):(inT e i t).size≤t.size + 2:=by
 have e1:(⟨#[40]⟩:ByteArray).size=1:=rfl;have e2:(⟨#[41]⟩:ByteArray).size=1:=rfl;unfold inT;split
 ·simp only [Uh]; omega
 omega
theorem DU {es:List Ex} {n:Nat} (h:n < es.length):DR es n=es[n]:=by simp [DR,h]
theorem ut {es:List Ex} (hes:Rn es) {n:Nat} (hn:n < es.length):∀ k ∈ es[n].kids,0≤k∧k.toNat < n:=by
 intro k hk;have:=hes.2.2 n hn;unfold kH at this;rw [Ub] at this;have h1:=this k (by simp [dC,hn,hk]);simp at h1;omega
theorem Hz {es:List Ex} (hes:Rn es) (n:Nat):n < es.length→∀ i,(iN es n i).size≤yT n:=by
 induction n using Nat.strongRecOn with
 | ind n ih =>
  intro hn i;unfold iN;rw [DU hn];have h1:=Fp es[n] i (lT (jw es n) es[n]);cases n with
  | zero =>
   have h2:=yV hes hn 200 (TS _) (jw es 0) (fun k hk=>by have:=ut hes hn k hk; omega);have hno:es[0].kids=[]:=by
    cases hk:es[0].kids with
    | nil=>rfl
    | cons k ks=>have:=ut hes hn k (by rw [hk]; simp); omega
   have UA:=hes.2.1 0 hn;have h3:(lT (jw es 0) es[0]).size≤195:=by
    unfold lT;unfold av at UA;split
    ·rename_i k; rw [if_pos k] at UA; simp only [TU] at UA; have:=jW UA.1.1.1; omega
    rename_i k1;rw [if_neg k1] at UA;split
    ·rename_i k2; rw [if_pos k2] at UA; simp only [TU] at UA; have:=bQ UA.1.1.1; omega
    rename_i k2;rw [if_neg k2] at UA;split
    ·rename_i k3;rw [if_pos k3] at UA;simp only [TU] at UA;have h1:=bQ UA.1.1.1;have h2:=bQ UA.1.1.2;have e1:(⟨#[45,62]⟩:ByteArray).size=2:=rfl;simp only [Uh];omega
    rw [hno];have:(fu (gG es[0].kind) (List.map (jw es 0) [])).size=0:=rfl;omega
   simp only [yT];omega
  | succ m =>
   have h2:=yV hes hn (yT m) (J6 m) (jw es (m + 1)) (fun k hk=>by
    have hlt:=ut hes hn k hk;unfold jw;rw [if_pos hlt.2,DT];exact TZ (ih k.toNat hlt.2 (by omega) true) (Ch (by omega)))
   have:=J6 m;simp only [yT];omega
structure RS where
 p:Nat
 bad:Bool
 out:List Ex
def fQ:ByteArray:=⟨#[116,104,105,115,40]⟩
def uu:ByteArray:=⟨#[35]⟩
def fe:ByteArray:=⟨#[41]⟩
def lV:ByteArray:=⟨#[44]⟩
def jy:ByteArray:=⟨#[40]⟩
def oN:ByteArray:=⟨#[45,62]⟩
def aW (k:Int):ByteArray:=if k=4 then ⟨#[32,124,32]⟩ else if k=5 then ⟨#[32,38,32]⟩ else ⟨#[32,45,32]⟩
def dW (s w:ByteArray) (p:Nat):Bool:=decide (p + w.size≤s.size) && (s.extract p (p + w.size)).toList == w.toList
def kY (s w:ByteArray) (st:RS):Bool:=!st.bad && dW s w st.p
def j5 (w:ByteArray) (st:RS):RS:=⟨st.p + w.size,st.bad,st.out⟩
def au (s:ByteArray) (p:Nat):Nat:=((s.data.toList.drop p).takeWhile eG).length
def ax (s:ByteArray) (p:Nat):ByteArray:=s.extract p (p + au s p)
def rT (x:Ex) (st:RS):RS:=⟨st.p,st.bad || decide (15 < st.out.length + 1),st.out ++ [x]⟩
def uw (st:RS):RS:=⟨st.p,true,st.out⟩
def x9 (s:ByteArray) (st:RS):ByteArray:=if kY s uu st then ax s (st.p + 1) else ⟨#[]⟩
def aV (s:ByteArray) (st:RS):RS:=if kY s uu st then ⟨st.p + 1 + au s (st.p + 1),st.bad,st.out⟩ else st
def bz (s:ByteArray) (st:RS):RS:=⟨st.p + au s st.p,st.bad,st.out⟩
def dD (s:ByteArray):Nat→List Al→RS→Option (List Al) × RS
 | 0,_,st=>(none,st)
 | n + 1,xs,st =>
  if st.bad then (none,st)
  else if kY s fe (aV s (bz s st)) then (some (xs ++ [⟨ax s st.p,x9 s (bz s st)⟩]),j5 fe (aV s (bz s st)))
  else if kY s lV (aV s (bz s st)) then dD s n (xs ++ [⟨ax s st.p,x9 s (bz s st)⟩]) (j5 lV (aV s (bz s st)))
  else dD s n (xs ++ [⟨ax s st.p,x9 s (bz s st)⟩]) (uw (aV s (bz s st)))
def eY (s:ByteArray) (st:RS):Ex :=
 if kY s oN (bz s st) then ⟨3,[],ax s st.p,ax s (st.p + au s st.p + 2),[]⟩ else ⟨2,[],⟨#[]⟩,ax s st.p,[]⟩
def aI (s:ByteArray) (st:RS):RS :=
 if kY s oN (bz s st) then ⟨st.p + au s st.p + 2 + au s (st.p + au s st.p + 2),st.bad,st.out⟩ else bz s st
def judged (x:Ex) (st:RS):RS:=if av x then st else uw st
def dE (s:ByteArray) (p:Nat):Int:=if dW s (aW 4) p then 4 else if dW s (aW 5) p then 5 else if dW s (aW 6) p then 6 else 0
def ib (s:ByteArray) (it:RS→Int × RS) (k:Int):Nat→List Int→RS→List Int × RS
 | 0,zs,st=>(zs,st)
 | n + 1,zs,st=>if kY s (aW k) st then ib s it k n (zs ++ [(it (j5 (aW k) st)).1]) (it (j5 (aW k) st)).2 else (zs,st)
def yX (s:ByteArray):Nat→Bool→RS→Int × RS
 | 0,_,st=>(0,st)
 | n + 1,false,st =>
  if kY s fQ st then
   match dD s (s.size + 1) [] (j5 fQ st) with
   | (some xs,st')=>((st'.out.length:Int),rT ⟨1,xs,⟨#[]⟩,⟨#[]⟩,[]⟩ st')
   | (none,st')=>(0,st')
  else if kY s jy st then
   let x:=yX s n true (j5 jy st)
   if kY s fe x.2 then (x.1,j5 fe x.2) else (x.1,uw x.2)
  else ((st.out.length:Int),rT (eY s st) (judged (eY s st) (aI s st)))
 | n + 1,true,st =>
  let x:=yX s n false st
  if dE s x.2.p=0 ∨ x.2.bad=true then x
  else
   let y:=ib s (yX s n false) (dE s x.2.p) (s.size + 1) [x.1] x.2
   ((y.2.out.length:Int),rT ⟨dE s x.2.p,[],⟨#[]⟩,⟨#[]⟩,y.1⟩ y.2)
theorem j6 (s:bH) (p:Nat) (hp:p≤s.size):p + au s p≤s.size:=by
 unfold au;have h1:((s.data.toList.drop p).takeWhile eG).length≤(s.data.toList.drop p).length:=(List.takeWhile_prefix (p:=eG) (l:=s.data.toList.drop p)).length_le;have h2:(s.data.toList.drop p).length=s.size - p:=by rw [List.length_drop]; simp
 omega
theorem yY (s:bH) (p:Nat) (hp:p≤s.size):(ax s p).size=au s p:=by
 unfold ax;rw [ByteArray.size_extract];have:=j6 s p hp;omega
theorem Fq {s w:ByteArray} {p:Nat} (h:dW s w p=true):p + w.size≤s.size:=by
 unfold dW at h;simp only [TU,Ud] at h;exact h.1
theorem kI {s w:ByteArray} {st:RS} (h:kY s w st=true):st.p + w.size≤s.size:=by
 unfold kY at h;simp only [TU] at h;exact Fq h.2
set_option maxRecDepth 100000
theorem ai {p:Prop} (h:p):Hid p:=h
structure RdC (w:World) (R:Nat) (s:ByteArray) (p:Nat) (bad:Bool) (v:Value):Prop where
 lt:R < w.heap.size
 c0:w.cell? ⟨R,0,none⟩=some (.string s)
 c1:w.cell? ⟨R,1,none⟩=some (.int .i64 (p:Int))
 c2:w.cell? ⟨R,2,none⟩=some (.bool bad)
 c3:w.cell? ⟨R,3,none⟩=some v
 fr:gY w R
theorem RdC.grown {w w':af} {R:Nat} {s:ByteArray} {p:Nat} {bad:Bool} {v:Value} {row:Option Nat} (h:RdC w R s p bad v) (hg:w.grownBy w' row) (hR:some R ≠ row):RdC w' R s p bad v :=
 ⟨TP h.lt hg.size,hg.cell h.c0 hR,hg.cell h.c1 hR,hg.cell h.c2 hR,hg.cell h.c3 hR,fun j=>(World.frozen?_of_block (w:=w) (a:=⟨R,j,none⟩) (hg.block R h.lt hR)).trans (h.fr j)⟩
theorem RdC.drewN {w:af} {R:Nat} {s:ByteArray} {p:Nat} {bad:Bool} {v:Value} (h:RdC w R s p bad v) (n:Nat):RdC (w.drewN n) R s p bad v:=⟨h.lt,h.c0,h.c1,h.c2,h.c3,h.fr⟩
theorem RdC.on {w:af} {R:Nat} {s:ByteArray} {p:Nat} {bad:Bool} {v:Value} (h:RdC w R s p bad v) (q:Nat):RdC (w.setCell ⟨R,1,none⟩ (.int .i64 (q:Int))) R s q bad v :=
 ⟨by simpa using h.lt,by rw [mO (by omega)]; exact h.c0,mS h.c1,by rw [mO (by omega)]; exact h.c2,by rw [mO (by omega)]; exact h.c3,fun j=>by simpa using h.fr j⟩
theorem Fs (w:af) (R o:Nat) (v:Value) (n:Nat):w.grownBy ((w.drewN n).setCell ⟨R,o,none⟩ v) (some R) :=
 ⟨rfl,rfl,rfl,by simp,fun k _ hk=>Below.heap_setCell _ _ _ k (fun e=>hk (by rw [e]))⟩
theorem H5 {w w':af} {R o:Nat} {v:Value} (h:w.grownBy w' (some R)):w.grownBy (w'.setCell ⟨R,o,none⟩ v) (some R) :=
 ⟨h.os,h.tape,h.output,by simpa using h.size,fun k hk hne=>(Below.heap_setCell w' _ _ k (fun e=>hne (by rw [e]))).trans (h.block k hk hne)⟩
def mJ (s t:ByteArray) (p:Nat) (bad:Bool):Bool:=!bad && dW s t p
def Qd (s t:ByteArray) (p:Nat) (bad:Bool):Nat:=if mJ s t p bad then p + t.size else p
theorem uy {s t:ByteArray} {p:Nat} {bad:Bool} (h:mJ s t p bad=true):Qd s t p bad=p + t.size:=by simp [Qd,h]
theorem yZ {s t:ByteArray} {p:Nat} {bad:Bool} (h:mJ s t p bad=false):Qd s t p bad=p:=by simp [Qd,h]
theorem lW (R:Nat) (s t:bH) (p:Nat) (bad:Bool) (v:Value) (w:af) (h:RdC w R s p bad v) (hs:s.size≤1000) (hp:p≤s.size) (ht:t.size≤100) :
  Calls prog 236 #[.pointer (some ⟨R,0,none⟩),.string t] w fun e w'=>e=.returned (.bool (mJ s t p bad))∧RdC w' R s (Qd s t p bad) bad v∧w.grownBy w' (some R):=by
 have H:=ai h;have c0:=h.c0;have c1:=h.c1;have c2:=h.c2;have f1:=h.fr 1;have hlt:=h.lt;have h0:=h;clear h H;have hwr:IntKind.i64.wrap ((p:Int) + (t.size:Int))=(p:Int) + (t.size:Int):=by simp [IntKind.wrap,IntKind.bits,IntKind.signed]; omega
 have no:∀ {n:Nat} {e:Ending},mJ s t p bad=false→e=.returned (.bool false)→e=.returned (.bool (mJ s t p bad))∧RdC (w.drewN n) R s (Qd s t p bad) bad v∧w.grownBy (w.drewN n) (some R):=fun hb he=>⟨by rw [hb]; exact he,by rw [yZ hb]; exact h0.drewN _,⟨rfl,rfl,rfl,TS _,fun _ _ _=>rfl⟩⟩;have yes:∀ {n:Nat} {e:Ending},mJ s t p bad=true→e=.returned (.bool true)→e=.returned (.bool (mJ s t p bad))∧RdC ((w.drewN n).setCell ⟨R,1,none⟩ (.int .i64 ((p:Int) + (t.size:Int)))) R s (Qd s t p bad) bad v∧w.grownBy ((w.drewN n).setCell ⟨R,1,none⟩ (.int .i64 ((p:Int) + (t.size:Int)))) (some R):=fun hb he=>⟨by rw [hb]; exact he,by rw [uy hb]; exact (h0.drewN _).on (p + t.size),Fs _ _ _ _ _⟩;have NO:Hid (∀ {n:Nat} {e:Ending},_):=@no;have YES:Hid (∀ {n:Nat} {e:Ending},_):=@yes;clear no yes h0;cases bad;case true=>
  have HB:Hid (mJ s t p true=false):=rfl;clear hwr;go_enter func236,ntmps236;go_wp2_with fail;go_quiet (fail);go_wp2;go_ret;exact NO.out HB.out rfl
 by_cases hl:p + t.size≤s.size
 ·have hd:decide ((s.size:Int) < (p:Int) + (t.size:Int))=false:=by simp; omega
  have hp1:(p:Int)≤(p:Int) + (t.size:Int):=by omega
  have hp2:(p:Int) + (t.size:Int)≤(s.size:Int):=by omega
  have hnn:=bB p;have hla:dW s t p=((s.extract p (p + t.size)).toList == t.toList):=by simp [dW,hl]
  cases he:(s.extract p (p + t.size)).toList == t.toList;case true=>
   have HB:Hid (mJ s t p false=true):=by show _=_; simp only [mJ,hla,he]; rfl
   have hq:(!(s.extract p (p + t.size)).toList == t.toList)=false:=by rw [he]; rfl
   clear he hla;go_enter func236,ntmps236;go_wp2_with fail;go_quiet (fail);go_wp2;go_ret;exact YES.out HB.out rfl
  have HB:Hid (mJ s t p false=false):=by show _=_; simp only [mJ,hla,he]; rfl
  have hq:(!(s.extract p (p + t.size)).toList == t.toList)=true:=by rw [he]; rfl
  clear he hla;go_enter func236,ntmps236;go_wp2_with fail;go_quiet (fail);go_wp2;go_ret;exact NO.out HB.out rfl
 have hd:decide ((s.size:Int) < (p:Int) + (t.size:Int))=true:=by simp; omega
 have HB:Hid (mJ s t p false=false):=by show _=_; simp [mJ,dW,hl]
 clear hl;go_enter func236,ntmps236;go_wp2_with fail;go_quiet (fail);go_wp2;go_ret;exact NO.out HB.out rfl
def wat (R:Nat) (w:World):Nat:=match w.cell? ⟨R,1,none⟩ with
 | some (.int _ z)=>z.toNat
 | _=>0
theorem RdC.place {w:af} {R:Nat} {s:ByteArray} {p:Nat} {bad:Bool} {v:Value} (h:RdC w R s p bad v):wat R w=p:=by
 simp [Go.Proofs.YtajkkeikihhejaaGreat.wat,h.c1]
theorem DV (l:List UInt8) (n:Nat) (h1:∀ i (h:i < l.length),i < n→eG l[i]=true) (h2:∀ h:n < l.length,eG l[n]=false) (hn:n≤l.length):(l.takeWhile eG).length=n:=by
 induction l generalizing n with
 | nil=>simp at hn; simp [hn]
 | cons x xs ih =>
  cases n with
  | zero =>
   have:=h2 (by simp);simp at this;simp [List.takeWhile,this]
  | succ n =>
   have hx:=h1 0 (by simp) (by omega);simp at hx;have:=ih n (fun i hi hin=>by have:=h1 (i + 1) (by simpa using hi) (by omega); simpa using this) (fun h=>by have:=h2 (by simpa using h); simpa using this) (by simpa using hn);simp [List.takeWhile,hx,this]
theorem Nk (s:bH) (p q:Nat) (hpq:p≤q) (hq:q≤s.size) (h1:∀ i (h:i < s.size),p≤i→i < q→eG s[i]=true) (h2:∀ h:q < s.size,eG s[q]=false):au s p=q - p:=by
 unfold au;have hl:s.data.toList.length=s.size:=by simp
 refine DV _ _ (fun i hi hin=>?_) (fun h=>?_) (by rw [List.length_drop,hl]; omega)
 ·rw [List.length_drop,hl] at hi;have:=h1 (p + i) (by omega) (by omega) (by omega);simp only [List.getElem_drop,Array.getElem_toList];exact this
 rw [List.length_drop,hl] at h;have:=h2 (by omega);simp only [List.getElem_drop,Array.getElem_toList];have e:p + (q - p)=q:=by omega
 simp only [e];exact this
theorem uz (R:Nat) (s:bH) (p:Nat) (bad:Bool) (v:Value) (w:af) (h:RdC w R s p bad v) (hs:s.size≤1000) (hp:p≤s.size) :
  Calls prog 250 #[.pointer (some ⟨R,0,none⟩)] w fun e w'=>e=.returned (.string (ax s p))∧RdC w' R s (p + au s p) bad v∧w.grownBy w' (some R):=by
 have H:=ai h;have c1:=h.c1;clear h;go_enter func250,ntmps250;go_wp2_with fail;clear c1;go_loopw [8] (fun _ wr=>∃ q:Nat,p≤q∧q≤s.size∧Hid (∀ i (h:i < s.size),p≤i→i < q→eG s[i]=true)∧Hid (RdC wr R s q bad v)∧Hid (w.grownBy wr (some R))) (fun _ wr=>s.size - wat R wr);case atStart=>exact ⟨p,TS _,hp,fun i h h1 h2=>by omega,H,⟨rfl,rfl,rfl,TS _,fun _ _ _=>rfl⟩⟩
 obtain ⟨q,hq1,hq2,HL,HR,HG⟩:=hrel;have c0:=HR.out.c0;have c1:=HR.out.c1;have f1:=HR.out.fr 1;have hlt:=HR.out.lt;have hq0:=bB q;have stop:∀ n m,(∀ h:q < s.size,eG s[q]=false)→Ending.returned (.string (s.extract p q))=.returned (.string (ax s p))∧RdC ((wr.drewN n).drewN m) R s (p + au s p) bad v∧w.grownBy ((wr.drewN n).drewN m) (some R):=fun n m hn=>by
  have e:=Nk s p q hq1 hq2 HL.out hn;have e2:p + au s p=q:=by omega
  exact ⟨by unfold ax; rw [e2],by rw [e2]; exact (HR.out.drewN n).drewN m,⟨HG.out.os,HG.out.tape,HG.out.output,HG.out.size,HG.out.block⟩⟩
 have STOP:=ai stop;clear stop;have hx1:(p:Int)≤(q:Int):=by omega
 have hx2:(q:Int)≤(s.size:Int):=by omega
 have hx3:=bB p;by_cases hlt2:q < s.size
 ·have hq3:(q:Int) < (s.size:Int):=by omega
  have hd:decide ((q:Int) < (s.size:Int))=true:=by simpa using hq3
  by_cases hb1:(97:Int)≤(s[q].toNat:Int)
  ·have hd1:decide ((97:Int)≤(s[q].toNat:Int))=true:=by simpa using hb1
   by_cases hb2:(s[q].toNat:Int)≤122
   ·have hd2:decide ((s[q].toNat:Int)≤122)=true:=by simpa using hb2
    have HL2:Hid (∀ i (h:i < s.size),p≤i→i < q + 1→eG s[i]=true):=fun i h h1 h2=>by
     by_cases e:i=q
     ·subst e; simp [eG]; omega
     exact HL.out i h h1 (by omega)
    have hwr2:IntKind.i64.wrap ((q:Int) + 1)=(q:Int) + 1:=by simp [IntKind.wrap,IntKind.bits,IntKind.signed]; omega
    go_wp2_with fail;go_quiet (fail);have HR2:Hid (RdC ((wr.drewN nq).setCell ⟨R,1,none⟩ (.int .i64 ((q:Int) + 1))) R s (q + 1) bad v):=(HR.out.drewN nq).on (q + 1);have HG2:Hid (w.grownBy ((wr.drewN nq).setCell ⟨R,1,none⟩ (.int .i64 ((q:Int) + 1))) (some R)):=H5 (w':=wr.drewN nq) ⟨HG.out.os,HG.out.tape,HG.out.output,HG.out.size,HG.out.block⟩;have hm1:=HR.out.place;have hm2:=HR2.out.place;have HM:Hid (s.size - wat R ((wr.drewN nq).setCell ⟨R,1,none⟩ (.int .i64 ((q:Int) + 1))) < s.size - wat R wr):=by show _ < _; rw [hm1,hm2]; omega
    clear hm1 hm2;go_wp2;go_roundw;case rel=>exact ⟨q + 1,by omega,by omega,HL2,HR2,HG2⟩
    exact HM.out
   have hd2:decide ((s[q].toNat:Int)≤122)=false:=by simpa using hb2
   have HN:Hid (∀ h:q < s.size,eG s[q]=false):=fun h=>by simp [eG]; omega
   go_wp2_with fail;go_quiet (fail);go_wp2_with fail;go_quiet (fail);go_wp2;go_ret;exact STOP.out _ _ HN.out
  have hd1:decide ((97:Int)≤(s[q].toNat:Int))=false:=by simpa using hb1
  have HN:Hid (∀ h:q < s.size,eG s[q]=false):=fun h=>by simp [eG]; omega
  go_wp2_with fail;go_quiet (fail);go_wp2_with fail;go_quiet (fail);go_wp2;go_ret;exact STOP.out _ _ HN.out
 have hd:decide ((q:Int) < (s.size:Int))=false:=by simp; omega
 have HN:Hid (∀ h:q < s.size,eG s[q]=false):=fun h=>absurd h hlt2;go_wp2_with fail;go_quiet (fail);go_wp2_with fail;go_quiet (fail);go_wp2;go_ret;exact STOP.out _ _ HN.out
open Go.Maps
def Qe (v:Value):Option (DataW Value × List MemPlace):=some (.held v,[])
section
variable {K:Type} (enc:K→Value) (P:Program) (k:TypeId)
def RY (D:DataW Value) (kl:Lit):Option Value→Prop
 | none=>Maps.has D kl=false∧∀ z,D.atKey kl z=z
 | some v=>Maps.has D kl=true∧∀ z,D.atKey kl z=.held v
def aM (w:World) (b n:Nat) (M:K→Option Value):Prop :=
 ∃ D:DataW Value,w.ownsMap P k Qe b n D∧∀ x kl,keyOf P k (enc x)=some kl→RY D kl (M x)
def kZ [DecidableEq K] (M:K→Option Value) (x:K) (v:Option Value):K→Option Value:=fun y=>if y=x then v else M y
end
section
variable {K:Type} {enc:K→Value} {P:Program} {k:TypeId} {w:World} {b n:Nat} {M:K→Option Value}
theorem dZ [DecidableEq K] (M:K→Option Value) (x:K) (v:Option Value):kZ M x v x=v:=by simp [kZ]
theorem cz [DecidableEq K] {M:K→Option Value} {x y:K} {v:Option Value} (h:y ≠ x):kZ M x v y=M y:=by simp [kZ,h]
theorem nJ (enc:K→Value) (P:Program) (k:TypeId) (w:af):aM enc P k (w.alloc (.map #[] 0)) w.heap.size 0 (fun _=>none) :=
 ⟨.map [],World.ownsMap_made w P k Qe,fun _ kl _=>⟨rfl,fun z=>by simp [DataW.atKey]⟩⟩
theorem aM.lt (h:aM enc P k w b n M):b < w.heap.size:=by obtain ⟨D,h1,-⟩:=h; exact h1.lt
theorem aM.mono (h:aM enc P k w b n M) {n':Nat} (hn:n≤n'):aM enc P k w b n' M:=by obtain ⟨D,h1,h2⟩:=h; exact ⟨D,h1.mono hn,h2⟩
theorem aM.kept {w':af} {row:Option Nat} (h:aM enc P k w b n M) (hg:w.grownBy w' row) (hne:some b ≠ row):aM enc P k w' b n M:=by
 obtain ⟨D,h1,h2⟩:=h; exact ⟨D,h1.kept hg hne,h2⟩
theorem aM.below {w':af} (h:aM enc P k w b n M) (hB:ag w w'):aM enc P k w' b n M :=
 h.kept (row:=none) ⟨hB.os,hB.tape,hB.output,hB.size,fun k hk _=>hB.block k hk⟩ (by simp)
theorem aM.setCell (h:aM enc P k w b n M) {a:Addr} (ha:b ≠ a.block) (u:Value):aM enc P k (w.setCell a u) b n M:=by
 obtain ⟨D,h1,h2⟩:=h; exact ⟨D,h1.setCell ha u,h2⟩
theorem aM.look {t e:TypeId} (h:aM enc P k w b n M) (L:Keyed P k) (ht:P.underlying t=some (.map k e)) {z:Value} (hz:(zeroValue e).run P w=.ok z w) {x:K} {kl:Lit} (hkey:keyOf P k (enc x)=some kl) :
  (Instr.lookup t (.map (some b)) (enc x) false).run P w=.ok ((M x).getD z) w:=by
 obtain ⟨D,h1,h2⟩:=h;obtain ⟨v,ps,hrun,hv⟩:=h1.lookup L ht hz (zd:=.held z) (zp:=[]) rfl hkey;have h3:=h2 x kl hkey;rw [hrun];have:v=(M x).getD z:=by
  simp only [Qe,Option.some.injEq,Prod.mk.injEq] at hv;cases e:M x with
  | none=>rw [e] at h3; rw [h3.2] at hv; injection hv.1 with h4
  | some u=>rw [e] at h3; rw [h3.2] at hv; injection hv.1 with h4
 rw [this]
theorem aM.look_ok {t e:TypeId} (h:aM enc P k w b n M) (L:Keyed P k) (ht:P.underlying t=some (.map k e)) {z:Value} (hz:(zeroValue e).run P w=.ok z w) {x:K} {kl:Lit} (hkey:keyOf P k (enc x)=some kl) :
  (Instr.lookup t (.map (some b)) (enc x) true).run P w=.ok (.tuple #[(M x).getD z,.bool (M x).isSome]) w:=by
 obtain ⟨D,h1,h2⟩:=h;obtain ⟨v,ps,hrun,hv⟩:=h1.look_ok L ht hz (zd:=.held z) (zp:=[]) rfl hkey;have h3:=h2 x kl hkey;rw [hrun];simp only [Qe,Option.some.injEq,Prod.mk.injEq] at hv;cases e:M x with
 | none=>rw [e] at h3; rw [h3.2] at hv; injection hv.1 with h4; rw [h4,h3.1]; rfl
 | some u=>rw [e] at h3; rw [h3.2] at hv; injection hv.1 with h4; rw [h4,h3.1]; rfl
theorem aM.store [DecidableEq K] {t e:TypeId} (h:aM enc P k w b n M) (L:Keyed P k) (hinj:∀ x y,enc x=enc y→x=y) (ht:P.underlying t=some (.map k e)) (hn:n < maxLen) {x:K} {kl:Lit} (hkey:keyOf P k (enc x)=some kl) (v:Value) :
  ∃ w',(Instr.mapUpdate t (.map (some b)) (enc x) v).run P w=.ok () w'∧aM enc P k w' b (n + 1) (kZ M x (some v))∧w.grownBy w' (some b):=by
 obtain ⟨D,h1,h2⟩:=h;obtain ⟨w',hrun,h3,h4⟩:=h1.update L ht hn hkey (val:=v) (d:=.held v) (ps:=[]) rfl;refine ⟨w',hrun,⟨D.put kl (.held v),h3,fun y ky hy=>?_⟩,h4⟩;by_cases e:y=x
 ·subst e;obtain rfl:ky=kl:=by rw [hkey] at hy; injection hy with hy; exact hy.symm
  rw [dZ];exact ⟨has_put_same h1.isMap (L.key hkey) _,fun z=>atKey_put_same h1.isMap (L.key hkey) _ z⟩
 have hne:ky ≠ kl:=fun e2=>e (hinj _ _ (L.inj (by rw [e2] at hy; exact hy) hkey));rw [cz e];have h5:=h2 y ky hy;cases e3:M y with
 | none=>rw [e3] at h5; exact ⟨by rw [has_put_other hne]; exact h5.1,fun z=>by rw [atKey_put_other hne]; exact h5.2 z⟩
 | some u=>rw [e3] at h5; exact ⟨by rw [has_put_other hne]; exact h5.1,fun z=>by rw [atKey_put_other hne]; exact h5.2 z⟩
end
section
variable {K:Type} {enc:K→Value} {P:Program} (w:World) {ops:Array Oper} {rest:List Oper} {o:Oper} {a:Act} {Q:Exit→Act→World→Prop}
theorem jA (hg:o.guard=none) (m x:Operand) (t:TypeId) (hop:o.op=Op.lookup t m x false) (k e:TypeId) (L:Keyed P k) (ht:P.underlying t=some (.map k e)) {z:Value} (hz:(zeroValue e).run P w=.ok z w) (b n:Nat) (M:K→Option Value)
  (hm:a.eval m=.map (some b)) (hV:aM enc P k w b n M) (y:K) (kl:Lit) (hx:a.eval x=enc y) (hkey:keyOf P k (enc y)=some kl)
  (hK:wpList P ops Q rest (a.put o.dst ((M y).getD z)) w):wpList P ops Q (o::rest) a w:=by
 refine wpList_plain hg fun K' hK'=>?_;have hrun:=hV.look L ht hz hkey;unfold Oper.wp;simp [execOp,hop,hm,hx,hrun,Result.andThen];exact hK' _ _ hK
theorem bZ (hg:o.guard=none) (m x:Operand) (t:TypeId) (hop:o.op=Op.lookup t m x true) (k e:TypeId) (L:Keyed P k) (ht:P.underlying t=some (.map k e)) {z:Value} (hz:(zeroValue e).run P w=.ok z w) (b n:Nat) (M:K→Option Value)
  (hm:a.eval m=.map (some b)) (hV:aM enc P k w b n M) (y:K) (kl:Lit) (hx:a.eval x=enc y) (hkey:keyOf P k (enc y)=some kl)
  (hK:wpList P ops Q rest (a.put o.dst (.tuple #[(M y).getD z,.bool (M y).isSome])) w):wpList P ops Q (o::rest) a w:=by
 refine wpList_plain hg fun K' hK'=>?_;have hrun:=hV.look_ok L ht hz hkey;unfold Oper.wp;simp [execOp,hop,hm,hx,hrun,Result.andThen];exact hK' _ _ hK
theorem nC [DecidableEq K] (hg:o.guard=none) (m x v:Operand) (t:TypeId) (hop:o.op=Op.mapUpdate t m x v) (k e:TypeId) (L:Keyed P k) (hinj:∀ x y,enc x=enc y→x=y) (ht:P.underlying t=some (.map k e)) (b n:Nat) (M:K→Option Value)
  (hm:a.eval m=.map (some b)) (hV:aM enc P k w b n M) (hn:n < maxLen) (y:K) (kl:Lit) (hx:a.eval x=enc y) (hkey:keyOf P k (enc y)=some kl) (u:Value) (hv:a.eval v=u)
  (hK:∀ w',aM enc P k w' b (n + 1) (kZ M y (some u))→w.grownBy w' (some b)→wpList P ops Q rest (a.put o.dst undef) w'):wpList P ops Q (o::rest) a w:=by
 refine wpList_plain hg fun K' hK'=>?_;obtain ⟨w',hrun,r1,r2⟩:=hV.store L hinj ht hn hkey u;unfold Oper.wp;simp [execOp,hop,hm,hx,hv,hrun,Result.andThen];exact hK' _ _ (hK w' r1 r2)
end
def dQ (k:ByteArray × ByteArray):Value:=.agg #[.string k.1,.string k.2]
theorem uA (x y:ByteArray × ByteArray) (h:dQ x=dQ y):x=y:=by
 unfold dQ at h;injection h with h;have h1:=congrArg Array.toList h;simp at h1;exact Prod.ext h1.1 h1.2
theorem za:laidOutB prog=true:=by kernel_rfl
theorem Nl:(94:TypeId) < prog.types.size:=of_decide_eq_true (by kernel_rfl)
theorem Qf:(match prog.underlying 94 with | some (.array _ _) | some (.struct _)=>true | _=>false)=true:=by rw [underlying94]
set_option maxRecDepth 100000 in
theorem J7:WideMaps.KeyLaw prog 94:=deep_law_laid za (m:=2) (by omega) Nl (by kernel_rfl) Qf
theorem ic:Keyed prog 94:=Keyed.of_law J7
theorem Qg:prog.keyType 94=true:=by kernel_rfl
theorem Fu:prog.cellsOf 94=2:=by kernel_rfl
theorem strCells:prog.cellsOf 9=1:=by kernel_rfl
theorem KQ:∃ n,prog.types.size=n + 1:=Nat.exists_eq_succ_of_ne_zero (Nat.ne_of_gt (Nat.lt_of_le_of_lt (TW _) Nl))
theorem jB (k:ByteArray × ByteArray) (h1:k.1.size≤maxLen) (h2:k.2.size≤maxLen):∃ kl,keyOf prog 94 (dQ k)=some kl:=by
 obtain ⟨n,hn⟩:=KQ;refine ⟨.string (keyBytes [.string k.1.data.toList,.string k.2.data.toList]),?_⟩;unfold keyOf;rw [underlying94];simp only [Qg,dQ,Value.formed,underlying94,Fu,hn,Value.cells];simp [Program.keyLits,underlying94,underlying9,Fu,strCells,h1,h2]
end Go.Proofs.YtajkkeikihhejaaGreat
