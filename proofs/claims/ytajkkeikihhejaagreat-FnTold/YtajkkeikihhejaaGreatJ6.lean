/- What a change of some blocks leaves as it was; the text of a mark. -/
import Derived.Test.YtajkkeikihhejaaGreatSq
import Derived.Laws.IdiomStrings
import Derived.Test.YtajkkeikihhejaaGreatJ4
import Derived.Lib.Join
import Derived.Deep.QuietTactic
import Derived.Test.YtajkkeikihhejaaGreatJ2
import Derived.WideKeyEntry
import Derived.WalkArith
open Go.Proofs.Tryz
set_option maxHeartbeats 80000000
namespace Go.Proofs.YtajkkeikihhejaaGreat
open Go.ChangeShapes Go.WideShapes Go.ChangeAt Go.RowKit
theorem mO {w:af} {g i j:Nat} {v:Value} (h:i ≠ j):(w.setCell ⟨g,i,none⟩ v).cell? ⟨g,j,none⟩=w.cell? ⟨g,j,none⟩:=by
 apply World.cell?_setCell_other;intro e;exact h (congrArg Addr.off e)
theorem mS {w:af} {a:Addr} {v u:Value} (h:w.cell? a=some u):(w.setCell a v).cell? a=some v:=by
 apply World.cell?_setCell_same; exact h
theorem mK {W w1:af} {n o:Nat} {v:Value} (hb:ag W w1) (hn:n < W.heap.size) (h:W.cell? ⟨n,o,none⟩=some v):w1.cell? ⟨n,o,none⟩=some v:=by
 rw [hb.cell (p:=⟨n,o,none⟩) hn]; exact h
def gY (w:World) (g:Nat):Prop:=∀ j,w.frozen? ⟨g,j,none⟩=false
structure Chg (S:Nat→Prop) (w w':World):Prop where
 base:Below 0 w w'
 block:∀ k,k < w.heap.size→¬ S k→w'.heap[k]?=w.heap[k]?
 free:∀ g,g < w.heap.size→gY w g→gY w' g
theorem Chg.refl (S:Nat→Prop) (w:af):Chg S w w:=⟨TT _ _,fun _ _ _=>rfl,fun _ _ h=>h⟩
theorem Chg.size {S:Nat→Prop} {w w':af} (h:Chg S w w'):w.heap.size≤w'.heap.size:=h.base.size
theorem Chg.trans {S:Nat→Prop} {a b c:af} (h:Chg S a b) (k:Chg S b c):Chg S a c :=
 ⟨h.base.trans k.base,fun i hi hs=>(k.block i (TP hi h.size) hs).trans (h.block i hi hs),fun g hg hf=>k.free g (TP hg h.size) (h.free g hg hf)⟩
theorem Chg.mono {S T:Nat→Prop} {a b:af} (h:Chg S a b) (hs:∀ g,S g→T g):Chg T a b :=
 ⟨h.base,fun i hi hn=>h.block i hi fun e=>hn (hs i e),h.free⟩
theorem Chg.of {S:Nat→Prop} {w w':af} (h:ag w w'):Chg S w w' :=
 ⟨h.mono (TW _),fun k hk _=>h.block k hk,fun g hg hf j=>by rw [h.frozen (p:=⟨g,j,none⟩) hg]; exact hf j⟩
theorem Chg.set {S:Nat→Prop} {w:af} {g j:Nat} (v:Value) (hs:S g):Chg S w (w.setCell ⟨g,j,none⟩ v) :=
 ⟨(TT 0 w).setCell (TW _) v,fun k _ hk=>Below.heap_setCell _ _ _ _ (fun e=>hk (by rw [e]; exact hs)),fun g' _ hf j'=>by simpa using hf j'⟩
theorem Chg.below {S:Nat→Prop} {w w':af} {m:Nat} (h:Chg S w w') (hm:∀ g,S g→m≤g) (hw:m≤w.heap.size):Below m w w' :=
 ⟨h.base.os,h.base.tape,h.base.output,h.base.size,fun k hk=>h.block k (TP hk hw) fun e=>by have:=hm k e; omega⟩
theorem Chg.cell {S:Nat→Prop} {w w':af} (h:Chg S w w') {g o:Nat} (hg:g < w.heap.size) (hs:¬ S g):w'.cell? ⟨g,o,none⟩=w.cell? ⟨g,o,none⟩:=by
 have:=h.block g hg hs;unfold World.cell?;simp only [this]
open Pl
theorem jc {a b:ByteArray} (h:a.data.toList=b.data.toList):a=b:=by
 cases a; cases b; congr; exact Array.toList_inj.1 h
def fw (sep:ByteArray) (xs:List ByteArray):ByteArray:=⟨(Lib.join (xs.map (·.data.toList)) sep.data.toList).toArray⟩
theorem Cr (sep:bF):fw sep []=⟨#[]⟩:=rfl
theorem inter_snoc {α:Type} (s:List α):∀ (l:List (List α)) (x:List α),s.intercalate (l ++ [x])=if l=[] then x else s.intercalate l ++ (s ++ x)
 | [],x=>by simp [List.intercalate]
 | [a],x=>by simp [List.intercalate]
 | a::b::l,x=>by
  have ih:=inter_snoc s (b::l) x;simp only [List.cons_append,List.intercalate,List.intersperse,reduceCtorEq,if_false] at ih ⊢;simp only [List.flatten_cons] at ih ⊢;rw [ih];simp
theorem oN (sep:bF) (xs:List ByteArray) (x:bF):fw sep (xs ++ [x])=if xs=[] then x else fw sep xs ++ sep ++ x:=by
 apply jc;unfold fw Lib.join;rw [List.map_append,List.map_cons,List.map_nil,inter_snoc];by_cases h:xs=[]
 ·simp [h]
 simp [h,ByteArray.data_append]
theorem oO (sep:bF) (b:Nat):∀ (n:Nat) (xs:List ByteArray),xs.length=n→(∀ x ∈ xs,x.size≤b)→(fw sep xs).size≤n * (b + sep.size)
 | 0,xs,hn,_=>by
  have:xs=[]:=List.eq_nil_of_length_eq_zero hn;subst this;simp [Cr];rfl
 | n + 1,xs,hn,hx=>by
  obtain ⟨ys,y,rfl⟩:∃ ys y,xs=ys ++ [y]:=by
   have hne:xs ≠ []:=by intro e; simp [e] at hn
   exact ⟨xs.dropLast,xs.getLast hne,(List.dropLast_concat_getLast hne).symm⟩
  have hl:ys.length=n:=by simp at hn; exact hn
  have ih:=oO sep b n ys hl (fun x h=>hx x (by simp [h]));have hy:=hx y (by simp);rw [oN,Nat.succ_mul];by_cases h:ys=[]
  ·rw [if_pos h]; omega
  rw [if_neg h,Uh,Uh]; omega
def fG (a:Al):ByteArray:=if a.s.toList.isEmpty then a.t else a.t ++ ⟨#[35]⟩ ++ a.s
def uA (xs:List Al):ByteArray:=⟨#[116,104,105,115,40]⟩ ++ fw ⟨#[44]⟩ (xs.map fG) ++ ⟨#[41]⟩
def gH (k:Int):ByteArray:=if k=4 then ⟨#[32,124,32]⟩ else if k=5 then ⟨#[32,38,32]⟩ else ⟨#[32,45,32]⟩
theorem lV (k:Int):(gH k).size=3:=by
 unfold gH;split
 ·rfl
 split <;> rfl
def lW (f:Int→ByteArray) (e:Ex):ByteArray :=
 if e.kind=1 then uA e.allow else if e.kind=2 then e.name else if e.kind=3 then e.over ++ ⟨#[45,62]⟩ ++ e.name else fw (gH e.kind) (e.kids.map f)
def inT (e:Ex) (inside:Bool) (t:ByteArray):ByteArray:=if inside && !(decide (e.kind=1) || decide (e.kind=2) || decide (e.kind=3)) then ⟨#[40]⟩ ++ t ++ ⟨#[41]⟩ else t
def D5 (es:List Ex) (n:Nat):Ex:=es[n]?.getD ⟨0,[],⟨#[]⟩,⟨#[]⟩,[]⟩
def txt (es:List Ex) (n:Nat):ByteArray:=inT (D5 es n) true (lW (fun x=>if _h:x.toNat < n then txt es x.toNat else ⟨#[]⟩) (D5 es n))
def jC (es:List Ex) (n:Nat) (x:Int):ByteArray:=if x.toNat < n then txt es x.toNat else ⟨#[]⟩
def iU (es:List Ex) (n:Nat) (inside:Bool):ByteArray:=inT (D5 es n) inside (lW (jC es n) (D5 es n))
theorem D6 (es:List Ex) (n:Nat):txt es n=iU es n true:=by
 rw [txt]; rfl
def zi:Nat→Nat
 | 0=>200
 | n + 1=>zi n * 6
theorem Kg (n:Nat):200≤zi n:=by
 induction n with
 | zero=>exact TS _
 | succ n ih=>simp only [zi]; omega
theorem Cs {m n:Nat} (h:m≤n):zi m≤zi n:=by
 induction h with
 | refl=>exact TS _
 | step _ ih=>simp only [zi]; omega
theorem Qn:zi 14≤20000000000000:=by decide
theorem bQ {s:ByteArray} (h:aP s=true):s.size≤12:=by
 simp only [aP,dL,nG,TU,Ud] at h;exact h.1.1.2
theorem zk {s:ByteArray} (h:ui s=true):s.size≤12:=by
 unfold ui at h;rw [Bool.or_eq_true] at h;rcases h with h | h
 ·have h2:s.data.toList=[]:=by rw [Go.ByteArray.toList_eq] at h; simpa using h
  have h3:s.data.toList.length=0:=by rw [h2]; rfl
  have:s.size=s.data.toList.length:=rfl;omega
 exact bQ h
theorem yF {xs:List Al}:∀ {k:Nat},DT xs k=true→∀ (i:Nat) (h:i < xs.length),i < k→Fq xs[i]=true
 | 0,_,i,_,hi=>by omega
 | k + 1,hk,i,h,hi=>by
  unfold DT at hk;rw [TU] at hk;by_cases e:i=k
  ·subst e;have:=hk.2;simp only [TY h,Option.map_some,Option.getD_some,TU] at this;exact this.1
  exact yF hk.1 i h (by omega)
theorem qh {a:Al} (h:Fq a=true):(fG a).size≤25:=by
 unfold Fq at h;rw [TU] at h;have h1:=bQ h.1;have h2:=zk h.2;have e1:(⟨#[35]⟩:ByteArray).size=1:=rfl;unfold fG;split
 ·omega
 simp only [Uh]; omega
theorem jW {xs:List Al} (h:ed xs=true):(uA xs).size≤190:=by
 unfold ed at h;simp only [TU,Ud] at h;have hj:=oO ⟨#[44]⟩ 25 _ (xs.map fG) rfl (fun x hx=>by
  obtain ⟨a,ha,rfl⟩:=Ue.1 hx;obtain ⟨i,hi,rfl⟩:=Uu ha;exact qh (yF h.2 i hi hi))
 have e1:(⟨#[116,104,105,115,40]⟩:ByteArray).size=5:=rfl;have e2:(⟨#[41]⟩:ByteArray).size=1:=rfl;have e3:(⟨#[44]⟩:ByteArray).size=1:=rfl;have e4:(xs.map fG).length≤6:=by simp; exact h.1.2
 unfold uA;simp only [Uh];rw [e3] at hj;have:(xs.map fG).length * (25 + 1)≤6 * 26:=Nat.mul_le_mul_right _ e4;omega
def Ro (es:List Ex):Prop:=es.length≤15∧(∀ (i:Nat) (h:i < es.length),av es[i]=true)∧∀ i,i < es.length→kH es i=true
theorem NJ {es:List Ex} (h:aK es=true):Ro es:=by
 unfold aK at h;simp only [TU,Ud] at h;refine ⟨h.1.1.1.1.2,fun i hi=>?_,fun i hi=>?_⟩
 ·have:=h.1.1.1.2;rw [Ub] at this;exact this _ (TQ hi)
 have:=h.1.1.2;unfold iY at this;rw [Ub] at this;exact this i (by simpa using hi)
theorem qi {e:Ex} (h:av e=true):e.kids.length≤5∧(e.kind=1 ∨ e.kind=2 ∨ e.kind=3 ∨ e.kind=4 ∨ e.kind=5 ∨ e.kind=6):=by
 unfold av at h;split at h
 ·rename_i k; simp at h; exact ⟨by simp [h.2],.inl k⟩
 split at h
 ·rename_i k; simp at h; exact ⟨by simp [h.2],.inr (.inl k)⟩
 split at h
 ·rename_i k; simp at h; exact ⟨by simp [h.2],.inr (.inr (.inl k))⟩
 split at h
 ·rename_i k; simp at h; exact ⟨by omega,by omega⟩
 split at h
 ·rename_i k; simp at h; exact ⟨by omega,by omega⟩
 cases h
theorem zl {es:List Ex} (hes:Ro es) {n:Nat} (hn:n < es.length) (b:Nat) (hb:200≤b) (f:Int→ByteArray) (hf:∀ k ∈ es[n].kids,(f k).size≤b):(lW f es[n]).size≤b * 5 + 20:=by
 have UA:=hes.2.1 n hn;obtain ⟨hk,hkind⟩:=qi UA;unfold lW;unfold av at UA;split
 ·rename_i k;rw [if_pos k] at UA;simp only [TU] at UA;have:=jW UA.1.1.1;omega
 rename_i k1;rw [if_neg k1] at UA;split
 ·rename_i k2;rw [if_pos k2] at UA;simp only [TU] at UA;have:=bQ UA.1.1.1;omega
 rename_i k2;rw [if_neg k2] at UA;split
 ·rename_i k3;rw [if_pos k3] at UA;simp only [TU] at UA;have h1:=bQ UA.1.1.1;have h2:=bQ UA.1.1.2;have e1:(⟨#[45,62]⟩:ByteArray).size=2:=rfl;simp only [Uh];omega
 have hj:=oO (gH es[n].kind) b _ (es[n].kids.map f) rfl (fun x hx=>by obtain ⟨k,hk,rfl⟩:=Ue.1 hx; exact hf k hk);rw [lV] at hj;have:(es[n].kids.map f).length * (b + 3)≤5 * (b + 3):=Nat.mul_le_mul_right _ (by simp; exact hk);omega
theorem FH (e:Ex) (i:Bool) (t:bF):(inT e i t).size≤t.size + 2:=by
 have e1:(⟨#[40]⟩:ByteArray).size=1:=rfl;have e2:(⟨#[41]⟩:ByteArray).size=1:=rfl;unfold inT;split
 ·simp only [Uh]; omega
 omega
theorem D7 {es:List Ex} {n:Nat} (h:n < es.length):D5 es n=es[n]:=by simp [D5,h]
theorem uC {es:List Ex} (hes:Ro es) {n:Nat} (hn:n < es.length):∀ k ∈ es[n].kids,0≤k∧k.toNat < n:=by
 intro k hk;have:=hes.2.2 n hn;unfold kH at this;rw [Ub] at this;have h1:=this k (by simp [dC,hn,hk]);simp at h1;omega
theorem H9 {es:List Ex} (hes:Ro es) (n:Nat):n < es.length→∀ i,(iU es n i).size≤zi n:=by
 induction n using Nat.strongRecOn with
 | ind n ih =>
  intro hn i;unfold iU;rw [D7 hn];have h1:=FH es[n] i (lW (jC es n) es[n]);cases n with
  | zero =>
   have h2:=zl hes hn 200 (TS _) (jC es 0) (fun k hk=>by have:=uC hes hn k hk; omega);have hno:es[0].kids=[]:=by
    cases hk:es[0].kids with
    | nil=>rfl
    | cons k ks=>have:=uC hes hn k (by rw [hk]; simp); omega
   have UA:=hes.2.1 0 hn;have h3:(lW (jC es 0) es[0]).size≤195:=by
    unfold lW;unfold av at UA;split
    ·rename_i k; rw [if_pos k] at UA; simp only [TU] at UA; have:=jW UA.1.1.1; omega
    rename_i k1;rw [if_neg k1] at UA;split
    ·rename_i k2; rw [if_pos k2] at UA; simp only [TU] at UA; have:=bQ UA.1.1.1; omega
    rename_i k2;rw [if_neg k2] at UA;split
    ·rename_i k3;rw [if_pos k3] at UA;simp only [TU] at UA;have h1:=bQ UA.1.1.1;have h2:=bQ UA.1.1.2;have e1:(⟨#[45,62]⟩:ByteArray).size=2:=rfl;simp only [Uh];omega
    rw [hno];have:(fw (gH es[0].kind) (List.map (jC es 0) [])).size=0:=rfl;omega
   simp only [zi];omega
  | succ m =>
   have h2:=zl hes hn (zi m) (Kg m) (jC es (m + 1)) (fun k hk=>by
    have hlt:=uC hes hn k hk;unfold jC;rw [if_pos hlt.2,D6];exact TZ (ih k.toNat hlt.2 (by omega) true) (Cs (by omega)))
   have:=Kg m;simp only [zi];omega
structure RS where
 p:Nat
 bad:Bool
 out:List Ex
def fT:ByteArray:=⟨#[116,104,105,115,40]⟩
def uD:ByteArray:=⟨#[35]⟩
def fe:ByteArray:=⟨#[41]⟩
def lX:ByteArray:=⟨#[44]⟩
def jD:ByteArray:=⟨#[40]⟩
def oP:ByteArray:=⟨#[45,62]⟩
def aW (k:Int):ByteArray:=if k=4 then ⟨#[32,124,32]⟩ else if k=5 then ⟨#[32,38,32]⟩ else ⟨#[32,45,32]⟩
def dW (s w:ByteArray) (p:Nat):Bool:=decide (p + w.size≤s.size) && (s.extract p (p + w.size)).toList == w.toList
def kZ (s w:ByteArray) (st:RS):Bool:=!st.bad && dW s w st.p
def kr (w:ByteArray) (st:RS):RS:=⟨st.p + w.size,st.bad,st.out⟩
def au (s:ByteArray) (p:Nat):Nat:=((s.data.toList.drop p).takeWhile eG).length
def ax (s:ByteArray) (p:Nat):ByteArray:=s.extract p (p + au s p)
def rU (x:Ex) (st:RS):RS:=⟨st.p,st.bad || decide (15 < st.out.length + 1),st.out ++ [x]⟩
def uE (st:RS):RS:=⟨st.p,true,st.out⟩
def x9 (s:ByteArray) (st:RS):ByteArray:=if kZ s uD st then ax s (st.p + 1) else ⟨#[]⟩
def aV (s:ByteArray) (st:RS):RS:=if kZ s uD st then ⟨st.p + 1 + au s (st.p + 1),st.bad,st.out⟩ else st
def bz (s:ByteArray) (st:RS):RS:=⟨st.p + au s st.p,st.bad,st.out⟩
def dD (s:ByteArray):Nat→List Al→RS→Option (List Al) × RS
 | 0,_,st=>(none,st)
 | n + 1,xs,st =>
  if st.bad then (none,st)
  else if kZ s fe (aV s (bz s st)) then (some (xs ++ [⟨ax s st.p,x9 s (bz s st)⟩]),kr fe (aV s (bz s st)))
  else if kZ s lX (aV s (bz s st)) then dD s n (xs ++ [⟨ax s st.p,x9 s (bz s st)⟩]) (kr lX (aV s (bz s st)))
  else dD s n (xs ++ [⟨ax s st.p,x9 s (bz s st)⟩]) (uE (aV s (bz s st)))
def eY (s:ByteArray) (st:RS):Ex :=
 if kZ s oP (bz s st) then ⟨3,[],ax s st.p,ax s (st.p + au s st.p + 2),[]⟩ else ⟨2,[],⟨#[]⟩,ax s st.p,[]⟩
def aI (s:ByteArray) (st:RS):RS :=
 if kZ s oP (bz s st) then ⟨st.p + au s st.p + 2 + au s (st.p + au s st.p + 2),st.bad,st.out⟩ else bz s st
def judged (x:Ex) (st:RS):RS:=if av x then st else uE st
def dE (s:ByteArray) (p:Nat):Int:=if dW s (aW 4) p then 4 else if dW s (aW 5) p then 5 else if dW s (aW 6) p then 6 else 0
def ic (s:ByteArray) (it:RS→Int × RS) (k:Int):Nat→List Int→RS→List Int × RS
 | 0,zs,st=>(zs,st)
 | n + 1,zs,st=>if kZ s (aW k) st then ic s it k n (zs ++ [(it (kr (aW k) st)).1]) (it (kr (aW k) st)).2 else (zs,st)
def zm (s:ByteArray):Nat→Bool→RS→Int × RS
 | 0,_,st=>(0,st)
 | n + 1,false,st =>
  if kZ s fT st then
   match dD s (s.size + 1) [] (kr fT st) with
   | (some xs,st')=>((st'.out.length:Int),rU ⟨1,xs,⟨#[]⟩,⟨#[]⟩,[]⟩ st')
   | (none,st')=>(0,st')
  else if kZ s jD st then
   let x:=zm s n true (kr jD st)
   if kZ s fe x.2 then (x.1,kr fe x.2) else (x.1,uE x.2)
  else ((st.out.length:Int),rU (eY s st) (judged (eY s st) (aI s st)))
 | n + 1,true,st =>
  let x:=zm s n false st
  if dE s x.2.p=0 ∨ x.2.bad=true then x
  else
   let y:=ic s (zm s n false) (dE s x.2.p) (s.size + 1) [x.1] x.2
   ((y.2.out.length:Int),rU ⟨dE s x.2.p,[],⟨#[]⟩,⟨#[]⟩,y.1⟩ y.2)
theorem ku (s:bF) (p:Nat) (hp:p≤s.size):p + au s p≤s.size:=by
 unfold au;have h1:((s.data.toList.drop p).takeWhile eG).length≤(s.data.toList.drop p).length:=(List.takeWhile_prefix (p:=eG) (l:=s.data.toList.drop p)).length_le;have h2:(s.data.toList.drop p).length=s.size - p:=by rw [List.length_drop]; simp
 omega
theorem zn (s:bF) (p:Nat) (hp:p≤s.size):(ax s p).size=au s p:=by
 unfold ax;rw [ByteArray.size_extract];have:=ku s p hp;omega
theorem FI {s w:ByteArray} {p:Nat} (h:dW s w p=true):p + w.size≤s.size:=by
 unfold dW at h;simp only [TU,Ud] at h;exact h.1
theorem kI {s w:ByteArray} {st:RS} (h:kZ s w st=true):st.p + w.size≤s.size:=by
 unfold kZ at h;simp only [TU] at h;exact FI h.2
set_option maxRecDepth 100000
theorem ai {p:Prop} (h:p):Hid p:=h
structure RdC (w:World) (R:Nat) (s:ByteArray) (p:Nat) (bad:Bool) (v:Value):Prop where
 lt:R < w.heap.size
 c0:w.cell? ⟨R,0,none⟩=some (.string s)
 c1:w.cell? ⟨R,1,none⟩=some (.int .i64 (p:Int))
 c2:w.cell? ⟨R,2,none⟩=some (.bool bad)
 c3:w.cell? ⟨R,3,none⟩=some v
 fr:gY w R
theorem RdC.grown {w w':af} {R:Nat} {s:ByteArray} {p:Nat} {bad:Bool} {v:Value} {row:Option Nat} (h:RdC w R s p bad v) (hg:w.grownBy w' row) (hR:some R ≠ row):RdC w' R s p bad v :=
 ⟨TP h.lt hg.size,hg.cell h.c0 hR,hg.cell h.c1 hR,hg.cell h.c2 hR,hg.cell h.c3 hR,fun j=>(World.frozen?_of_block (w:=w) (a:=⟨R,j,none⟩) (hg.block R h.lt hR)).trans (h.fr j)⟩
theorem RdC.drewN {w:af} {R:Nat} {s:ByteArray} {p:Nat} {bad:Bool} {v:Value} (h:RdC w R s p bad v) (n:Nat):RdC (w.drewN n) R s p bad v:=⟨h.lt,h.c0,h.c1,h.c2,h.c3,h.fr⟩
theorem RdC.on {w:af} {R:Nat} {s:ByteArray} {p:Nat} {bad:Bool} {v:Value} (h:RdC w R s p bad v) (q:Nat):RdC (w.setCell ⟨R,1,none⟩ (.int .i64 (q:Int))) R s q bad v :=
 ⟨by simpa using h.lt,by rw [mO (by omega)]; exact h.c0,mS h.c1,by rw [mO (by omega)]; exact h.c2,by rw [mO (by omega)]; exact h.c3,fun j=>by simpa using h.fr j⟩
theorem FJ (w:af) (R o:Nat) (v:Value) (n:Nat):w.grownBy ((w.drewN n).setCell ⟨R,o,none⟩ v) (some R) :=
 ⟨rfl,rfl,rfl,by simp,fun k _ hk=>Below.heap_setCell _ _ _ k (fun e=>hk (by rw [e]))⟩
theorem Ia {w w':af} {R o:Nat} {v:Value} (h:w.grownBy w' (some R)):w.grownBy (w'.setCell ⟨R,o,none⟩ v) (some R) :=
 ⟨h.os,h.tape,h.output,by simpa using h.size,fun k hk hne=>(Below.heap_setCell w' _ _ k (fun e=>hne (by rw [e]))).trans (h.block k hk hne)⟩
def mR (s t:ByteArray) (p:Nat) (bad:Bool):Bool:=!bad && dW s t p
def Qo (s t:ByteArray) (p:Nat) (bad:Bool):Nat:=if mR s t p bad then p + t.size else p
theorem uF {s t:ByteArray} {p:Nat} {bad:Bool} (h:mR s t p bad=true):Qo s t p bad=p + t.size:=by simp [Qo,h]
theorem zo {s t:ByteArray} {p:Nat} {bad:Bool} (h:mR s t p bad=false):Qo s t p bad=p:=by simp [Qo,h]
theorem lY (R:Nat) (s t:bF) (p:Nat) (bad:Bool) (v:Value) (w:af) (h:RdC w R s p bad v) (hs:s.size≤1000) (hp:p≤s.size) (ht:t.size≤100) :
  Calls prog 236 #[.pointer (some ⟨R,0,none⟩),.string t] w fun e w'=>e=.returned (.bool (mR s t p bad))∧RdC w' R s (Qo s t p bad) bad v∧w.grownBy w' (some R):=by
 have H:=ai h;have c0:=h.c0;have c1:=h.c1;have c2:=h.c2;have f1:=h.fr 1;have hlt:=h.lt;have h0:=h;clear h H;have hwr:IntKind.i64.wrap ((p:Int) + (t.size:Int))=(p:Int) + (t.size:Int):=by simp [IntKind.wrap,IntKind.bits,IntKind.signed]; omega
 have no:∀ {n:Nat} {e:Ending},mR s t p bad=false→e=.returned (.bool false)→e=.returned (.bool (mR s t p bad))∧RdC (w.drewN n) R s (Qo s t p bad) bad v∧w.grownBy (w.drewN n) (some R):=fun hb he=>⟨by rw [hb]; exact he,by rw [zo hb]; exact h0.drewN _,⟨rfl,rfl,rfl,TS _,fun _ _ _=>rfl⟩⟩;have yes:∀ {n:Nat} {e:Ending},mR s t p bad=true→e=.returned (.bool true)→e=.returned (.bool (mR s t p bad))∧RdC ((w.drewN n).setCell ⟨R,1,none⟩ (.int .i64 ((p:Int) + (t.size:Int)))) R s (Qo s t p bad) bad v∧w.grownBy ((w.drewN n).setCell ⟨R,1,none⟩ (.int .i64 ((p:Int) + (t.size:Int)))) (some R):=fun hb he=>⟨by rw [hb]; exact he,by rw [uF hb]; exact (h0.drewN _).on (p + t.size),FJ _ _ _ _ _⟩;have NO:Hid (∀ {n:Nat} {e:Ending},_):=@no;have YES:Hid (∀ {n:Nat} {e:Ending},_):=@yes;clear no yes h0;cases bad;case true=>
  have HB:Hid (mR s t p true=false):=rfl;clear hwr;go_enter func236,ntmps236;go_wp2_with fail;go_quiet (fail);go_wp2;go_ret;exact NO.out HB.out rfl
 by_cases hl:p + t.size≤s.size
 ·have hd:decide ((s.size:Int) < (p:Int) + (t.size:Int))=false:=by simp; omega
  have hp1:(p:Int)≤(p:Int) + (t.size:Int):=by omega
  have hp2:(p:Int) + (t.size:Int)≤(s.size:Int):=by omega
  have hnn:=bB p;have hla:dW s t p=((s.extract p (p + t.size)).toList == t.toList):=by simp [dW,hl]
  cases he:(s.extract p (p + t.size)).toList == t.toList;case true=>
   have HB:Hid (mR s t p false=true):=by show _=_; simp only [mR,hla,he]; rfl
   have hq:(!(s.extract p (p + t.size)).toList == t.toList)=false:=by rw [he]; rfl
   clear he hla;go_enter func236,ntmps236;go_wp2_with fail;go_quiet (fail);go_wp2;go_ret;exact YES.out HB.out rfl
  have HB:Hid (mR s t p false=false):=by show _=_; simp only [mR,hla,he]; rfl
  have hq:(!(s.extract p (p + t.size)).toList == t.toList)=true:=by rw [he]; rfl
  clear he hla;go_enter func236,ntmps236;go_wp2_with fail;go_quiet (fail);go_wp2;go_ret;exact NO.out HB.out rfl
 have hd:decide ((s.size:Int) < (p:Int) + (t.size:Int))=true:=by simp; omega
 have HB:Hid (mR s t p false=false):=by show _=_; simp [mR,dW,hl]
 clear hl;go_enter func236,ntmps236;go_wp2_with fail;go_quiet (fail);go_wp2;go_ret;exact NO.out HB.out rfl
def wat (R:Nat) (w:World):Nat:=match w.cell? ⟨R,1,none⟩ with
 | some (.int _ z)=>z.toNat
 | _=>0
theorem RdC.place {w:af} {R:Nat} {s:ByteArray} {p:Nat} {bad:Bool} {v:Value} (h:RdC w R s p bad v):wat R w=p:=by
 simp [Go.Proofs.YtajkkeikihhejaaGreat.wat,h.c1]
theorem D8 (l:List UInt8) (n:Nat) (h1:∀ i (h:i < l.length),i < n→eG l[i]=true) (h2:∀ h:n < l.length,eG l[n]=false) (hn:n≤l.length):(l.takeWhile eG).length=n:=by
 induction l generalizing n with
 | nil=>simp at hn; simp [hn]
 | cons x xs ih =>
  cases n with
  | zero =>
   have:=h2 (by simp);simp at this;simp [List.takeWhile,this]
  | succ n =>
   have hx:=h1 0 (by simp) (by omega);simp at hx;have:=ih n (fun i hi hin=>by have:=h1 (i + 1) (by simpa using hi) (by omega); simpa using this) (fun h=>by have:=h2 (by simpa using h); simpa using this) (by simpa using hn);simp [List.takeWhile,hx,this]
theorem NK (s:bF) (p q:Nat) (hpq:p≤q) (hq:q≤s.size) (h1:∀ i (h:i < s.size),p≤i→i < q→eG s[i]=true) (h2:∀ h:q < s.size,eG s[q]=false):au s p=q - p:=by
 unfold au;have hl:s.data.toList.length=s.size:=by simp
 refine D8 _ _ (fun i hi hin=>?_) (fun h=>?_) (by rw [List.length_drop,hl]; omega)
 ·rw [List.length_drop,hl] at hi;have:=h1 (p + i) (by omega) (by omega) (by omega);simp only [List.getElem_drop,Array.getElem_toList];exact this
 rw [List.length_drop,hl] at h;have:=h2 (by omega);simp only [List.getElem_drop,Array.getElem_toList];have e:p + (q - p)=q:=by omega
 simp only [e];exact this
theorem uG (R:Nat) (s:bF) (p:Nat) (bad:Bool) (v:Value) (w:af) (h:RdC w R s p bad v) (hs:s.size≤1000) (hp:p≤s.size) :
  Calls prog 250 #[.pointer (some ⟨R,0,none⟩)] w fun e w'=>e=.returned (.string (ax s p))∧RdC w' R s (p + au s p) bad v∧w.grownBy w' (some R):=by
 have H:=ai h;have c1:=h.c1;clear h;go_enter func250,ntmps250;go_wp2_with fail;clear c1;go_loopw [8] (fun _ wr=>∃ q:Nat,p≤q∧q≤s.size∧Hid (∀ i (h:i < s.size),p≤i→i < q→eG s[i]=true)∧Hid (RdC wr R s q bad v)∧Hid (w.grownBy wr (some R))) (fun _ wr=>s.size - wat R wr);case atStart=>exact ⟨p,TS _,hp,fun i h h1 h2=>by omega,H,⟨rfl,rfl,rfl,TS _,fun _ _ _=>rfl⟩⟩
 obtain ⟨q,hq1,hq2,HL,HR,HG⟩:=hrel;have c0:=HR.out.c0;have c1:=HR.out.c1;have f1:=HR.out.fr 1;have hlt:=HR.out.lt;have hq0:=bB q;have stop:∀ n m,(∀ h:q < s.size,eG s[q]=false)→Ending.returned (.string (s.extract p q))=.returned (.string (ax s p))∧RdC ((wr.drewN n).drewN m) R s (p + au s p) bad v∧w.grownBy ((wr.drewN n).drewN m) (some R):=fun n m hn=>by
  have e:=NK s p q hq1 hq2 HL.out hn;have e2:p + au s p=q:=by omega
  exact ⟨by unfold ax; rw [e2],by rw [e2]; exact (HR.out.drewN n).drewN m,⟨HG.out.os,HG.out.tape,HG.out.output,HG.out.size,HG.out.block⟩⟩
 have STOP:=ai stop;clear stop;have hx1:(p:Int)≤(q:Int):=by omega
 have hx2:(q:Int)≤(s.size:Int):=by omega
 have hx3:=bB p;by_cases hlt2:q < s.size
 ·have hq3:(q:Int) < (s.size:Int):=by omega
  have hd:decide ((q:Int) < (s.size:Int))=true:=by simpa using hq3
  by_cases hb1:(97:Int)≤(s[q].toNat:Int)
  ·have hd1:decide ((97:Int)≤(s[q].toNat:Int))=true:=by simpa using hb1
   by_cases hb2:(s[q].toNat:Int)≤122
   ·have hd2:decide ((s[q].toNat:Int)≤122)=true:=by simpa using hb2
    have HL2:Hid (∀ i (h:i < s.size),p≤i→i < q + 1→eG s[i]=true):=fun i h h1 h2=>by
     by_cases e:i=q
     ·subst e; simp [eG]; omega
     exact HL.out i h h1 (by omega)
    have hwr2:IntKind.i64.wrap ((q:Int) + 1)=(q:Int) + 1:=by simp [IntKind.wrap,IntKind.bits,IntKind.signed]; omega
    go_wp2_with fail;go_quiet (fail);have HR2:Hid (RdC ((wr.drewN nq).setCell ⟨R,1,none⟩ (.int .i64 ((q:Int) + 1))) R s (q + 1) bad v):=(HR.out.drewN nq).on (q + 1);have HG2:Hid (w.grownBy ((wr.drewN nq).setCell ⟨R,1,none⟩ (.int .i64 ((q:Int) + 1))) (some R)):=Ia (w':=wr.drewN nq) ⟨HG.out.os,HG.out.tape,HG.out.output,HG.out.size,HG.out.block⟩;have hm1:=HR.out.place;have hm2:=HR2.out.place;have HM:Hid (s.size - wat R ((wr.drewN nq).setCell ⟨R,1,none⟩ (.int .i64 ((q:Int) + 1))) < s.size - wat R wr):=by show _ < _; rw [hm1,hm2]; omega
    clear hm1 hm2;go_wp2;go_roundw;case rel=>exact ⟨q + 1,by omega,by omega,HL2,HR2,HG2⟩
    exact HM.out
   have hd2:decide ((s[q].toNat:Int)≤122)=false:=by simpa using hb2
   have HN:Hid (∀ h:q < s.size,eG s[q]=false):=fun h=>by simp [eG]; omega
   go_wp2_with fail;go_quiet (fail);go_wp2_with fail;go_quiet (fail);go_wp2;go_ret;exact STOP.out _ _ HN.out
  have hd1:decide ((97:Int)≤(s[q].toNat:Int))=false:=by simpa using hb1
  have HN:Hid (∀ h:q < s.size,eG s[q]=false):=fun h=>by simp [eG]; omega
  go_wp2_with fail;go_quiet (fail);go_wp2_with fail;go_quiet (fail);go_wp2;go_ret;exact STOP.out _ _ HN.out
 have hd:decide ((q:Int) < (s.size:Int))=false:=by simp; omega
 have HN:Hid (∀ h:q < s.size,eG s[q]=false):=fun h=>absurd h hlt2;go_wp2_with fail;go_quiet (fail);go_wp2_with fail;go_quiet (fail);go_wp2;go_ret;exact STOP.out _ _ HN.out
variable {P:Program} {ops:Array Oper} {Q:Exit→Act→World→Prop}
def zq (ops:Array Oper):Bool:=(List.range ops.size).all (fun i=>(ops[i]?.map (fun o=>o.after.all (fun e=>!Region.binds .any e || decide (e.on < i)))).getD true)
theorem rq {ops:Array Oper} (h:zq ops=true):∀ (i:Nat) (o:Oper),ops[i]?=some o→∀ e ∈ o.after,Region.binds .any e=true→e.on < i:=by
 intro i o ho e he hb;rw [zq,Ub] at h;have h1:=h i (by simpa using (Array.getElem?_eq_some_iff.1 ho).1);rw [ho] at h1;simp only [Option.map_some,Option.getD_some,Array.all_eq_true_iff_forall_mem] at h1;have h2:=h1 e he;rw [hb] at h2;simpa using h2
theorem qj {listed:Array Bool} {n:Nat} (hr:Region.ready .any ops listed=[]) (hs:ops.size=n) (Ve:∀ (i:Nat) (o:Oper),ops[i]?=some o→∀ e ∈ o.after,Region.binds .any e=true→e.on < i) (hsz:listed.size=n):∀ i,i < n→listed.getD i true=true:=by
 intro i
 induction i using Nat.strongRecOn with
 | ind i ih =>
  intro hi;cases hl:listed.getD i true;case true=>rfl
  exfalso;have hmem:i ∈ Region.ready .any ops listed:=by
   refine mem_ready.2 ⟨hl,ops[i]'(by omega),Uv (by omega),fun e he hb=>?_⟩;have hlt:=Ve i _ (Uv (by omega)) e he hb;have:=ih e.on hlt (by omega);rw [Uj,Uv (by omega)] at this ⊢;simpa using this
  rw [hr] at hmem;cases hmem
def yG (ops:Array Oper) (L:Nat):Bool:=(List.range L).all fun j=>(List.range (L + 1)).any fun k=>decide (j < k) && (ops[k]?.map (fun o=>o.after.any (fun e=>e.on == j && Region.binds .any e))).getD false
theorem Ib {ops:Array Oper} {L:Nat} (h:yG ops L=true):∀ j,j < L→∃ k o,j < k∧k≤L∧ops[k]?=some o∧∃ e ∈ o.after,e.on=j∧Region.binds .any e=true:=by
 intro j hj;rw [yG,Ub] at h;have h1:=h j (List.mem_range.2 hj);rw [Uo] at h1;obtain ⟨k,hk,h2⟩:=h1;simp only [TU,Ud] at h2;cases ho:ops[k]? with
 | none=>rw [ho] at h2; simp at h2
 | some o =>
  rw [ho] at h2;simp only [Option.map_some,Option.getD_some] at h2;obtain ⟨h3,h4⟩:=h2;rw [Array.any_eq_true'] at h4;obtain ⟨e,he,h5⟩:=h4;simp only [TU,beq_iff_eq] at h5;exact ⟨k,o,h3,by have:=List.mem_range.1 hk; omega,ho,e,he,h5.1,h5.2⟩
def Shut (ops:Array Oper) (listed:Array Bool):Prop:=∀ (k:Nat) (o:Oper),ops[k]?=some o→listed.getD k false=true→∀ e ∈ o.after,Region.binds .any e=true→listed.getD e.on false=true
theorem NL {ops:Array Oper} {listed:Array Bool} {L:Nat} (hlo:yG ops L=true) (hS:Shut ops listed) {o:Oper} (ho:ops[L]?=some o) (hpre:∀ e ∈ o.after,Region.binds .any e=true→listed.getD e.on false=true):∀ d j,j + d=L→j < L→listed.getD j false=true:=by
 intro d
 induction d using Nat.strongRecOn with
 | ind d ih =>
  intro j hjd hj;obtain ⟨k,o',h1,h2,h3,e,he,h4,h5⟩:=Ib hlo j hj;by_cases hk:k=L
  ·subst hk;rw [ho] at h3; injection h3 with h3; subst h3;rw [← h4]; exact hpre e he h5
  have:=ih (L - k) (by omega) k (by omega) (by omega);rw [← h4]; exact hS k o' h3 this e he h5
theorem lZ {id:Nat} {a:Act} {w:af} (L:Nat) (f0:Nat→Value) (F:(Nat→Value)→Act) (V:Nat→Value→World→Prop) (G:Array Bool→World→Prop)
  (hm:P.follows .mixedOrders=true) (hsz:ops.size=L + 1) (Ve:zq ops=true) (hlo:yG ops L=true)
  (h0:a=F f0) (hG0:G (Array.replicate ops.size false) w.drew)
  (hstep:∀ i,i < L→∀ o,ops[i]?=some o→∀ (listed:Array Bool) f w',listed.size=L + 1→listed.getD i true=false→G listed w'→(∀ e ∈ o.after,Region.binds .any e=true→V e.on (f e.on) w') →
   wpOp P ops Q i (fun a' w''=>∃ v,a'=F (upd f i v)∧G (listed.setIfInBounds i true) w''∧V i v w''∧∀ k u,k ≠ i→V k u w'→V k u w'') (F f) w')
  (hfin:∀ o,ops[L]?=some o→∀ (listed:Array Bool) f w',G listed w'→(∀ k,k < L→V k (f k) w')→wpOp P ops Q L (fun a' w''=>Q .normal a' w'') (F f) w') :
  (Code.region id ops true).wp P Q a w:=by
 refine gM (fun listed a' w'=>listed.size=L + 1∧((listed.getD L false=false∧Shut ops listed∧∃ f,a'=F f∧G listed w'∧∀ k,k < L→listed.getD k false=true→V k (f k) w') ∨ ((∀ j,j≤L→listed.getD j true=true)∧Q .normal a' w'))) hm ?_ ?_ ?_
 ·refine ⟨by simpa using hsz,Or.inl ⟨?_,fun k o _ h=>?_,_,h0,hG0,fun k _ h=>?_⟩⟩
  ·rw [Uj,Array.getElem?_replicate]; split <;> rfl
  ·rw [Uj,Array.getElem?_replicate] at h; split at h <;> cases h
  rw [Uj,Array.getElem?_replicate] at h; split at h <;> cases h
 ·rintro listed a' w' ⟨hs,h⟩ i hi;obtain ⟨hl,o,ho,hpre⟩:=mem_ready.1 hi;have hiL:i < L + 1:=by have:=(Array.getElem?_eq_some_iff.1 ho).1; omega
  rcases h with ⟨hn,hS,f,rfl,hG,hV⟩ | ⟨hall,-⟩
  ·by_cases e:i=L
   ·subst e;have hall:∀ k,k < i→listed.getD k false=true:=fun k hk=>NL hlo hS ho hpre (i - k) k (by omega) hk;refine wpOp_mono (fun a'' w'' hq=>⟨by simpa using hs,Or.inr ⟨fun j hj=>?_,hq⟩⟩) (hfin o ho listed f w' hG (fun k hk=>hV k hk (hall k hk)));rw [jZ (by simp; omega),aO _ _ _ (by omega)];by_cases e:j=i
    ·simp [e]
    rw [if_neg e]; exact hall j (by omega)
   refine wpOp_mono ?_ (hstep i (by omega) o ho listed f w' hs hl hG (fun e he hb=>hV e.on (by have:=rq Ve i o ho e he hb; omega) (hpre e he hb)));rintro a'' w'' ⟨v,rfl,hG',hv,hmono⟩;refine ⟨by simpa using hs,Or.inl ⟨?_,fun k o' ho' hkl e' he' hb'=>?_,_,rfl,hG',fun k hk hkl=>?_⟩⟩
   ·rw [aO _ _ _ (by omega),if_neg (Ne.symm e)]; exact hn
   ·rw [aO _ _ _ (by omega)] at hkl ⊢;by_cases ee:e'.on=i
    ·rw [if_pos ee]
    rw [if_neg ee];by_cases ek:k=i
    ·subst ek;rw [ho] at ho'; injection ho' with ho'; subst ho';exact hpre e' he' hb'
    rw [if_neg ek] at hkl;exact hS k o' ho' hkl e' he' hb'
   rw [aO _ _ _ (by omega)] at hkl;by_cases ek:k=i
   ·subst ek; simpa [upd] using hv
   rw [if_neg ek] at hkl;simp only [upd,if_neg ek];exact hmono _ _ ek (hV k hk hkl)
  rw [hall i (by omega)] at hl; cases hl
 rintro listed a' w' ⟨hs,h⟩ hr;rcases h with ⟨hn,-⟩ | ⟨-,hq⟩
 ·have:=qj hr hsz (rq Ve) hs L (by omega);rw [jZ (by omega)] at this;rw [this] at hn; cases hn
 exact hq
open Go.Maps
open Go.ChangeMaps (setBlock heap_setBlock_same heap_setBlock_other)
section
variable {K:Type} {enc:K→Value} {P:Program} {k:TypeId} {w:World} {b n:Nat} {M:K→Option Value}
theorem aM.of_block {w':af} (h:aM enc P k w b n M) (e:w'.heap[b]?=w.heap[b]?):aM enc P k w' b n M:=by
 obtain ⟨D,⟨es,clock,hb,r⟩,h2⟩:=h;exact ⟨D,⟨es,clock,e.trans hb,r⟩,h2⟩
theorem qo {w:af} {b:Nat} {es es':Array MapEntry} {c c':Nat} (hb:w.heap[b]?=some (.map es c)):w.grownBy (setBlock w b (.map es' c')) (some b) :=
 ⟨rfl,rfl,rfl,by simp [setBlock],fun i _ hi=>heap_setBlock_other hb _ (fun e=>hi (by rw [e]))⟩
theorem aM.entry [DecidableEq K] {t e:TypeId} (h:aM enc P k w b n M) (L:WideMaps.KeyLaw P k) (hinj:∀ x y,enc x=enc y→x=y) (ht:P.underlying t=some (.map k e)) {z:Value} (hz:∀ u:World,(zeroValue e).run P u=.ok z u) (hn:n < maxLen) {x:K} {kl:Lit} (hkey:keyOf P k (enc x)=some kl) :
  ∃ (st:Nat) (w1:World),(Instr.mapEntry t (.map (some b)) (enc x)).run P w=.ok (.tuple #[(M x).getD z,goInt st]) w1∧w.grownBy w1 (some b) ∧
   ∀ (w2:World) (val:Value),w2.heap[b]?=w1.heap[b]?→∃ w3,(Instr.entryStore t (.map (some b)) (goInt st) val).run P w2=.ok () w3∧aM enc P k w3 b (n + 1) (kY M x (some val))∧w2.grownBy w3 (some b):=by
 have LK:=Keyed.of_law L;have hlook:=h.look LK ht (hz w) hkey;have hst:=fun v=>h.store LK hinj ht hn hkey v;obtain ⟨D,⟨es,clock,hb,F,hs,hD⟩,h2⟩:=h;obtain ⟨v0,st,es1,clock1,hrun,hv0,hback⟩:=WideElems.entry_then_store L ht hz hb F hkey;have hb1:(setBlock w b (.map es1 clock1)).heap[b]?=some (.map es1 clock1):=heap_setBlock_same hb _;have ev:v0=(M x).getD z:=by
  have hl:=hlook;rcases Maps.fit_look false LK ht (hz w) hb F hkey with ⟨VS,hno,-⟩ | ⟨e0,y,hmem,hek,VS,-,-,-⟩
  ·rw [hl] at VS;injection VS with e1;rcases hv0 with ⟨e0,hm,hk0,-⟩ | ⟨-,hz0⟩
   ·exact absurd hk0 (hno e0 hm)
   rw [hz0,e1]; rfl
  rw [hl] at VS;injection VS with e1;rcases hv0 with ⟨e1',hm,hk0,hv⟩ | ⟨hno,-⟩
  ·have hnd:=F.stamped.2.2;have:e1'=e0:=by
    have h3:e1'.key=e0.key:=by rw [hk0,hek]
    obtain ⟨i,hi,hie⟩:=List.mem_iff_getElem.1 hm;obtain ⟨j,hj,hje⟩:=List.mem_iff_getElem.1 hmem;have h4:(es.toList.map (·.key))[i]'(by simpa using hi)=(es.toList.map (·.key))[j]'(by simpa using hj):=by simp only [List.getElem_map,hie,hje]; exact h3
    have h6:=List.pairwise_iff_getElem.1 hnd;have h5:i=j:=by
     rcases Nat.lt_trichotomy i j with hl | hl | hl
     ·exact absurd h4 (h6 i j _ _ hl)
     ·exact hl
     exact absurd h4.symm (h6 j i _ _ hl)
    subst h5;rw [← hie,← hje]
   rw [hv,this,e1]; rfl
  exact absurd hek (hno e0 hmem)
 refine ⟨st,_,by rw [hrun,ev],qo hb,fun w2 val hw2=>?_⟩;have hw2':w2.heap[b]?=some (.map es1 clock1):=hw2.trans hb1;obtain ⟨es',clock',hr1,hr2⟩:=hback w2 val hw2';obtain ⟨w',hr3,hM',-⟩:=hst val;rw [hr2] at hr3;injection hr3 with _ e3;refine ⟨_,hr1,hM'.of_block ?_,qo hw2'⟩;rw [← e3,heap_setBlock_same hb,heap_setBlock_same hw2']
end
section
variable {K:Type} {enc:K→Value} {P:Program} (w:World) {ops:Array Oper} {rest:List Oper} {o:Oper} {a:Act} {Q:Exit→Act→World→Prop}
theorem Bw [DecidableEq K] (hg:o.guard=none) (m x:Operand) (t:TypeId) (hop:o.op=Op.mapEntry t m x) (k e:TypeId) (L:WideMaps.KeyLaw P k) (hinj:∀ x y,enc x=enc y→x=y) (ht:P.underlying t=some (.map k e)) {z:Value} (hz:∀ u:World,(zeroValue e).run P u=.ok z u) (b n:Nat) (M:K→Option Value)
  (hm:a.eval m=.map (some b)) (hV:aM enc P k w b n M) (hn:n < maxLen) (y:K) (kl:Lit) (hx:a.eval x=enc y) (hkey:keyOf P k (enc y)=some kl)
  (hK:∀ (st:Nat) (w1:World),w.grownBy w1 (some b)→(∀ (w2:World) (val:Value),w2.heap[b]?=w1.heap[b]?→∃ w3,(Instr.entryStore t (.map (some b)) (goInt st) val).run P w2=.ok () w3∧aM enc P k w3 b (n + 1) (kY M y (some val))∧w2.grownBy w3 (some b)) →
   wpList P ops Q rest (a.put o.dst (.tuple #[(M y).getD z,goInt st])) w1):wpList P ops Q (o::rest) a w:=by
 refine wpList_plain hg fun K' hK'=>?_;obtain ⟨st,w1,hrun,h1,h2⟩:=hV.entry L hinj ht hz hn hkey;unfold Oper.wp;simp [execOp,hop,hm,hx,hrun,Result.andThen];exact hK' _ _ (hK st w1 h1 h2)
theorem sS (hg:o.guard=none) (m s v:Operand) (t:TypeId) (hop:o.op=Op.entryStore t m s v) (b st:Nat) (hm:a.eval m=.map (some b)) (hs:a.eval s=goInt st) (u:Value) (hv:a.eval v=u) (k:TypeId) (n:Nat) (M:K→Option Value)
  (hback:∃ w3,(Instr.entryStore t (.map (some b)) (goInt st) u).run P w=.ok () w3∧aM enc P k w3 b n M∧w.grownBy w3 (some b))
  (hK:∀ w',aM enc P k w' b n M→w.grownBy w' (some b)→wpList P ops Q rest (a.put o.dst undef) w'):wpList P ops Q (o::rest) a w:=by
 refine wpList_plain hg fun K' hK'=>?_;obtain ⟨w3,hrun,h1,h2⟩:=hback;unfold Oper.wp;simp [execOp,hop,hm,hs,hv,hrun,Result.andThen];exact hK' _ _ (hK w3 h1 h2)
end
end Go.Proofs.YtajkkeikihhejaaGreat
namespace Go.Proofs.YtajkkeikihhejaaGreat.G
open Go.ChangeShapes Go.WideShapes Go.ChangeAt Go.RowKit Go.Maps
open Pl
variable {K α:Type} {enc:K→Value} {P:Program} {kt et:TypeId} {sz:Nat} {cl:α→List Value}
def FreeB (M:K→Option Value) (g:Nat):Prop:=∀ k v,M k=some v→v.ownBlock ≠ some g
structure Stl (W:World) (M:K→Option Value) (w2:World) (M2:K→Option Value) (bL:Nat):Prop where
 size:W.heap.size≤w2.heap.size
 block:∀ g,g < W.heap.size→g ≠ bL→FreeB M g→w2.heap[g]?=W.heap[g]?
 free:∀ g,g < W.heap.size→FreeB M g→FreeB M2 g
theorem Stl.refl (W:af) (M:K→Option Value) (bL:Nat):Stl W M W M bL:=⟨TS _,fun _ _ _ _=>rfl,fun _ _ h=>h⟩
theorem Stl.trans {W w2 w3:af} {M M2 M3:K→Option Value} {bL:Nat} (h:Stl W M w2 M2 bL) (h2:Stl w2 M2 w3 M3 bL):Stl W M w3 M3 bL where
 size:=TZ h.size h2.size
 block g hg hb hf:=(h2.block g (TP hg h.size) hb (h.free g hg hf)).trans (h.block g hg hb hf)
 free g hg hf:=h2.free g (TP hg h.size) (h.free g hg hf)
theorem Stl.below {W w2:af} {M:K→Option Value} {bL:Nat} (hB:ag W w2):Stl W M w2 M bL:=⟨hB.size,fun g hg _ _=>hB.block g hg,fun _ _ h=>h⟩
structure Cel (w:World) (M:K→Option Value) (bL g o:Nat) (u:Value):Prop where
 cell:w.cell? ⟨g,o,none⟩=some u
 lt:g < w.heap.size
 free:FreeB M g
 ne:g ≠ bL
theorem Cel.stl {w w2:af} {M M2:K→Option Value} {bL g o:Nat} {u:Value} (h:Cel w M bL g o u) (hS:Stl w M w2 M2 bL):Cel w2 M2 bL g o u where
 cell:=(Ul (w:=w) (hS.block g h.lt h.ne h.free)).trans h.cell
 lt:=TP h.lt hS.size
 free:=hS.free g h.lt h.free
 ne:=h.ne
theorem Ic {w w':af} {base:Nat} {e:TypeId} {size:Nat} {v:Value} {n:Nat} {xs:List Value} (h:w.ownsRow base e size v n xs) (hb:ag w w'):w'.ownsRow base e size v n xs:=by
 have hl:=fun g hg=>(h.lt g hg).2;refine ⟨h.1,?_⟩;rcases h.2 with h0 | ⟨g,cap,cur,rfl,h1,h2,h3⟩
 ·exact .inl h0
 exact .inr ⟨g,cap,cur,rfl,h1,(hb.block g (hl g rfl)).trans h2,h3⟩
variable [DecidableEq K]
def flatG (cl:α→List Value) (xs:List α):List Value:=xs.flatMap cl
theorem Ie (cl:α→List Value) (xs:List α) (x:α):flatG cl (xs ++ [x])=flatG cl xs ++ cl x:=by simp [flatG]
def lookL (E:List (K × α)) (k:K):List α:=E.filterMap fun p=>if p.1=k then some p.2 else none
theorem lookL_append (E F:List (K × α)) (k:K):lookL (E ++ F) k=lookL E k ++ lookL F k:=by unfold lookL; rw [List.filterMap_append]
theorem sU (E:List (K × α)) (k:K) (s:α):lookL (E ++ [(k,s)]) k=lookL E k ++ [s]:=by rw [lookL_append]; simp [lookL]
theorem qp (E:List (K × α)) {k y:K} (s:α) (h:k ≠ y):lookL (E ++ [(y,s)]) k=lookL E k:=by rw [lookL_append]; simp [lookL,Ne.symm h]
theorem mem_lookL {E:List (K × α)} {k:K} {s:α}:s ∈ lookL E k ↔ (k,s) ∈ E:=by
 unfold lookL;rw [List.mem_filterMap];constructor
 ·rintro ⟨⟨a,b⟩,h1,h2⟩;simp only at h2;split at h2
  ·rename_i e; injection h2 with h2; rw [← e,← h2]; exact h1
  cases h2
 intro h; exact ⟨(k,s),h,by simp⟩
structure Grp (enc:K→Value) (P:Program) (kt et:TypeId) (sz:Nat) (cl:α→List Value) (w:World) (bL n:Nat) (M:K→Option Value) (E:List (K × α)):Prop where
 map:aM enc P kt w bL n M
 row:∀ k,(M k=none∧lookL E k=[]) ∨ ∃ v,M k=some v∧w.ownsRow (bL + 1) et sz v (lookL E k).length (flatG cl (lookL E k))
 apart:∀ k k' v v',k ≠ k'→M k=some v→M k'=some v'→∀ g,v.ownBlock=some g→v'.ownBlock ≠ some g
theorem Grp.lt {w:af} {bL n:Nat} {M:K→Option Value} {E:List (K × α)} (h:Grp enc P kt et sz cl w bL n M E) {k:K} {v:Value} (hk:M k=some v) {g:Nat} (hg:v.ownBlock=some g):bL < g∧g < w.heap.size:=by
 rcases h.row k with ⟨e,-⟩ | ⟨v',e,ho⟩
 ·rw [e] at hk; cases hk
 rw [e] at hk; injection hk with hk; subst hk;have:=ho.lt g hg;exact ⟨by omega,this.2⟩
theorem Grp.fresh {w:af} {bL n:Nat} {M:K→Option Value} {E:List (K × α)} (h:Grp enc P kt et sz cl w bL n M E) {g:Nat} (hg:w.heap.size≤g):FreeB M g:=fun k v hk e=>by
 have:=(h.lt hk e).2; omega
theorem Grp.mono {w:af} {bL n n':Nat} {M:K→Option Value} {E:List (K × α)} (h:Grp enc P kt et sz cl w bL n M E) (hn:n≤n'):Grp enc P kt et sz cl w bL n' M E:=⟨h.map.mono hn,h.row,h.apart⟩
theorem Grp.below {w w':af} {bL n:Nat} {M:K→Option Value} {E:List (K × α)} (h:Grp enc P kt et sz cl w bL n M E) (hB:ag w w'):Grp enc P kt et sz cl w' bL n M E where
 map:=h.map.below hB
 row k:=by
  rcases h.row k with e | ⟨v,e,ho⟩
  ·exact .inl e
  exact .inr ⟨v,e,Ic ho hB⟩
 apart:=h.apart
theorem grp_made (w:af):Grp enc P kt et sz cl (w.alloc (.map #[] 0)) w.heap.size 0 (fun _=>none) [] where
 map:=nM _ _ _ w
 row k:=.inl ⟨rfl,rfl⟩
 apart k k' v v' _ h:=by cases h
theorem Grp.step {W0 w1 w2 w3:af} {bL n:Nat} {M:K→Option Value} {E:List (K × α)} {y:K} {v':Value} {s:α} (h:Grp enc P kt et sz cl W0 bL n M E) (hg1:W0.grownBy w1 (some bL)) (hown:w2.ownsRow (bL + 1) et sz v' ((lookL E y).length + 1) (flatG cl (lookL E y) ++ cl s))
  (hg2:w1.grownBy w2 ((M y).getD (.slice none 0 0)).ownBlock) (hloc:v'.ownBlock=((M y).getD (.slice none 0 0)).ownBlock ∨ v'.ownBlock=some w1.heap.size) (hg3:w2.grownBy w3 (some bL)) (hM:aM enc P kt w3 bL (n + 1) (kY M y (some v'))) :
  Grp enc P kt et sz cl w3 bL (n + 1) (kY M y (some v')) (E ++ [(y,s)])∧Stl W0 M w3 (kY M y (some v')) bL:=by
 have hrow0:∀ k v,M k=some v→∃ xs m,W0.ownsRow (bL + 1) et sz v m xs:=fun k v hk=>by
  rcases h.row k with ⟨e,-⟩ | ⟨v1,e,ho⟩
  ·rw [e] at hk; cases hk
  rw [e] at hk; injection hk with hk; subst hk; exact ⟨_,_,ho⟩
 have hne2:∀ k v,k ≠ y→M k=some v→v.ownBlock=none ∨ v.ownBlock ≠ ((M y).getD (.slice none 0 0)).ownBlock:=fun k v Zb hk=>by
  cases e:v.ownBlock with
  | none=>exact .inl rfl
  | some g =>
   right;cases ey:M y with
   | none=>simp [Value.ownBlock]
   | some vy=>intro e2; exact h.apart k y v vy Zb hk ey g e (by simpa using e2.symm)
 have hnb:∀ v,(∃ k,M k=some v)→v.ownBlock=none ∨ v.ownBlock ≠ some bL:=fun v ⟨k,hk⟩=>by
  cases e:v.ownBlock with
  | none=>exact .inl rfl
  | some g=>right; have:=(h.lt hk e).1; intro e2; injection e2 with e2; omega
 have hnew:∀ g,v'.ownBlock=some g→bL < g:=fun g e=>by have:=(hown.lt g e).1; omega
 have hv'b:v'.ownBlock=none ∨ v'.ownBlock ≠ some bL:=by
  cases e:v'.ownBlock with
  | none=>exact .inl rfl
  | some g=>right; have:=hnew g e; intro e2; injection e2 with e2; omega
 constructor
 ·refine ⟨hM,fun k=>?_,fun k k' v u hkk hk hk' g e=>?_⟩
  ·by_cases ek:k=y
   ·subst ek;rw [dZ,sU];refine .inr ⟨v',rfl,?_⟩;rw [Ie,T9];exact hown.kept hg3 hv'b
   rw [cz ek,qp _ _ ek];rcases h.row k with e | ⟨v,e,ho⟩
   ·exact .inl e
   exact .inr ⟨v,e,((ho.kept hg1 (hnb v ⟨k,e⟩)).kept hg2 (hne2 k v ek e)).kept hg3 (hnb v ⟨k,e⟩)⟩
  by_cases ek:k=y
  ·subst ek;rw [dZ] at hk; injection hk with hk; subst hk;rw [cz (Ne.symm hkk)] at hk';intro e2;rcases hloc with el | el
   ·rw [e] at el;cases ey:M k with
    | none=>rw [ey] at el; simp [Value.ownBlock] at el
    | some vy=>rw [ey] at el; exact h.apart k k' vy u hkk ey hk' g (by simpa using el.symm) e2
   rw [e] at el; injection el with el;have:=(h.lt hk' e2).2;have:=hg1.size;omega
  rw [cz ek] at hk;by_cases ek':k'=y
  ·subst ek';rw [dZ] at hk'; injection hk' with hk'; subst hk';intro e2;rcases hloc with el | el
   ·rw [e2] at el;cases ey:M k' with
    | none=>rw [ey] at el; simp [Value.ownBlock] at el
    | some vy=>rw [ey] at el; exact h.apart k k' v vy hkk hk ey g e (by simpa using el.symm)
   rw [e2] at el; injection el with el;have:=(h.lt hk e).2;have:=hg1.size;omega
  rw [cz ek'] at hk';exact h.apart k k' v u hkk hk hk' g e
 refine ⟨TZ hg1.size (TZ hg2.size hg3.size),fun g hg hb hf=>?_,fun g hg hf k v hk=>?_⟩
 ·have h1:=hg1.block g hg (fun e=>hb (by injection e));have h2:=hg2.block g (TP hg hg1.size) (fun e=>by
   cases ey:M y with
   | none=>rw [ey] at e; simp [Value.ownBlock] at e
   | some vy=>rw [ey] at e; exact hf y vy ey (by simpa using e.symm))
  have h3:=hg3.block g (TP hg (TZ hg1.size hg2.size)) (fun e=>hb (by injection e));rw [h3,h2,h1]
 by_cases ek:k=y
 ·subst ek;rw [dZ] at hk; injection hk with hk; subst hk;intro e2;rcases hloc with el | el
  ·rw [e2] at el;cases ey:M k with
   | none=>rw [ey] at el; simp [Value.ownBlock] at el
   | some vy=>rw [ey] at el; exact hf k vy ey (by simpa using el.symm)
  rw [e2] at el; injection el with el; have:=hg1.size; omega
 rw [cz ek] at hk;exact hf k v hk
end Go.Proofs.YtajkkeikihhejaaGreat.G
namespace Go.Proofs.YtajkkeikihhejaaGreat
open Go.RowKit
section
variable {P:Program} {ops:Array Oper} {Q:Exit→Act→World→Prop}
theorem pM {id:Nat} {a:Act} {w:af} (L:Nat) (f0:Nat→Value) (F:(Nat→Value)→Act) (I:(Nat→Bool)→(Nat→Value)→World→Prop)
  (hm:P.follows .mixedOrders=true) (hsz:ops.size=L + 1) (Ve:zq ops=true) (hlo:yN ops L=true)
  (h0:a=F f0) (hI0:I (fun _=>false) f0 w.drew)
  (hstep:∀ i,i < L→∀ o,ops[i]?=some o→∀ (l:Nat→Bool) f w',l i=false→I l f w'→(∀ e ∈ o.after,Region.binds .any e=true→l e.on=true) →
   wpOp P ops Q i (fun a' w''=>∃ v,a'=F (upd f i v)∧I (fun k=>if k=i then true else l k) (upd f i v) w'') (F f) w')
  (hfin:∀ o,ops[L]?=some o→∀ (l:Nat→Bool) f w',(∀ k,k < L→l k=true)→I l f w'→wpOp P ops Q L (fun a' w''=>Q .normal a' w'') (F f) w') :
  (Code.region id ops true).wp P Q a w:=by
 refine gM (fun listed a' w'=>listed.size=L + 1∧((listed.getD L false=false∧∃ f,a'=F f∧I (fun k=>listed.getD k false) f w') ∨ ((∀ j,j≤L→listed.getD j true=true)∧Q .normal a' w'))) hm ?_ ?_ ?_
 ·refine ⟨by simpa using hsz,Or.inl ⟨?_,_,h0,?_⟩⟩
  ·rw [Uj,Array.getElem?_replicate]; split <;> rfl
  have:(fun k=>(Array.replicate ops.size false).getD k false)=fun _=>false:=funext fun k=>by rw [Uj,Array.getElem?_replicate]; split <;> rfl
  rw [this]; exact hI0
 ·rintro listed a' w' ⟨hs,h⟩ i hi;obtain ⟨hl,o,ho,hpre⟩:=mem_ready.1 hi;have hiL:i < L + 1:=by have:=(Array.getElem?_eq_some_iff.1 ho).1; omega
  rcases h with ⟨hn,f,rfl,hI⟩ | ⟨hall,-⟩
  ·by_cases e:i=L
   ·subst e;have hall:∀ k,k < i→listed.getD k false=true:=fun k hk=>by
     obtain ⟨e,he,rfl,hb⟩:=Cb hlo o ho k hk;exact hpre e he hb
    refine wpOp_mono (fun a'' w'' hq=>⟨by simpa using hs,Or.inr ⟨fun j hj=>?_,hq⟩⟩) (hfin o ho _ f w' hall hI);rw [jZ (by simp; omega),aO _ _ _ (by omega)];by_cases e:j=i
    ·simp [e]
    rw [if_neg e]; exact hall j (by omega)
   refine wpOp_mono ?_ (hstep i (by omega) o ho _ f w' (by rw [← jZ (by omega)]; exact hl) hI (fun e he hb=>hpre e he hb));rintro a'' w'' ⟨v,rfl,hI'⟩;refine ⟨by simpa using hs,Or.inl ⟨?_,_,rfl,?_⟩⟩
   ·rw [aO _ _ _ (by omega),if_neg (Ne.symm e)]; exact hn
   have:(fun k=>(listed.setIfInBounds i true).getD k false)=fun k=>if k=i then true else listed.getD k false:=funext fun k=>aO _ _ _ (by omega)
   rw [this]; exact hI'
  rw [hall i (by omega)] at hl; cases hl
 rintro listed a' w' ⟨hs,h⟩ hr;rcases h with ⟨hn,-⟩ | ⟨-,hq⟩
 ·have:=qj hr hsz (rq Ve) hs L (by omega);rw [jZ (by omega)] at this;rw [this] at hn; cases hn
 exact hq
end
end Go.Proofs.YtajkkeikihhejaaGreat
namespace Go.Proofs.YtajkkeikihhejaaGreat.G
set_option linter.unusedVariables false
open Go.ChangeShapes Go.WideShapes Go.ChangeAt Go.RowKit Go.Maps
open Pl
def Back {K:Type} [DecidableEq K] (enc:K→Value) (P:Program) (kt t:TypeId) (bp n:Nat) (M:K→Option Value) (y:K) (st:Nat) (w:World):Prop :=
 ∀ (w2:World) (val:Value),w2.heap[bp]?=w.heap[bp]?→∃ w3,(Instr.entryStore t (.map (some bp)) (goInt st) val).run P w2=.ok () w3∧aM enc P kt w3 bp (n + 1) (kY M y (some val))∧w2.grownBy w3 (some bp)
def put (l:Nat→Bool) (i:Nat):Nat→Bool:=fun k=>if k=i then true else l k
structure EA (C:Nat→Value) (NEW:Array Value) (et:TypeId) (W:World) (l:Nat→Bool) (f:Nat→Value) (w:World):Prop where
 late:∀ k,7≤k→k≤10→l k=false
 bel:ag W w
 val:∀ k,k≤5→l k=true→f k=C k
 row:l 6=true→∃ g,f 6=.slice (some ⟨g,0,none⟩) 1 1∧W.heap.size≤g∧w.heap[g]?=some (.cells NEW et (0,0))
structure EB (C:Nat→Value) (NEW:Array Value) (et:TypeId) (W:World) (bp:Nat) (row0:Value) (BK:Nat→World→Prop) (l:Nat→Bool) (f:Nat→Value) (w:World):Prop where
 low:∀ k,k≤7→l k=true
 l9:l 9=false
 val:∀ k,k≤5→f k=C k
 mid:∃ (W0:World) (st g:Nat),ag W W0∧f 6=.slice (some ⟨g,0,none⟩) 1 1∧W.heap.size≤g∧W0.heap[g]?=some (.cells NEW et (0,0))∧W0.grownBy w (some bp)∧f 7=.tuple #[row0,goInt st]∧BK st w∧(l 8=true→f 8=row0)∧(l 10=true→f 10=goInt st)
structure EC (C:Nat→Value) (NEW:Array Value) (et:TypeId) (sz:Nat) (W:World) (bp:Nat) (row0:Value) (nn:Nat) (xs:List Value) (BK:Nat→World→Prop) (l:Nat→Bool) (f:Nat→Value) (w:World):Prop where
 low:∀ k,k≤9→l k=true
 val:∀ k,k≤5→f k=C k
 mid:∃ (W0 w1:World) (st:Nat),ag W W0∧W0.grownBy w1 (some bp)∧w1.grownBy w row0.ownBlock∧w.ownsRow (bp + 1) et sz (f 9) (nn + 1) (xs ++ NEW.toList)∧((f 9).ownBlock=row0.ownBlock ∨ (f 9).ownBlock=some w1.heap.size)∧BK st w1∧f 7=.tuple #[row0,goInt st]∧(l 10=true→f 10=goInt st)
def EI (C:Nat→Value) (NEW:Array Value) (et:TypeId) (sz:Nat) (W:World) (bp:Nat) (row0:Value) (nn:Nat) (xs:List Value) (BK:Nat→World→Prop) (l:Nat→Bool) (f:Nat→Value) (w:World):Prop :=
 EA C NEW et W l f w ∨ EB C NEW et W bp row0 BK l f w ∨ EC C NEW et sz W bp row0 nn xs BK l f w
section
variable {C:Nat→Value} {NEW:Array Value} {et:TypeId} {sz:Nat} {W:World} {bp:Nat} {row0:Value} {nn:Nat} {xs:List Value} {BK:Nat→World→Prop} {l:Nat→Bool} {f:Nat→Value} {w:World}
theorem ei_start (W:af):EI C NEW et sz W bp row0 nn xs BK (fun _=>false) f W.drew:=.inl ⟨fun _ _ _=>rfl,(TT _ _).drew,fun _ _ h=>(by cases h),fun h=>(by cases h)⟩
theorem EI.early (h:EI C NEW et sz W bp row0 nn xs BK l f w) {i:Nat} (hi:i≤7) (hl:l i=false):EA C NEW et W l f w:=by
 rcases h with h | h | h
 ·exact h
 ·rw [h.low i hi] at hl; cases hl
 rw [h.low i (by omega)] at hl; cases hl
theorem EA.put {i:Nat} (h:EA C NEW et W l f w) (hi:i≤5) {v:Value} (hv:v=C i):EI C NEW et sz W bp row0 nn xs BK (fun k=>if k=i then true else l k) (upd f i v) w:=by
 refine .inl ⟨fun k h7 h10=>?_,h.bel,fun k hk hl=>?_,fun hl=>?_⟩
 ·show (if _=_ then true else _)=_; rw [if_neg (by omega)]; exact h.late k h7 h10
 ·by_cases e:k=i
  ·subst e; simp [upd,hv]
  simp only [if_neg e] at hl;simp only [upd,if_neg e]; exact h.val k hk hl
 replace hl:(if _=_ then true else _)=true:=hl;rw [if_neg (by omega)] at hl;simp only [upd];rw [if_neg (by omega)];exact h.row hl
theorem EA.lay (h:EA C NEW et W l f w):EI C NEW et sz W bp row0 nn xs BK (fun k=>if k=6 then true else l k) (upd f 6 (.slice (some ⟨w.heap.size,0,none⟩) 1 1)) (w.alloc (.cells NEW et)):=by
 refine .inl ⟨fun k h7 h10=>?_,h.bel.alloc h.bel.size _,fun k hk hl=>?_,fun _=>⟨w.heap.size,by simp [upd],h.bel.size,heap_alloc_new w _⟩⟩
 ·show (if _=_ then true else _)=_; rw [if_neg (by omega)]; exact h.late k h7 h10
 replace hl:(if _=_ then true else _)=true:=hl;rw [if_neg (by omega)] at hl;simp only [upd];rw [if_neg (by omega)]; exact h.val k hk hl
theorem EA.took (h:EA C NEW et W l f w) (hall:∀ k,k≤6→l k=true) {st:Nat} {w1:af} (hg:w.grownBy w1 (some bp)) (hb:BK st w1):EI C NEW et sz W bp row0 nn xs BK (fun k=>if k=7 then true else l k) (upd f 7 (.tuple #[row0,goInt st])) w1:=by
 obtain ⟨g,e6,XV,hc⟩:=h.row (hall 6 (by omega));refine .inr (.inl ⟨fun k hk=>?_,?_,fun k hk=>?_,w,st,g,h.bel,?_,XV,hc,hg,?_,hb,fun h8=>?_,fun h10=>?_⟩)
 ·by_cases e:k=7
  ·simp [e]
  simp only [if_neg e]; exact hall k (by omega)
 ·show (if (9:Nat)=7 then true else l 9)=false;rw [if_neg (by omega)]; exact h.late 9 (by omega) (by omega)
 ·simp only [upd]; rw [if_neg (by omega)]; exact h.val k hk (hall k (by omega))
 ·simp only [upd]; rw [if_neg (by omega)]; exact e6
 ·simp [upd]
 ·have:(if (8:Nat)=7 then true else l 8)=true:=h8;rw [if_neg (by omega),h.late 8 (by omega) (by omega)] at this; cases this
 have:(if (10:Nat)=7 then true else l 10)=true:=h10;rw [if_neg (by omega),h.late 10 (by omega) (by omega)] at this; cases this
theorem EI.midB (h:EI C NEW et sz W bp row0 nn xs BK l f w) (h7:l 7=true) {i:Nat} (hi:i≤9) (hl:l i=false):EB C NEW et W bp row0 BK l f w:=by
 rcases h with h | h | h
 ·rw [h.late 7 (by omega) (by omega)] at h7; cases h7
 ·exact h
 rw [h.low i hi] at hl; cases hl
theorem EI.seven (h:EI C NEW et sz W bp row0 nn xs BK l f w) (h7:l 7=true):∃ st:Nat,f 7=.tuple #[row0,goInt st]:=by
 rcases h with h | h | h
 ·rw [h.late 7 (by omega) (by omega)] at h7; cases h7
 ·obtain ⟨_,st,_,_,_,_,_,_,e,_⟩:=h.mid; exact ⟨st,e⟩
 obtain ⟨_,_,st,_,_,_,_,_,_,e,_⟩:=h.mid; exact ⟨st,e⟩
theorem EB.first (h:EB C NEW et W bp row0 BK l f w):EI C NEW et sz W bp row0 nn xs BK (fun k=>if k=8 then true else l k) (upd f 8 row0) w:=by
 obtain ⟨W0,st,g,h1,h2,h3,h4,h5,h6,h7,h8,h9⟩:=h.mid;refine .inr (.inl ⟨fun k hk=>?_,?_,fun k hk=>?_,W0,st,g,h1,?_,h3,h4,h5,?_,h7,fun _=>?_,fun h10=>?_⟩)
 ·show (if _=_ then true else _)=_; rw [if_neg (by omega)]; exact h.low k hk
 ·show (if (9:Nat)=8 then true else l 9)=false;rw [if_neg (by omega)]; exact h.l9
 ·simp only [upd]; rw [if_neg (by omega)]; exact h.val k hk
 ·simp only [upd]; rw [if_neg (by omega)]; exact h2
 ·simp only [upd]; rw [if_neg (by omega)]; exact h6
 ·simp [upd]
 have Zc:(if (10:Nat)=8 then true else l 10)=true:=h10;rw [if_neg (by omega)] at Zc;simp only [upd]; rw [if_neg (by omega)]; exact h9 Zc
theorem EI.second (h:EI C NEW et sz W bp row0 nn xs BK l f w) (h7:l 7=true) {st:Nat} (e:f 7=.tuple #[row0,goInt st]):EI C NEW et sz W bp row0 nn xs BK (fun k=>if k=10 then true else l k) (upd f 10 (goInt st)) w:=by
 have same:∀ st':Nat,.tuple #[row0,goInt st']=Value.tuple #[row0,goInt st]→goInt st'=goInt st:=fun st' e=>by
  injection e with e;have:=congrArg Array.toList e;simp only [List.cons.injEq] at this;exact this.2.1
 rcases h with h | h | h
 ·rw [h.late 7 (by omega) (by omega)] at h7; cases h7
 ·obtain ⟨W0,st',g,h1,h2,h3,h4,h5,h6,hb,h8,h9⟩:=h.mid;have es:=same st' (h6.symm.trans e);refine .inr (.inl ⟨fun k hk=>?_,?_,fun k hk=>?_,W0,st',g,h1,?_,h3,h4,h5,?_,hb,fun h8'=>?_,fun _=>?_⟩)
  ·show (if _=_ then true else _)=_; rw [if_neg (by omega)]; exact h.low k hk
  ·show (if (9:Nat)=10 then true else l 9)=false;rw [if_neg (by omega)]; exact h.l9
  ·simp only [upd]; rw [if_neg (by omega)]; exact h.val k hk
  ·simp only [upd]; rw [if_neg (by omega)]; exact h2
  ·simp only [upd]; rw [if_neg (by omega)]; exact h6
  ·have h8'':(if (8:Nat)=10 then true else l 8)=true:=h8';rw [if_neg (by omega)] at h8'';simp only [upd]; rw [if_neg (by omega)]; exact h8 h8''
  simp [upd,es]
 obtain ⟨W0,w1,st',h1,h2,h3,h4,h5,hb,h6,h9⟩:=h.mid;have es:=same st' (h6.symm.trans e);refine .inr (.inr ⟨fun k hk=>?_,fun k hk=>?_,W0,w1,st',h1,h2,h3,?_,?_,hb,?_,fun _=>?_⟩)
 ·show (if _=_ then true else _)=_; rw [if_neg (by omega)]; exact h.low k hk
 ·simp only [upd]; rw [if_neg (by omega)]; exact h.val k hk
 ·simp only [upd]; rw [if_neg (by omega)]; exact h4
 ·simp only [upd]; rw [if_neg (by omega)]; exact h5
 ·simp only [upd]; rw [if_neg (by omega)]; exact h6
 simp [upd,es]
theorem EB.app (h:EB C NEW et W bp row0 BK l f w) (h8:l 8=true) {v':Value} {w':af} (hg:w.grownBy w' row0.ownBlock) (ho:w'.ownsRow (bp + 1) et sz v' (nn + 1) (xs ++ NEW.toList)) (hloc:v'.ownBlock=row0.ownBlock ∨ v'.ownBlock=some w.heap.size):EI C NEW et sz W bp row0 nn xs BK (fun k=>if k=9 then true else l k) (upd f 9 v') w':=by
 obtain ⟨W0,st,g,h1,h2,h3,h4,h5,h6,hb,_,h9⟩:=h.mid;refine .inr (.inr ⟨fun k hk=>?_,fun k hk=>?_,W0,w,st,h1,h5,hg,?_,?_,hb,?_,fun h10=>?_⟩)
 ·by_cases e:k=9
  ·simp [e]
  by_cases e8:k=8
  ·simp only [if_neg e]; rw [e8]; exact h8
  simp only [if_neg e]; exact h.low k (by omega)
 ·simp only [upd]; rw [if_neg (by omega)]; exact h.val k hk
 ·simp only [upd,if_true]; exact ho
 ·simp only [upd,if_true]; exact hloc
 ·simp only [upd]; rw [if_neg (by omega)]; exact h6
 have Zc:(if (10:Nat)=9 then true else l 10)=true:=h10;rw [if_neg (by omega)] at Zc;simp only [upd]; rw [if_neg (by omega)]; exact h9 Zc
theorem EI.last (h:EI C NEW et sz W bp row0 nn xs BK l f w) (hall:∀ k,k < 11→l k=true):EC C NEW et sz W bp row0 nn xs BK l f w:=by
 rcases h with h | h | h
 ·have:=hall 7 (by omega); rw [h.late 7 (by omega) (by omega)] at this; cases this
 ·have:=hall 9 (by omega); rw [h.l9] at this; cases this
 exact h
end
end Go.Proofs.YtajkkeikihhejaaGreat.G
namespace Go.Proofs.YtajkkeikihhejaaGreat
open Go.ChangeShapes Go.WideShapes Go.ChangeAt Go.RowKit Go.Maps
abbrev K3:=ByteArray × ByteArray × ByteArray
def qw (k:K3):Value:=.agg #[.string k.1,.string k.2.1,.string k.2.2]
theorem NM (x y:K3) (h:qw x=qw y):x=y:=by
 unfold qw at h;injection h with h;have h1:=congrArg Array.toList h;simp at h1;exact Prod.ext h1.1 (Prod.ext h1.2.1 h1.2.2)
theorem Tj:(223:TypeId) < prog.types.size:=of_decide_eq_true (by kernel_rfl)
theorem R8:(match prog.underlying 223 with | some (.array _ _) | some (.struct _)=>true | _=>false)=true:=by rw [underlying223]
set_option maxRecDepth 100000 in
theorem NN:WideMaps.KeyLaw prog 223:=deep_law_laid yY (m:=3) (by omega) Tj (by kernel_rfl) R8
theorem Rp:Keyed prog 223:=Keyed.of_law NN
theorem R9:prog.keyType 223=true:=by kernel_rfl
theorem Kh:prog.cellsOf 223=3:=by kernel_rfl
theorem KW:prog.cellsOf 27=2:=by kernel_rfl
theorem KX:2≤prog.types.size:=of_decide_eq_true (by kernel_rfl)
theorem zt:∃ n,prog.types.size=n + 2:=⟨prog.types.size - 2,by have:=KX; omega⟩
set_option maxRecDepth 100000 in
theorem D9 (k:K3) (h0:k.1.size≤maxLen) (h1:k.2.1.size≤maxLen) (h2:k.2.2.size≤maxLen):∃ kl,keyOf prog 223 (qw k)=some kl:=by
 obtain ⟨n,hn⟩:=zt;refine ⟨.string (keyBytes [.string k.1.data.toList,.string k.2.1.data.toList,.string k.2.2.data.toList]),?_⟩;unfold keyOf;rw [underlying223];simp only [R9,qw,Value.formed,underlying223,Kh,hn,Value.cells];simp +decide [Program.keyLits,underlying223,underlying27,underlying9,Kh,KW,strCells,h0,h1,h2]
abbrev KL:=ByteArray × Int
def FK (k:KL):Value:=.agg #[.string k.1,.int .i64 k.2]
theorem NP (x y:KL) (h:FK x=FK y):x=y:=by
 unfold FK at h;injection h with h;have h1:=congrArg Array.toList h;simp at h1;exact Prod.ext h1.1 h1.2
theorem Tk:(172:TypeId) < prog.types.size:=of_decide_eq_true (by kernel_rfl)
theorem Sa:(match prog.underlying 172 with | some (.array _ _) | some (.struct _)=>true | _=>false)=true:=by rw [underlying172]
set_option maxRecDepth 100000 in
theorem NQ:WideMaps.KeyLaw prog 172:=deep_law_laid yY (m:=2) (by omega) Tk (by kernel_rfl) Sa
theorem Tm:Keyed prog 172:=Keyed.of_law NQ
theorem Sb:prog.keyType 172=true:=by kernel_rfl
theorem Ki:prog.cellsOf 172=2:=by kernel_rfl
theorem NR:prog.cellsOf 2=1:=by kernel_rfl
set_option maxRecDepth 100000 in
theorem Kj (k:KL) (h0:k.1.size≤maxLen) (h1:0≤k.2) (h2:k.2≤1000000):∃ kl,keyOf prog 172 (FK k)=some kl:=by
 have hw:(Lit.int .i64 k.2).wf=true:=WalkArith.wf_i64 ⟨by omega,by omega⟩;obtain ⟨n,hn⟩:=zt;refine ⟨.string (keyBytes [.string k.1.data.toList,.int .i64 k.2]),?_⟩;unfold keyOf;rw [underlying172];simp only [Sb,FK,Value.formed,underlying172,Ki,hn,Value.cells];simp +decide [Program.keyLits,underlying172,underlying2,underlying9,Ki,NR,strCells,h0,hw]
section
variable {P:Program} {ops:Array Oper} {Q:Exit→Act→World→Prop}
theorem jT {id:Nat} {a:Act} {w:af} (L:Nat) (f0:Nat→Value) (F:(Nat→Value)→Act) (I:(Nat→Bool)→(Nat→Value)→World→Prop)
  (hm:P.follows .mixedOrders=true) (hsz:ops.size=L + 1) (Ve:zq ops=true)
  (hcl:∀ o,ops[L]?=some o→∀ (l:Nat→Bool) f w',I l f w'→(∀ e ∈ o.after,Region.binds .any e=true→l e.on=true)→∀ k,k < L→l k=true)
  (h0:a=F f0) (hI0:I (fun _=>false) f0 w.drew)
  (hstep:∀ i,i < L→∀ o,ops[i]?=some o→∀ (l:Nat→Bool) f w',l i=false→I l f w'→(∀ e ∈ o.after,Region.binds .any e=true→l e.on=true) →
   wpOp P ops Q i (fun a' w''=>∃ v,a'=F (upd f i v)∧I (fun k=>if k=i then true else l k) (upd f i v) w'') (F f) w')
  (hfin:∀ o,ops[L]?=some o→∀ (l:Nat→Bool) f w',(∀ k,k < L→l k=true)→I l f w'→wpOp P ops Q L (fun a' w''=>Q .normal a' w'') (F f) w') :
  (Code.region id ops true).wp P Q a w:=by
 refine gM (fun listed a' w'=>listed.size=L + 1∧((listed.getD L false=false∧∃ f,a'=F f∧I (fun k=>listed.getD k false) f w') ∨ ((∀ j,j≤L→listed.getD j true=true)∧Q .normal a' w'))) hm ?_ ?_ ?_
 ·refine ⟨by simpa using hsz,Or.inl ⟨?_,_,h0,?_⟩⟩
  ·rw [Uj,Array.getElem?_replicate]; split <;> rfl
  have:(fun k=>(Array.replicate ops.size false).getD k false)=fun _=>false:=funext fun k=>by rw [Uj,Array.getElem?_replicate]; split <;> rfl
  rw [this]; exact hI0
 ·rintro listed a' w' ⟨hs,h⟩ i hi;obtain ⟨hl,o,ho,hpre⟩:=mem_ready.1 hi;have hiL:i < L + 1:=by have:=(Array.getElem?_eq_some_iff.1 ho).1; omega
  rcases h with ⟨hn,f,rfl,hI⟩ | ⟨hall,-⟩
  ·by_cases e:i=L
   ·subst e;have hall:∀ k,k < i→listed.getD k false=true:=hcl o ho _ f w' hI (fun e he hb=>hpre e he hb);refine wpOp_mono (fun a'' w'' hq=>⟨by simpa using hs,Or.inr ⟨fun j hj=>?_,hq⟩⟩) (hfin o ho _ f w' hall hI);rw [jZ (by simp; omega),aO _ _ _ (by omega)];by_cases e:j=i
    ·simp [e]
    rw [if_neg e]; exact hall j (by omega)
   refine wpOp_mono ?_ (hstep i (by omega) o ho _ f w' (by rw [← jZ (by omega)]; exact hl) hI (fun e he hb=>hpre e he hb));rintro a'' w'' ⟨v,rfl,hI'⟩;refine ⟨by simpa using hs,Or.inl ⟨?_,_,rfl,?_⟩⟩
   ·rw [aO _ _ _ (by omega),if_neg (Ne.symm e)]; exact hn
   have:(fun k=>(listed.setIfInBounds i true).getD k false)=fun k=>if k=i then true else listed.getD k false:=funext fun k=>aO _ _ _ (by omega)
   rw [this]; exact hI'
  rw [hall i (by omega)] at hl; cases hl
 rintro listed a' w' ⟨hs,h⟩ hr;rcases h with ⟨hn,-⟩ | ⟨-,hq⟩
 ·have:=qj hr hsz (rq Ve) hs L (by omega);rw [jZ (by omega)] at this;rw [this] at hn; cases hn
 exact hq
end
end Go.Proofs.YtajkkeikihhejaaGreat
namespace Go.Proofs.YtajkkeikihhejaaGreat.G
set_option linter.unusedVariables false
open Go.ChangeShapes Go.WideShapes Go.ChangeAt Go.RowKit
structure WI (C:Nat→Value) (W:World) (CD:Value→World→Prop) (l:Nat→Bool) (f:Nat→Value) (w:World):Prop where
 val:∀ k,k≤9→k ≠ 7→l k=true→f k=C k
 seq:l 7=true→l 4=true∧l 6=true
 nin:l 9=true→l 8=true
 mid:(l 7=false∧ag W w) ∨ (l 7=true∧CD (f 7) w)
section
variable {C:Nat→Value} {W:World} {CD:Value→World→Prop} {l:Nat→Bool} {f:Nat→Value} {w:World}
theorem wi_start (W:af):WI C W CD (fun _=>false) f W.drew:=⟨fun _ _ _ h=>(by cases h),fun h=>(by cases h),fun h=>(by cases h),.inl ⟨rfl,(TT _ _).drew⟩⟩
theorem WI.put (h:WI C W CD l f w) {i:Nat} (hi:i ≠ 7) (h9:i=9→l 8=true) {v:Value} (hv:v=C i):WI C W CD (fun k=>if k=i then true else l k) (upd f i v) w:=by
 refine ⟨fun k hk h7 hl=>?_,fun hl=>?_,fun hl=>?_,?_⟩
 ·by_cases e:k=i
  ·subst e; simp [upd,hv]
  simp only [if_neg e] at hl;simp only [upd,if_neg e]; exact h.val k hk h7 hl
 ·have hl':(if (7:Nat)=i then true else l 7)=true:=hl;rw [if_neg (Ne.symm hi)] at hl';have:=h.seq hl';constructor
  ·show (if (4:Nat)=i then true else l 4)=true; rw [this.1]; split <;> rfl
  show (if (6:Nat)=i then true else l 6)=true; rw [this.2]; split <;> rfl
 ·have hl':(if (9:Nat)=i then true else l 9)=true:=hl;show (if (8:Nat)=i then true else l 8)=true;by_cases e:(9:Nat)=i
  ·rw [h9 e.symm]; split <;> rfl
  rw [if_neg e] at hl'; rw [h.nin hl']; split <;> rfl
 have e7:(if (7:Nat)=i then true else l 7)=l 7:=if_neg (Ne.symm hi);have f7:upd f i v 7=f 7:=by simp only [upd]; rw [if_neg (Ne.symm hi)]
 rcases h.mid with ⟨h1,h2⟩ | ⟨h1,h2⟩
 ·exact .inl ⟨e7.trans h1,h2⟩
 exact .inr ⟨e7.trans h1,by rw [f7]; exact h2⟩
theorem WI.before (h:WI C W CD l f w) (hl:l 7=false):ag W w:=by
 rcases h.mid with ⟨_,h2⟩ | ⟨h1,_⟩
 ·exact h2
 rw [h1] at hl; cases hl
theorem WI.early (h:WI C W CD l f w) (hl:l 4=false ∨ l 6=false):ag W w:=by
 refine h.before ?_;cases h7:l 7;case false=>rfl
 obtain ⟨h4,h6⟩:=h.seq h7;rcases hl with e | e
 ·rw [h4] at e; cases e
 rw [h6] at e; cases e
theorem WI.call (h:WI C W CD l f w) (h4:l 4=true) (h6:l 6=true) {v:Value} {w':af} (hc:CD v w'):WI C W CD (fun k=>if k=7 then true else l k) (upd f 7 v) w':=by
 refine ⟨fun k hk h7 hl=>?_,fun _=>⟨by simp [h4],by simp [h6]⟩,fun hl=>h.nin hl,.inr ⟨by simp,by simp only [upd,if_true]; exact hc⟩⟩;simp only [if_neg h7] at hl;simp only [upd,if_neg h7]; exact h.val k hk h7 hl
theorem WI.last (h:WI C W CD l f w) (hall:∀ k,k < 10→l k=true):(∀ k,k≤9→k ≠ 7→f k=C k)∧CD (f 7) w:=by
 refine ⟨fun k hk h7=>h.val k hk h7 (hall k (by omega)),?_⟩;rcases h.mid with ⟨h1,_⟩ | ⟨_,h2⟩
 ·rw [hall 7 (by omega)] at h1; cases h1
 exact h2
end
end Go.Proofs.YtajkkeikihhejaaGreat.G
