/- The text of an expression, in plain words; how long it can be. -/
import Derived.Test.YtajkkeikihhejaaGreatSq
import Derived.Test.YtajkkeikihhejaaGreatJ6
import Derived.Lib.Join
open Go.Proofs.Tryz
set_option maxHeartbeats 80000000
namespace Go.Proofs.YtajkkeikihhejaaGreat
open Pl
theorem jc {a b:ByteArray} (h:a.data.toList=b.data.toList):a=b:=by
 cases a; cases b; congr; exact Array.toList_inj.1 h
def fw (sep:ByteArray) (xs:List ByteArray):ByteArray:=⟨(Lib.join (xs.map (·.data.toList)) sep.data.toList).toArray⟩
theorem Ck (sep:bH):fw sep []=⟨#[]⟩:=rfl
theorem inter_snoc {α:Type} (s:List α):∀ (l:List (List α)) (x:List α),s.intercalate (l ++ [x])=if l=[] then x else s.intercalate l ++ (s ++ x)
 | [],x=>by simp [List.intercalate]
 | [a],x=>by simp [List.intercalate]
 | a::b::l,x=>by
  have ih:=inter_snoc s (b::l) x;simp only [List.cons_append,List.intercalate,List.intersperse,reduceCtorEq,if_false] at ih ⊢;simp only [List.flatten_cons] at ih ⊢;rw [ih];simp
theorem oM (sep:bH) (xs:List ByteArray) (x:bH):fw sep (xs ++ [x])=if xs=[] then x else fw sep xs ++ sep ++ x:=by
 apply jc;unfold fw Lib.join;rw [List.map_append,List.map_cons,List.map_nil,inter_snoc];by_cases h:xs=[]
 ·simp [h]
 simp [h,ByteArray.data_append]
theorem oN (sep:bH) (b:Nat):∀ (n:Nat) (xs:List ByteArray),xs.length=n→(∀ x ∈ xs,x.size≤b)→(fw sep xs).size≤n * (b + sep.size)
 | 0,xs,hn,_=>by
  have:xs=[]:=List.eq_nil_of_length_eq_zero hn;subst this;simp [Ck];rfl
 | n + 1,xs,hn,hx=>by
  obtain ⟨ys,y,rfl⟩:∃ ys y,xs=ys ++ [y]:=by
   have hne:xs ≠ []:=by intro e; simp [e] at hn
   exact ⟨xs.dropLast,xs.getLast hne,(List.dropLast_concat_getLast hne).symm⟩
  have hl:ys.length=n:=by simp at hn; exact hn
  have ih:=oN sep b n ys hl (fun x h=>hx x (by simp [h]));have hy:=hx y (by simp);rw [oM,Nat.succ_mul];by_cases h:ys=[]
  ·rw [if_pos h]; omega
  rw [if_neg h,Uh,Uh]; omega
def fG (a:Al):ByteArray:=if a.s.toList.isEmpty then a.t else a.t ++ ⟨#[35]⟩ ++ a.s
def uu (xs:List Al):ByteArray:=⟨#[116,104,105,115,40]⟩ ++ fw ⟨#[44]⟩ (xs.map fG) ++ ⟨#[41]⟩
def gG (k:Int):ByteArray:=if k=4 then ⟨#[32,124,32]⟩ else if k=5 then ⟨#[32,38,32]⟩ else ⟨#[32,45,32]⟩
theorem lX (k:Int):(gG k).size=3:=by
 unfold gG;split
 ·rfl
 split <;> rfl
def lY (f:Int→ByteArray) (e:Ex):ByteArray :=
 if e.kind=1 then uu e.allow else if e.kind=2 then e.name else if e.kind=3 then e.over ++ ⟨#[45,62]⟩ ++ e.name else fw (gG e.kind) (e.kids.map f)
def inT (e:Ex) (inside:Bool) (t:ByteArray):ByteArray:=if inside && !(decide (e.kind=1) || decide (e.kind=2) || decide (e.kind=3)) then ⟨#[40]⟩ ++ t ++ ⟨#[41]⟩ else t
def D5 (es:List Ex) (n:Nat):Ex:=es[n]?.getD ⟨0,[],⟨#[]⟩,⟨#[]⟩,[]⟩
def txt (es:List Ex) (n:Nat):ByteArray:=inT (D5 es n) true (lY (fun x=>if _h:x.toNat < n then txt es x.toNat else ⟨#[]⟩) (D5 es n))
def jy (es:List Ex) (n:Nat) (x:Int):ByteArray:=if x.toNat < n then txt es x.toNat else ⟨#[]⟩
def iP (es:List Ex) (n:Nat) (inside:Bool):ByteArray:=inT (D5 es n) inside (lY (jy es n) (D5 es n))
theorem D6 (es:List Ex) (n:Nat):txt es n=iP es n true:=by
 rw [txt]; rfl
def yX:Nat→Nat
 | 0=>200
 | n + 1=>yX n * 6
theorem Ka (n:Nat):200≤yX n:=by
 induction n with
 | zero=>exact TS _
 | succ n ih=>simp only [yX]; omega
theorem Cm {m n:Nat} (h:m≤n):yX m≤yX n:=by
 induction h with
 | refl=>exact TS _
 | step _ ih=>simp only [yX]; omega
theorem Qf:yX 14≤20000000000000:=by decide
theorem bQ {s:ByteArray} (h:aP s=true):s.size≤12:=by
 simp only [aP,dL,nG,TU,Ud] at h;exact h.1.1.2
theorem yY {s:ByteArray} (h:ul s=true):s.size≤12:=by
 unfold ul at h;rw [Bool.or_eq_true] at h;rcases h with h | h
 ·have h2:s.data.toList=[]:=by rw [Go.ByteArray.toList_eq] at h; simpa using h
  have h3:s.data.toList.length=0:=by rw [h2]; rfl
  have:s.size=s.data.toList.length:=rfl;omega
 exact bQ h
theorem yH {xs:List Al}:∀ {k:Nat},DZ xs k=true→∀ (i:Nat) (h:i < xs.length),i < k→Fz xs[i]=true
 | 0,_,i,_,hi=>by omega
 | k + 1,hk,i,h,hi=>by
  unfold DZ at hk;rw [TU] at hk;by_cases e:i=k
  ·subst e;have:=hk.2;simp only [TY h,Option.map_some,Option.getD_some,TU] at this;exact this.1
  exact yH hk.1 i h (by omega)
theorem qc {a:Al} (h:Fz a=true):(fG a).size≤25:=by
 unfold Fz at h;rw [TU] at h;have h1:=bQ h.1;have h2:=yY h.2;have e1:(⟨#[35]⟩:ByteArray).size=1:=rfl;unfold fG;split
 ·omega
 simp only [Uh]; omega
theorem jY {xs:List Al} (h:eu xs=true):(uu xs).size≤190:=by
 unfold eu at h;simp only [TU,Ud] at h;have hj:=oN ⟨#[44]⟩ 25 _ (xs.map fG) rfl (fun x hx=>by
  obtain ⟨a,ha,rfl⟩:=Ue.1 hx;obtain ⟨i,hi,rfl⟩:=Uu ha;exact qc (yH h.2 i hi hi))
 have e1:(⟨#[116,104,105,115,40]⟩:ByteArray).size=5:=rfl;have e2:(⟨#[41]⟩:ByteArray).size=1:=rfl;have e3:(⟨#[44]⟩:ByteArray).size=1:=rfl;have e4:(xs.map fG).length≤6:=by simp; exact h.1.2
 unfold uu;simp only [Uh];rw [e3] at hj;have:(xs.map fG).length * (25 + 1)≤6 * 26:=Nat.mul_le_mul_right _ e4;omega
def Rq (es:List Ex):Prop:=es.length≤15∧(∀ (i:Nat) (h:i < es.length),ax es[i]=true)∧∀ i,i < es.length→kI es i=true
theorem Nu {es:List Ex} (h:aK es=true):Rq es:=by
 unfold aK at h;simp only [TU,Ud] at h;refine ⟨h.1.1.1.1.2,fun i hi=>?_,fun i hi=>?_⟩
 ·have:=h.1.1.1.2;rw [Ub] at this;exact this _ (TQ hi)
 have:=h.1.1.2;unfold iY at this;rw [Ub] at this;exact this i (by simpa using hi)
theorem qd {e:Ex} (h:ax e=true):e.kids.length≤5∧(e.kind=1 ∨ e.kind=2 ∨ e.kind=3 ∨ e.kind=4 ∨ e.kind=5 ∨ e.kind=6):=by
 unfold ax at h;split at h
 ·rename_i k; simp at h; exact ⟨by simp [h.2],.inl k⟩
 split at h
 ·rename_i k; simp at h; exact ⟨by simp [h.2],.inr (.inl k)⟩
 split at h
 ·rename_i k; simp at h; exact ⟨by simp [h.2],.inr (.inr (.inl k))⟩
 split at h
 ·rename_i k; simp at h; exact ⟨by omega,by omega⟩
 split at h
 ·rename_i k; simp at h; exact ⟨by omega,by omega⟩
 cases h
theorem yZ {es:List Ex} (hes:Rq es) {n:Nat} (hn:n < es.length) (b:Nat) (hb:200≤b) (f:Int→ByteArray) (hf:∀ k ∈ es[n].kids,(f k).size≤b):(lY f es[n]).size≤b * 5 + 20:=by
 have UA:=hes.2.1 n hn;obtain ⟨hk,hkind⟩:=qd UA;unfold lY;unfold ax at UA;split
 ·rename_i k;rw [if_pos k] at UA;simp only [TU] at UA;have:=jY UA.1.1.1;omega
 rename_i k1;rw [if_neg k1] at UA;split
 ·rename_i k2;rw [if_pos k2] at UA;simp only [TU] at UA;have:=bQ UA.1.1.1;omega
 rename_i k2;rw [if_neg k2] at UA;split
 ·rename_i k3;rw [if_pos k3] at UA;simp only [TU] at UA;have h1:=bQ UA.1.1.1;have h2:=bQ UA.1.1.2;have e1:(⟨#[45,62]⟩:ByteArray).size=2:=rfl;simp only [Uh];omega
 have hj:=oN (gG es[n].kind) b _ (es[n].kids.map f) rfl (fun x hx=>by obtain ⟨k,hk,rfl⟩:=Ue.1 hx; exact hf k hk);rw [lX] at hj;have:(es[n].kids.map f).length * (b + 3)≤5 * (b + 3):=Nat.mul_le_mul_right _ (by simp; exact hk);omega
theorem FD (e:Ex) (i:Bool) (t:bH):(inT e i t).size≤t.size + 2:=by
 have e1:(⟨#[40]⟩:ByteArray).size=1:=rfl;have e2:(⟨#[41]⟩:ByteArray).size=1:=rfl;unfold inT;split
 ·simp only [Uh]; omega
 omega
theorem D7 {es:List Ex} {n:Nat} (h:n < es.length):D5 es n=es[n]:=by simp [D5,h]
theorem uw {es:List Ex} (hes:Rq es) {n:Nat} (hn:n < es.length):∀ k ∈ es[n].kids,0≤k∧k.toNat < n:=by
 intro k hk;have:=hes.2.2 n hn;unfold kI at this;rw [Ub] at this;have h1:=this k (by simp [dC,hn,hk]);simp at h1;omega
theorem H9 {es:List Ex} (hes:Rq es) (n:Nat):n < es.length→∀ i,(iP es n i).size≤yX n:=by
 induction n using Nat.strongRecOn with
 | ind n ih =>
  intro hn i;unfold iP;rw [D7 hn];have h1:=FD es[n] i (lY (jy es n) es[n]);cases n with
  | zero =>
   have h2:=yZ hes hn 200 (TS _) (jy es 0) (fun k hk=>by have:=uw hes hn k hk; omega);have hno:es[0].kids=[]:=by
    cases hk:es[0].kids with
    | nil=>rfl
    | cons k ks=>have:=uw hes hn k (by rw [hk]; simp); omega
   have UA:=hes.2.1 0 hn;have h3:(lY (jy es 0) es[0]).size≤195:=by
    unfold lY;unfold ax at UA;split
    ·rename_i k; rw [if_pos k] at UA; simp only [TU] at UA; have:=jY UA.1.1.1; omega
    rename_i k1;rw [if_neg k1] at UA;split
    ·rename_i k2; rw [if_pos k2] at UA; simp only [TU] at UA; have:=bQ UA.1.1.1; omega
    rename_i k2;rw [if_neg k2] at UA;split
    ·rename_i k3;rw [if_pos k3] at UA;simp only [TU] at UA;have h1:=bQ UA.1.1.1;have h2:=bQ UA.1.1.2;have e1:(⟨#[45,62]⟩:ByteArray).size=2:=rfl;simp only [Uh];omega
    rw [hno];have:(fw (gG es[0].kind) (List.map (jy es 0) [])).size=0:=rfl;omega
   simp only [yX];omega
  | succ m =>
   have h2:=yZ hes hn (yX m) (Ka m) (jy es (m + 1)) (fun k hk=>by
    have hlt:=uw hes hn k hk;unfold jy;rw [if_pos hlt.2,D6];exact TZ (ih k.toNat hlt.2 (by omega) true) (Cm (by omega)))
   have:=Ka m;simp only [yX];omega
structure RS where
 p:Nat
 bad:Bool
 out:List Ex
def fT:ByteArray:=⟨#[116,104,105,115,40]⟩
def uy:ByteArray:=⟨#[35]⟩
def dU:ByteArray:=⟨#[41]⟩
def jR:ByteArray:=⟨#[44]⟩
def jA:ByteArray:=⟨#[40]⟩
def oO:ByteArray:=⟨#[45,62]⟩
def aW (k:Int):ByteArray:=if k=4 then ⟨#[32,124,32]⟩ else if k=5 then ⟨#[32,38,32]⟩ else ⟨#[32,45,32]⟩
def dX (s w:ByteArray) (p:Nat):Bool:=decide (p + w.size≤s.size) && (s.extract p (p + w.size)).toList == w.toList
def kZ (s w:ByteArray) (st:RS):Bool:=!st.bad && dX s w st.p
def ko (w:ByteArray) (st:RS):RS:=⟨st.p + w.size,st.bad,st.out⟩
def aj (s:ByteArray) (p:Nat):Nat:=((s.data.toList.drop p).takeWhile eH).length
def av (s:ByteArray) (p:Nat):ByteArray:=s.extract p (p + aj s p)
def rV (x:Ex) (st:RS):RS:=⟨st.p,st.bad || decide (15 < st.out.length + 1),st.out ++ [x]⟩
def uz (st:RS):RS:=⟨st.p,true,st.out⟩
def yj (s:ByteArray) (st:RS):ByteArray:=if kZ s uy st then av s (st.p + 1) else ⟨#[]⟩
def aV (s:ByteArray) (st:RS):RS:=if kZ s uy st then ⟨st.p + 1 + aj s (st.p + 1),st.bad,st.out⟩ else st
def bz (s:ByteArray) (st:RS):RS:=⟨st.p + aj s st.p,st.bad,st.out⟩
def dD (s:ByteArray):Nat→List Al→RS→Option (List Al) × RS
 | 0,_,st=>(none,st)
 | n + 1,xs,st =>
  if st.bad then (none,st)
  else if kZ s dU (aV s (bz s st)) then (some (xs ++ [⟨av s st.p,yj s (bz s st)⟩]),ko dU (aV s (bz s st)))
  else if kZ s jR (aV s (bz s st)) then dD s n (xs ++ [⟨av s st.p,yj s (bz s st)⟩]) (ko jR (aV s (bz s st)))
  else dD s n (xs ++ [⟨av s st.p,yj s (bz s st)⟩]) (uz (aV s (bz s st)))
def eZ (s:ByteArray) (st:RS):Ex :=
 if kZ s oO (bz s st) then ⟨3,[],av s st.p,av s (st.p + aj s st.p + 2),[]⟩ else ⟨2,[],⟨#[]⟩,av s st.p,[]⟩
def aI (s:ByteArray) (st:RS):RS :=
 if kZ s oO (bz s st) then ⟨st.p + aj s st.p + 2 + aj s (st.p + aj s st.p + 2),st.bad,st.out⟩ else bz s st
def judged (x:Ex) (st:RS):RS:=if ax x then st else uz st
def dE (s:ByteArray) (p:Nat):Int:=if dX s (aW 4) p then 4 else if dX s (aW 5) p then 5 else if dX s (aW 6) p then 6 else 0
def ib (s:ByteArray) (it:RS→Int × RS) (k:Int):Nat→List Int→RS→List Int × RS
 | 0,zs,st=>(zs,st)
 | n + 1,zs,st=>if kZ s (aW k) st then ib s it k n (zs ++ [(it (ko (aW k) st)).1]) (it (ko (aW k) st)).2 else (zs,st)
def za (s:ByteArray):Nat→Bool→RS→Int × RS
 | 0,_,st=>(0,st)
 | n + 1,false,st =>
  if kZ s fT st then
   match dD s (s.size + 1) [] (ko fT st) with
   | (some xs,st')=>((st'.out.length:Int),rV ⟨1,xs,⟨#[]⟩,⟨#[]⟩,[]⟩ st')
   | (none,st')=>(0,st')
  else if kZ s jA st then
   let x:=za s n true (ko jA st)
   if kZ s dU x.2 then (x.1,ko dU x.2) else (x.1,uz x.2)
  else ((st.out.length:Int),rV (eZ s st) (judged (eZ s st) (aI s st)))
 | n + 1,true,st =>
  let x:=za s n false st
  if dE s x.2.p=0 ∨ x.2.bad=true then x
  else
   let y:=ib s (za s n false) (dE s x.2.p) (s.size + 1) [x.1] x.2
   ((y.2.out.length:Int),rV ⟨dE s x.2.p,[],⟨#[]⟩,⟨#[]⟩,y.1⟩ y.2)
theorem kr (s:bH) (p:Nat) (hp:p≤s.size):p + aj s p≤s.size:=by
 unfold aj;have h1:((s.data.toList.drop p).takeWhile eH).length≤(s.data.toList.drop p).length:=(List.takeWhile_prefix (p:=eH) (l:=s.data.toList.drop p)).length_le;have h2:(s.data.toList.drop p).length=s.size - p:=by rw [List.length_drop]; simp
 omega
theorem zb (s:bH) (p:Nat) (hp:p≤s.size):(av s p).size=aj s p:=by
 unfold av;rw [ByteArray.size_extract];have:=kr s p hp;omega
theorem FE {s w:ByteArray} {p:Nat} (h:dX s w p=true):p + w.size≤s.size:=by
 unfold dX at h;simp only [TU,Ud] at h;exact h.1
theorem kJ {s w:ByteArray} {st:RS} (h:kZ s w st=true):st.p + w.size≤s.size:=by
 unfold kZ at h;simp only [TU] at h;exact FE h.2
open Go.ChangeAt Go.ChangeShapes Go.RowKit Go.WideShapes
set_option maxRecDepth 100000
theorem ai {p:Prop} (h:p):Hid p:=h
structure RdC (w:World) (R:Nat) (s:ByteArray) (p:Nat) (bad:Bool) (v:Value):Prop where
 lt:R < w.heap.size
 c0:w.cell? ⟨R,0,none⟩=some (.string s)
 c1:w.cell? ⟨R,1,none⟩=some (.int .i64 (p:Int))
 c2:w.cell? ⟨R,2,none⟩=some (.bool bad)
 c3:w.cell? ⟨R,3,none⟩=some v
 fr:gY w R
theorem RdC.grown {w w':af} {R:Nat} {s:ByteArray} {p:Nat} {bad:Bool} {v:Value} {row:Option Nat} (h:RdC w R s p bad v) (hg:w.grownBy w' row) (hR:some R ≠ row):RdC w' R s p bad v :=
 ⟨TP h.lt hg.size,hg.cell h.c0 hR,hg.cell h.c1 hR,hg.cell h.c2 hR,hg.cell h.c3 hR,fun j=>(World.frozen?_of_block (w:=w) (a:=⟨R,j,none⟩) (hg.block R h.lt hR)).trans (h.fr j)⟩
theorem RdC.drewN {w:af} {R:Nat} {s:ByteArray} {p:Nat} {bad:Bool} {v:Value} (h:RdC w R s p bad v) (n:Nat):RdC (w.drewN n) R s p bad v:=⟨h.lt,h.c0,h.c1,h.c2,h.c3,h.fr⟩
theorem RdC.on {w:af} {R:Nat} {s:ByteArray} {p:Nat} {bad:Bool} {v:Value} (h:RdC w R s p bad v) (q:Nat):RdC (w.setCell ⟨R,1,none⟩ (.int .i64 (q:Int))) R s q bad v :=
 ⟨by simpa using h.lt,by rw [mO (by omega)]; exact h.c0,mS h.c1,by rw [mO (by omega)]; exact h.c2,by rw [mO (by omega)]; exact h.c3,fun j=>by simpa using h.fr j⟩
theorem ze (w:af) (R o:Nat) (v:Value) (n:Nat):w.grownBy ((w.drewN n).setCell ⟨R,o,none⟩ v) (some R) :=
 ⟨rfl,rfl,rfl,by simp,fun k _ hk=>Below.heap_setCell _ _ _ k (fun e=>hk (by rw [e]))⟩
theorem Ia {w w':af} {R o:Nat} {v:Value} (h:w.grownBy w' (some R)):w.grownBy (w'.setCell ⟨R,o,none⟩ v) (some R) :=
 ⟨h.os,h.tape,h.output,by simpa using h.size,fun k hk hne=>(Below.heap_setCell w' _ _ k (fun e=>hne (by rw [e]))).trans (h.block k hk hne)⟩
def mG (s t:ByteArray) (p:Nat) (bad:Bool):Bool:=!bad && dX s t p
def Qg (s t:ByteArray) (p:Nat) (bad:Bool):Nat:=if mG s t p bad then p + t.size else p
theorem oP {s t:ByteArray} {p:Nat} {bad:Bool} (h:mG s t p bad=true):Qg s t p bad=p + t.size:=by simp [Qg,h]
theorem sP {s t:ByteArray} {p:Nat} {bad:Bool} (h:mG s t p bad=false):Qg s t p bad=p:=by simp [Qg,h]
theorem jS (R:Nat) (s t:bH) (p:Nat) (bad:Bool) (v:Value) (w:af) (h:RdC w R s p bad v) (hs:s.size≤1000) (hp:p≤s.size) (ht:t.size≤100) :
  Calls prog 236 #[.pointer (some ⟨R,0,none⟩),.string t] w fun e w'=>e=.returned (.bool (mG s t p bad))∧RdC w' R s (Qg s t p bad) bad v∧w.grownBy w' (some R):=by
 have H:=ai h;have c0:=h.c0;have c1:=h.c1;have c2:=h.c2;have f1:=h.fr 1;have hlt:=h.lt;have h0:=h;clear h H;have hwr:IntKind.i64.wrap ((p:Int) + (t.size:Int))=(p:Int) + (t.size:Int):=by simp [IntKind.wrap,IntKind.bits,IntKind.signed]; omega
 have no:∀ {n:Nat} {e:Ending},mG s t p bad=false→e=.returned (.bool false)→e=.returned (.bool (mG s t p bad))∧RdC (w.drewN n) R s (Qg s t p bad) bad v∧w.grownBy (w.drewN n) (some R):=fun hb he=>⟨by rw [hb]; exact he,by rw [sP hb]; exact h0.drewN _,⟨rfl,rfl,rfl,TS _,fun _ _ _=>rfl⟩⟩;have yes:∀ {n:Nat} {e:Ending},mG s t p bad=true→e=.returned (.bool true)→e=.returned (.bool (mG s t p bad))∧RdC ((w.drewN n).setCell ⟨R,1,none⟩ (.int .i64 ((p:Int) + (t.size:Int)))) R s (Qg s t p bad) bad v∧w.grownBy ((w.drewN n).setCell ⟨R,1,none⟩ (.int .i64 ((p:Int) + (t.size:Int)))) (some R):=fun hb he=>⟨by rw [hb]; exact he,by rw [oP hb]; exact (h0.drewN _).on (p + t.size),ze _ _ _ _ _⟩;have NO:Hid (∀ {n:Nat} {e:Ending},_):=@no;have YES:Hid (∀ {n:Nat} {e:Ending},_):=@yes;clear no yes h0;cases bad;case true=>
  have HB:Hid (mG s t p true=false):=rfl;clear hwr;go_enter func236,ntmps236;go_wp2_with fail;go_quiet (fail);go_wp2;go_ret;exact NO.out HB.out rfl
 by_cases hl:p + t.size≤s.size
 ·have hd:decide ((s.size:Int) < (p:Int) + (t.size:Int))=false:=by simp; omega
  have hp1:(p:Int)≤(p:Int) + (t.size:Int):=by omega
  have hp2:(p:Int) + (t.size:Int)≤(s.size:Int):=by omega
  have hnn:=bB p;have hla:dX s t p=((s.extract p (p + t.size)).toList == t.toList):=by simp [dX,hl]
  cases he:(s.extract p (p + t.size)).toList == t.toList;case true=>
   have HB:Hid (mG s t p false=true):=by show _=_; simp only [mG,hla,he]; rfl
   have hq:(!(s.extract p (p + t.size)).toList == t.toList)=false:=by rw [he]; rfl
   clear he hla;go_enter func236,ntmps236;go_wp2_with fail;go_quiet (fail);go_wp2;go_ret;exact YES.out HB.out rfl
  have HB:Hid (mG s t p false=false):=by show _=_; simp only [mG,hla,he]; rfl
  have hq:(!(s.extract p (p + t.size)).toList == t.toList)=true:=by rw [he]; rfl
  clear he hla;go_enter func236,ntmps236;go_wp2_with fail;go_quiet (fail);go_wp2;go_ret;exact NO.out HB.out rfl
 have hd:decide ((s.size:Int) < (p:Int) + (t.size:Int))=true:=by simp; omega
 have HB:Hid (mG s t p false=false):=by show _=_; simp [mG,dX,hl]
 clear hl;go_enter func236,ntmps236;go_wp2_with fail;go_quiet (fail);go_wp2;go_ret;exact NO.out HB.out rfl
def wat (R:Nat) (w:World):Nat:=match w.cell? ⟨R,1,none⟩ with
 | some (.int _ z)=>z.toNat
 | _=>0
theorem RdC.place {w:af} {R:Nat} {s:ByteArray} {p:Nat} {bad:Bool} {v:Value} (h:RdC w R s p bad v):wat R w=p:=by
 simp [Go.Proofs.YtajkkeikihhejaaGreat.wat,h.c1]
theorem D8 (l:List UInt8) (n:Nat) (h1:∀ i (h:i < l.length),i < n→eH l[i]=true) (h2:∀ h:n < l.length,eH l[n]=false) (hn:n≤l.length):(l.takeWhile eH).length=n:=by
 induction l generalizing n with
 | nil=>simp at hn; simp [hn]
 | cons x xs ih =>
  cases n with
  | zero =>
   have:=h2 (by simp);simp at this;simp [List.takeWhile,this]
  | succ n =>
   have hx:=h1 0 (by simp) (by omega);simp at hx;have:=ih n (fun i hi hin=>by have:=h1 (i + 1) (by simpa using hi) (by omega); simpa using this) (fun h=>by have:=h2 (by simpa using h); simpa using this) (by simpa using hn);simp [List.takeWhile,hx,this]
theorem Nv (s:bH) (p q:Nat) (hpq:p≤q) (hq:q≤s.size) (h1:∀ i (h:i < s.size),p≤i→i < q→eH s[i]=true) (h2:∀ h:q < s.size,eH s[q]=false):aj s p=q - p:=by
 unfold aj;have hl:s.data.toList.length=s.size:=by simp
 refine D8 _ _ (fun i hi hin=>?_) (fun h=>?_) (by rw [List.length_drop,hl]; omega)
 ·rw [List.length_drop,hl] at hi;have:=h1 (p + i) (by omega) (by omega) (by omega);simp only [List.getElem_drop,Array.getElem_toList];exact this
 rw [List.length_drop,hl] at h;have:=h2 (by omega);simp only [List.getElem_drop,Array.getElem_toList];have e:p + (q - p)=q:=by omega
 simp only [e];exact this
theorem uA (R:Nat) (s:bH) (p:Nat) (bad:Bool) (v:Value) (w:af) (h:RdC w R s p bad v) (hs:s.size≤1000) (hp:p≤s.size) :
  Calls prog 250 #[.pointer (some ⟨R,0,none⟩)] w fun e w'=>e=.returned (.string (av s p))∧RdC w' R s (p + aj s p) bad v∧w.grownBy w' (some R):=by
 have H:=ai h;have c1:=h.c1;clear h;go_enter func250,ntmps250;go_wp2_with fail;clear c1;go_loopw [8] (fun _ wr=>∃ q:Nat,p≤q∧q≤s.size∧Hid (∀ i (h:i < s.size),p≤i→i < q→eH s[i]=true)∧Hid (RdC wr R s q bad v)∧Hid (w.grownBy wr (some R))) (fun _ wr=>s.size - wat R wr);case atStart=>exact ⟨p,TS _,hp,fun i h h1 h2=>by omega,H,⟨rfl,rfl,rfl,TS _,fun _ _ _=>rfl⟩⟩
 obtain ⟨q,hq1,hq2,HL,HR,HG⟩:=hrel;have c0:=HR.out.c0;have c1:=HR.out.c1;have f1:=HR.out.fr 1;have hlt:=HR.out.lt;have hq0:=bB q;have stop:∀ n m,(∀ h:q < s.size,eH s[q]=false)→Ending.returned (.string (s.extract p q))=.returned (.string (av s p))∧RdC ((wr.drewN n).drewN m) R s (p + aj s p) bad v∧w.grownBy ((wr.drewN n).drewN m) (some R):=fun n m hn=>by
  have e:=Nv s p q hq1 hq2 HL.out hn;have e2:p + aj s p=q:=by omega
  exact ⟨by unfold av; rw [e2],by rw [e2]; exact (HR.out.drewN n).drewN m,⟨HG.out.os,HG.out.tape,HG.out.output,HG.out.size,HG.out.block⟩⟩
 have STOP:=ai stop;clear stop;have hx1:(p:Int)≤(q:Int):=by omega
 have hx2:(q:Int)≤(s.size:Int):=by omega
 have hx3:=bB p;by_cases hlt2:q < s.size
 ·have hq3:(q:Int) < (s.size:Int):=by omega
  have hd:decide ((q:Int) < (s.size:Int))=true:=by simpa using hq3
  by_cases hb1:(97:Int)≤(s[q].toNat:Int)
  ·have hd1:decide ((97:Int)≤(s[q].toNat:Int))=true:=by simpa using hb1
   by_cases hb2:(s[q].toNat:Int)≤122
   ·have hd2:decide ((s[q].toNat:Int)≤122)=true:=by simpa using hb2
    have HL2:Hid (∀ i (h:i < s.size),p≤i→i < q + 1→eH s[i]=true):=fun i h h1 h2=>by
     by_cases e:i=q
     ·subst e; simp [eH]; omega
     exact HL.out i h h1 (by omega)
    have hwr2:IntKind.i64.wrap ((q:Int) + 1)=(q:Int) + 1:=by simp [IntKind.wrap,IntKind.bits,IntKind.signed]; omega
    go_wp2_with fail;go_quiet (fail);have HR2:Hid (RdC ((wr.drewN nq).setCell ⟨R,1,none⟩ (.int .i64 ((q:Int) + 1))) R s (q + 1) bad v):=(HR.out.drewN nq).on (q + 1);have HG2:Hid (w.grownBy ((wr.drewN nq).setCell ⟨R,1,none⟩ (.int .i64 ((q:Int) + 1))) (some R)):=Ia (w':=wr.drewN nq) ⟨HG.out.os,HG.out.tape,HG.out.output,HG.out.size,HG.out.block⟩;have hm1:=HR.out.place;have hm2:=HR2.out.place;have HM:Hid (s.size - wat R ((wr.drewN nq).setCell ⟨R,1,none⟩ (.int .i64 ((q:Int) + 1))) < s.size - wat R wr):=by show _ < _; rw [hm1,hm2]; omega
    clear hm1 hm2;go_wp2;go_roundw;case rel=>exact ⟨q + 1,by omega,by omega,HL2,HR2,HG2⟩
    exact HM.out
   have hd2:decide ((s[q].toNat:Int)≤122)=false:=by simpa using hb2
   have HN:Hid (∀ h:q < s.size,eH s[q]=false):=fun h=>by simp [eH]; omega
   go_wp2_with fail;go_quiet (fail);go_wp2_with fail;go_quiet (fail);go_wp2;go_ret;exact STOP.out _ _ HN.out
  have hd1:decide ((97:Int)≤(s[q].toNat:Int))=false:=by simpa using hb1
  have HN:Hid (∀ h:q < s.size,eH s[q]=false):=fun h=>by simp [eH]; omega
  go_wp2_with fail;go_quiet (fail);go_wp2_with fail;go_quiet (fail);go_wp2;go_ret;exact STOP.out _ _ HN.out
 have hd:decide ((q:Int) < (s.size:Int))=false:=by simp; omega
 have HN:Hid (∀ h:q < s.size,eH s[q]=false):=fun h=>absurd h hlt2;go_wp2_with fail;go_quiet (fail);go_wp2_with fail;go_quiet (fail);go_wp2;go_ret;exact STOP.out _ _ HN.out
end Go.Proofs.YtajkkeikihhejaaGreat
