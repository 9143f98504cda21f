/- What a right expression is, in plain words, in the document's way and in the program's way, and that both say the same. -/
import Derived.Test.YtajkkeikihhejaaGreatSq
import Derived.Test.YtajkkeikihhejaaGreatJ1
import Derived.Maps.OwnSet
import Derived.DeepKeys4
open Go.Proofs.Tryz
namespace Go.Proofs.YtajkkeikihhejaaGreat
open Pl
def jS (x y:Al):Bool:=x.t.toList == y.t.toList && x.s.toList == y.s.toList
def Fq (a:Al):Bool:=aP a.t && ui a.s
def dF (xs:List Al) (k:Nat) (a:Al):Bool:=(xs.take k).any fun x=>jS x a
theorem sP (xs:List Al) (k:Nat) (a:Al) (h:k < xs.length):dF xs (k + 1) a=(dF xs k a || jS xs[k] a):=by
 unfold dF; rw [TV h,List.any_append]; simp
theorem sQ (xs:List Al) (a:Al):dF xs 0 a=false:=by simp [dF]
def DT (xs:List Al):Nat→Bool
 | 0=>true
 | k + 1=>DT xs k && (xs[k]?.map fun a=>Fq a && !dF xs k a).getD true
theorem yV (xs:List Al) (k:Nat) (h:k < xs.length):DT xs (k + 1)=(DT xs k && (Fq xs[k] && !dF xs k xs[k])):=by
 simp [DT,h]
theorem oM (xs:List Al) (k:Nat) (h:k < xs.length) (hb:(Fq xs[k] && !dF xs k xs[k])=false):∀ n,k < n→DT xs n=false
 | 0,hn=>by omega
 | n + 1,hn=>by
  by_cases e:n=k
  ·subst e; rw [yV _ _ h,hb]; simp
  simp [DT,oM xs k h hb n (by omega)]
def ed (xs:List Al):Bool:=decide (1≤xs.length) && decide (xs.length≤6) && DT xs xs.length
def av (e:Ex):Bool :=
 if e.kind=1 then ed e.allow && e.over.toList.isEmpty && e.name.toList.isEmpty && decide (e.kids.length=0)
 else if e.kind=2 then aP e.name && decide (e.allow.length=0) && e.over.toList.isEmpty && decide (e.kids.length=0)
 else if e.kind=3 then aP e.over && aP e.name && decide (e.allow.length=0) && decide (e.kids.length=0)
 else if e.kind=4 ∨ e.kind=5 then decide (2≤e.kids.length) && decide (e.kids.length≤5) && decide (e.allow.length=0) && e.over.toList.isEmpty && e.name.toList.isEmpty
 else if e.kind=6 then decide (e.kids.length=2) && decide (e.allow.length=0) && e.over.toList.isEmpty && e.name.toList.isEmpty
 else false
def di (f:Int→Int):List Int→Int→Int
 | [],at'=>at' + 1
 | k::ks,at'=>if at' < 0 ∨ k ≠ at' then -1 else if f at' < 0 then -1 else di f ks (f at' - 1)
def dC (es:List Ex) (n:Nat):List Int:=(es[n]?.map Ex.kids).getD []
def ay (es:List Ex) (n:Nat):Int:=di (fun x=>if _h:0≤x∧x.toNat < n then ay es x.toNat else -1) (dC es n).reverse ((n:Int) - 1)
def dx (es:List Ex) (n:Nat) (x:Int):Int:=if 0≤x∧x.toNat < n then ay es x.toNat else -1
theorem jb (es:List Ex) (n:Nat):ay es n=di (dx es n) (dC es n).reverse ((n:Int) - 1):=by
 rw [ay];rfl
theorem Cj {f:Int→Int} (hf:∀ x,0≤x→f x≤x):∀ (ks:List Int) (a:Int),-1≤a→di f ks a≤a + 1
 | [],a,_=>by simp [di]
 | k::ks,a,ha=>by
  unfold di;split
  ·omega
  rename_i h;split
  ·omega
  rename_i h2;have h0:0≤a:=by omega
  have:=Cj hf ks (f a - 1) (by omega);have:=hf a h0;omega
theorem iC (es:List Ex) (n:Nat):ay es n≤n:=by
 induction n using Nat.strongRecOn with
 | ind n ih =>
  rw [jb];have:=Cj (f:=dx es n) (fun x hx=>by
   unfold dx;split
   ·rename_i h; have:=ih x.toNat h.2; omega
   omega) (dC es n).reverse ((n:Int) - 1) (by omega)
  omega
theorem Ns (es:List Ex) (n:Nat) (x:Int) (hx:0≤x):dx es n x≤x:=by
 unfold dx;split
 ·have:=iC es x.toNat; omega
 omega
theorem rZ {es:List Ex} {n:Nat} (ih:∀ m,m < n→0≤ay es m→∀ j:Nat,ay es m≤j→j≤m→0≤ay es j) :
  ∀ (ks:List Int) (a:Int),a < n→0≤di (dx es n) ks a→∀ j:Nat,di (dx es n) ks a≤j→(j:Int)≤a→0≤ay es j
 | [],a,ha,h,j,h1,h2=>by simp [di] at h1; omega
 | k::ks,a,ha,h,j,h1,h2=>by
  unfold di at h h1;split at h
  ·omega
  rename_i c;rw [if_neg c] at h1;split at h
  ·omega
  rename_i c2;rw [if_neg c2] at h1;have h0:0≤a:=by omega
  have hF:dx es n a=ay es a.toNat:=by unfold dx; rw [if_pos ⟨h0,by omega⟩]
  rw [hF] at h h1 c2;by_cases hj:ay es a.toNat≤j
  ·exact ih a.toNat (by omega) (by omega) j hj (by omega)
  exact rZ ih ks (ay es a.toNat - 1) (by have:=iC es a.toNat; omega) h j h1 (by omega)
theorem nA (es:List Ex) (n:Nat):0≤ay es n→∀ j:Nat,ay es n≤j→j≤n→0≤ay es j:=by
 induction n using Nat.strongRecOn with
 | ind n ih =>
  intro h j h1 h2;by_cases e:j=n
  ·subst e; exact h
  rw [jb] at h h1;exact rZ ih _ _ (by omega) h j h1 (by omega)
def kH (es:List Ex) (i:Nat):Bool:=(dC es i).all fun k=>decide (0≤k) && decide (k≤(i:Int) - 1)
theorem xx {es:List Ex} {n:Nat}:∀ (ks:List Int) (a:Int),a < n→0≤di (dx es n) ks a→∀ k ∈ ks,0≤k∧k≤a
 | [],_,_,_,k,hk=>by cases hk
 | x::ks,a,ha,h,k,hk=>by
  unfold di at h;split at h
  ·omega
  rename_i c;split at h
  ·omega
  rename_i c2;have h0:0≤a:=by omega
  rcases List.mem_cons.1 hk with rfl | hk
  ·omega
  have hl:=Ns es n a h0;have:=xx ks (dx es n a - 1) (by omega) h k hk;omega
theorem KQ (es:List Ex) (i:Nat) (h:0≤ay es i):kH es i=true:=by
 unfold kH;rw [Ub];intro k hk;rw [jb] at h;have:=xx _ _ (by omega) h k (by simpa using hk);simp; omega
def Nt (es:List Ex) (n:Nat):Prop:=∀ j,j < n→0≤ay es j
def own (es:List Ex):Nat:=(es.filter fun e=>decide (e.kind=1)).length
def gG (es:List Ex) (k:Nat):Nat:=own (es.take k)
theorem yX (es:List Ex) (k:Nat) (h:k < es.length):gG es (k + 1)=gG es k + (if es[k].kind=1 then 1 else 0):=by
 unfold gG own;rw [TV h,Uz,T9];by_cases e:es[k].kind=1 <;> simp [e]
theorem ul (es:List Ex) (k:Nat):gG es k≤k:=by
 unfold gG own;exact TZ (List.length_filter_le ..) (by simp; omega)
def jr (es:List Ex) (k:Nat):Bool:=(es.take k).all av
theorem uq (es:List Ex) (k:Nat) (h:k < es.length):jr es (k + 1)=(jr es k && av es[k]):=by
 unfold jr; rw [TV h,List.all_append]; simp
theorem Ck (es:List Ex) (k:Nat) (h:k < es.length) (hb:av es[k]=false):es.all av=false:=by
 rw [Bool.eq_false_iff]; intro h2; rw [Ub] at h2; have:=h2 es[k] (TQ h); rw [hb] at this; cases this
def iY (es:List Ex) (k:Nat):Bool:=(List.range k).all (kH es)
theorem Fs (es:List Ex) (k:Nat):iY es (k + 1)=(iY es k && kH es k):=by simp [iY,List.range_succ]
theorem Nu (es:List Ex) (k:Nat) (h:k < es.length) (hb:kH es k=false):iY es es.length=false:=by
 rw [Bool.eq_false_iff]; intro h2; unfold iY at h2; rw [Ub] at h2; have:=h2 k (by simpa using h); rw [hb] at this; cases this
def aK (es:List Ex):Bool:=decide (1≤es.length) && decide (es.length≤15) && es.all av && iY es es.length && decide (own es≤1) && decide (ay es (es.length - 1)=0)
def jv (es:List Ex):Bool:=(List.range es.length).all fun j=>decide (0≤ay es j)
def kL (es:List Ex):Bool:=decide (1≤es.length) && decide (es.length≤15) && es.all av && decide (own es≤1) && (jv es && decide (ay es (es.length - 1)=0))
theorem vY (es:List Ex):aK es=kL es:=by
 by_cases h1:1≤es.length
 ·by_cases ht:ay es (es.length - 1)=0
  ·have ha:jv es=true:=by
    unfold jv;rw [Ub];intro j hj;have hj':j < es.length:=by simpa using hj
    simpa using nA es (es.length - 1) (by omega) j (by omega) (by omega)
   have hk:iY es es.length=true:=by
    unfold iY;rw [Ub];intro j hj;have hj':j < es.length:=by simpa using hj
    exact KQ es j (nA es (es.length - 1) (by omega) j (by omega) (by omega))
   simp [aK,kL,ht,ha,hk,h1]
  simp [aK,kL,ht]
 simp [aK,kL,h1]
open Go.ChangeAt Go.ChangeShapes Go.Maps Go.RowKit Go.WideShapes
def Qf (v:Value):Option (DataW Value × List MemPlace):=some (.held v,[])
section
variable {K:Type} (enc:K→Value) (P:Program) (k:TypeId)
def R3 (D:DataW Value) (kl:Lit):Option Value→Prop
 | none=>Maps.has D kl=false∧∀ z,D.atKey kl z=z
 | some v=>Maps.has D kl=true∧∀ z,D.atKey kl z=.held v
def aM (w:World) (b n:Nat) (M:K→Option Value):Prop :=
 ∃ D:DataW Value,w.ownsMap P k Qf b n D∧∀ x kl,keyOf P k (enc x)=some kl→R3 D kl (M x)
def kY [DecidableEq K] (M:K→Option Value) (x:K) (v:Option Value):K→Option Value:=fun y=>if y=x then v else M y
end
section
variable {K:Type} {enc:K→Value} {P:Program} {k:TypeId} {w:World} {b n:Nat} {M:K→Option Value}
theorem dZ [DecidableEq K] (M:K→Option Value) (x:K) (v:Option Value):kY M x v x=v:=by simp [kY]
theorem cz [DecidableEq K] {M:K→Option Value} {x y:K} {v:Option Value} (h:y ≠ x):kY M x v y=M y:=by simp [kY,h]
theorem nM (enc:K→Value) (P:Program) (k:TypeId) (w:af):aM enc P k (w.alloc (.map #[] 0)) w.heap.size 0 (fun _=>none) :=
 ⟨.map [],World.ownsMap_made w P k Qf,fun _ kl _=>⟨rfl,fun z=>by simp [DataW.atKey]⟩⟩
theorem aM.lt (h:aM enc P k w b n M):b < w.heap.size:=by obtain ⟨D,h1,-⟩:=h; exact h1.lt
theorem aM.mono (h:aM enc P k w b n M) {n':Nat} (hn:n≤n'):aM enc P k w b n' M:=by obtain ⟨D,h1,h2⟩:=h; exact ⟨D,h1.mono hn,h2⟩
theorem aM.kept {w':af} {row:Option Nat} (h:aM enc P k w b n M) (hg:w.grownBy w' row) (hne:some b ≠ row):aM enc P k w' b n M:=by
 obtain ⟨D,h1,h2⟩:=h; exact ⟨D,h1.kept hg hne,h2⟩
theorem aM.below {w':af} (h:aM enc P k w b n M) (hB:ag w w'):aM enc P k w' b n M :=
 h.kept (row:=none) ⟨hB.os,hB.tape,hB.output,hB.size,fun k hk _=>hB.block k hk⟩ (by simp)
theorem aM.setCell (h:aM enc P k w b n M) {a:Addr} (ha:b ≠ a.block) (u:Value):aM enc P k (w.setCell a u) b n M:=by
 obtain ⟨D,h1,h2⟩:=h; exact ⟨D,h1.setCell ha u,h2⟩
theorem aM.look {t e:TypeId} (h:aM enc P k w b n M) (L:Keyed P k) (ht:P.underlying t=some (.map k e)) {z:Value} (hz:(zeroValue e).run P w=.ok z w) {x:K} {kl:Lit} (hkey:keyOf P k (enc x)=some kl) :
  (Instr.lookup t (.map (some b)) (enc x) false).run P w=.ok ((M x).getD z) w:=by
 obtain ⟨D,h1,h2⟩:=h;obtain ⟨v,ps,hrun,hv⟩:=h1.lookup L ht hz (zd:=.held z) (zp:=[]) rfl hkey;have h3:=h2 x kl hkey;rw [hrun];have:v=(M x).getD z:=by
  simp only [Qf,Option.some.injEq,Prod.mk.injEq] at hv;cases e:M x with
  | none=>rw [e] at h3; rw [h3.2] at hv; injection hv.1 with h4
  | some u=>rw [e] at h3; rw [h3.2] at hv; injection hv.1 with h4
 rw [this]
theorem aM.look_ok {t e:TypeId} (h:aM enc P k w b n M) (L:Keyed P k) (ht:P.underlying t=some (.map k e)) {z:Value} (hz:(zeroValue e).run P w=.ok z w) {x:K} {kl:Lit} (hkey:keyOf P k (enc x)=some kl) :
  (Instr.lookup t (.map (some b)) (enc x) true).run P w=.ok (.tuple #[(M x).getD z,.bool (M x).isSome]) w:=by
 obtain ⟨D,h1,h2⟩:=h;obtain ⟨v,ps,hrun,hv⟩:=h1.look_ok L ht hz (zd:=.held z) (zp:=[]) rfl hkey;have h3:=h2 x kl hkey;rw [hrun];simp only [Qf,Option.some.injEq,Prod.mk.injEq] at hv;cases e:M x with
 | none=>rw [e] at h3; rw [h3.2] at hv; injection hv.1 with h4; rw [h4,h3.1]; rfl
 | some u=>rw [e] at h3; rw [h3.2] at hv; injection hv.1 with h4; rw [h4,h3.1]; rfl
theorem aM.store [DecidableEq K] {t e:TypeId} (h:aM enc P k w b n M) (L:Keyed P k) (hinj:∀ x y,enc x=enc y→x=y) (ht:P.underlying t=some (.map k e)) (hn:n < maxLen) {x:K} {kl:Lit} (hkey:keyOf P k (enc x)=some kl) (v:Value) :
  ∃ w',(Instr.mapUpdate t (.map (some b)) (enc x) v).run P w=.ok () w'∧aM enc P k w' b (n + 1) (kY M x (some v))∧w.grownBy w' (some b):=by
 obtain ⟨D,h1,h2⟩:=h;obtain ⟨w',hrun,h3,h4⟩:=h1.update L ht hn hkey (val:=v) (d:=.held v) (ps:=[]) rfl;refine ⟨w',hrun,⟨D.put kl (.held v),h3,fun y ky hy=>?_⟩,h4⟩;by_cases e:y=x
 ·subst e;obtain rfl:ky=kl:=by rw [hkey] at hy; injection hy with hy; exact hy.symm
  rw [dZ];exact ⟨has_put_same h1.isMap (L.key hkey) _,fun z=>atKey_put_same h1.isMap (L.key hkey) _ z⟩
 have hne:ky ≠ kl:=fun e2=>e (hinj _ _ (L.inj (by rw [e2] at hy; exact hy) hkey));rw [cz e];have h5:=h2 y ky hy;cases e3:M y with
 | none=>rw [e3] at h5; exact ⟨by rw [has_put_other hne]; exact h5.1,fun z=>by rw [atKey_put_other hne]; exact h5.2 z⟩
 | some u=>rw [e3] at h5; exact ⟨by rw [has_put_other hne]; exact h5.1,fun z=>by rw [atKey_put_other hne]; exact h5.2 z⟩
end
section
variable {K:Type} {enc:K→Value} {P:Program} (w:World) {ops:Array Oper} {rest:List Oper} {o:Oper} {a:Act} {Q:Exit→Act→World→Prop}
theorem jw (hg:o.guard=none) (m x:Operand) (t:TypeId) (hop:o.op=Op.lookup t m x false) (k e:TypeId) (L:Keyed P k) (ht:P.underlying t=some (.map k e)) {z:Value} (hz:(zeroValue e).run P w=.ok z w) (b n:Nat) (M:K→Option Value)
  (hm:a.eval m=.map (some b)) (hV:aM enc P k w b n M) (y:K) (kl:Lit) (hx:a.eval x=enc y) (hkey:keyOf P k (enc y)=some kl)
  (hK:wpList P ops Q rest (a.put o.dst ((M y).getD z)) w):wpList P ops Q (o::rest) a w:=by
 refine wpList_plain hg fun K' hK'=>?_;have hrun:=hV.look L ht hz hkey;unfold Oper.wp;simp [execOp,hop,hm,hx,hrun,Result.andThen];exact hK' _ _ hK
theorem bZ (hg:o.guard=none) (m x:Operand) (t:TypeId) (hop:o.op=Op.lookup t m x true) (k e:TypeId) (L:Keyed P k) (ht:P.underlying t=some (.map k e)) {z:Value} (hz:(zeroValue e).run P w=.ok z w) (b n:Nat) (M:K→Option Value)
  (hm:a.eval m=.map (some b)) (hV:aM enc P k w b n M) (y:K) (kl:Lit) (hx:a.eval x=enc y) (hkey:keyOf P k (enc y)=some kl)
  (hK:wpList P ops Q rest (a.put o.dst (.tuple #[(M y).getD z,.bool (M y).isSome])) w):wpList P ops Q (o::rest) a w:=by
 refine wpList_plain hg fun K' hK'=>?_;have hrun:=hV.look_ok L ht hz hkey;unfold Oper.wp;simp [execOp,hop,hm,hx,hrun,Result.andThen];exact hK' _ _ hK
theorem nC [DecidableEq K] (hg:o.guard=none) (m x v:Operand) (t:TypeId) (hop:o.op=Op.mapUpdate t m x v) (k e:TypeId) (L:Keyed P k) (hinj:∀ x y,enc x=enc y→x=y) (ht:P.underlying t=some (.map k e)) (b n:Nat) (M:K→Option Value)
  (hm:a.eval m=.map (some b)) (hV:aM enc P k w b n M) (hn:n < maxLen) (y:K) (kl:Lit) (hx:a.eval x=enc y) (hkey:keyOf P k (enc y)=some kl) (u:Value) (hv:a.eval v=u)
  (hK:∀ w',aM enc P k w' b (n + 1) (kY M y (some u))→w.grownBy w' (some b)→wpList P ops Q rest (a.put o.dst undef) w'):wpList P ops Q (o::rest) a w:=by
 refine wpList_plain hg fun K' hK'=>?_;obtain ⟨w',hrun,r1,r2⟩:=hV.store L hinj ht hn hkey u;unfold Oper.wp;simp [execOp,hop,hm,hx,hv,hrun,Result.andThen];exact hK' _ _ (hK w' r1 r2)
end
def dQ (k:ByteArray × ByteArray):Value:=.agg #[.string k.1,.string k.2]
theorem ut (x y:ByteArray × ByteArray) (h:dQ x=dQ y):x=y:=by
 unfold dQ at h;injection h with h;have h1:=congrArg Array.toList h;simp at h1;exact Prod.ext h1.1 h1.2
theorem yY:laidOutB prog=true:=by kernel_rfl
theorem Nv:(94:TypeId) < prog.types.size:=of_decide_eq_true (by kernel_rfl)
theorem Qg:(match prog.underlying 94 with | some (.array _ _) | some (.struct _)=>true | _=>false)=true:=by rw [underlying94]
set_option maxRecDepth 100000 in
theorem J8:WideMaps.KeyLaw prog 94:=deep_law_laid yY (m:=2) (by omega) Nv (by kernel_rfl) Qg
theorem ib:Keyed prog 94:=Keyed.of_law J8
theorem Qh:prog.keyType 94=true:=by kernel_rfl
theorem Fu:prog.cellsOf 94=2:=by kernel_rfl
theorem strCells:prog.cellsOf 9=1:=by kernel_rfl
theorem KR:∃ n,prog.types.size=n + 1:=Nat.exists_eq_succ_of_ne_zero (Nat.ne_of_gt (Nat.lt_of_le_of_lt (TW _) Nv))
theorem jy (k:ByteArray × ByteArray) (h1:k.1.size≤maxLen) (h2:k.2.size≤maxLen):∃ kl,keyOf prog 94 (dQ k)=some kl:=by
 obtain ⟨n,hn⟩:=KR;refine ⟨.string (keyBytes [.string k.1.data.toList,.string k.2.data.toList]),?_⟩;unfold keyOf;rw [underlying94];simp only [Qh,dQ,Value.formed,underlying94,Fu,hn,Value.cells];simp [Program.keyLits,underlying94,underlying9,Fu,strCells,h1,h2]
end Go.Proofs.YtajkkeikihhejaaGreat
