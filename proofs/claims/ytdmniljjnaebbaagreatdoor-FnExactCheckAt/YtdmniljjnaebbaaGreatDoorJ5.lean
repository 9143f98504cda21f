/- Contracts of the document's functions that look for a tuple in a list, and that leave one out. -/
import Derived.Test.YtdmniljjnaebbaaGreatDoorJ4
import Derived.OwnWalk
import Derived.Maps.AppendAt
import Derived.Sort.Statements
import Derived.Deep.QuietTactic
import Derived.BigQuiet
open Go.Proofs.Tryz
set_option maxHeartbeats 80000000
namespace Go.Proofs.YtdmniljjnaebbaaGreatDoor
open Go.ChangeShapes Go.WideShapes Go.ChangeAt Go.RowKit Go.Maps
open Pl
def ko (x y:Tp):Bool:=x.a.toList == y.a.toList && x.b.toList == y.b.toList && x.r.toList == y.r.toList && x.c.toList == y.c.toList && x.d.toList == y.d.toList && x.s.toList == y.s.toList
theorem ic {x y:ByteArray} (k:x.toList=y.toList):x=y:=by
 rw [Go.ByteArray.toList_eq,Go.ByteArray.toList_eq] at k;obtain ⟨x⟩:=x;obtain ⟨y⟩:=y;exact congrArg ByteArray.mk (Array.toList_inj.1 k)
theorem kF {x y:Tp}:ko x y=true ↔ x=y:=by
 unfold ko;simp only [Bool.and_eq_true,beq_iff_eq];constructor
 ·rintro ⟨⟨⟨⟨⟨h0,h1⟩,h2⟩,h3⟩,h4⟩,h5⟩;obtain ⟨xa,xb,xr,xc,xd,xs⟩:=x;obtain ⟨ya,yb,yr,yc,yd,ys⟩:=y;simp only at h0 h1 h2 h3 h4 h5;rw [ic h0,ic h1,ic h2,ic h3,ic h4,ic h5]
 ·rintro rfl; simp
theorem Aq (x y:Tp) {v:Bool} (h:ko x y=v) (w:World) :
  (binOp .eql 42 (.agg #[.string x.a,.string x.b,.string x.r,.string x.c,.string x.d,.string x.s]) (.agg #[.string y.a,.string y.b,.string y.r,.string y.c,.string y.d,.string y.s])).run prog w=.ok (.bool v) w:=by
 subst h;go_simp;unfold ko
 (repeat' split) <;> simp_all
theorem Jk (x y:Tp) {v:Bool} (h:(!ko x y)=v) (w:World) :
  (binOp .neq 42 (.agg #[.string x.a,.string x.b,.string x.r,.string x.c,.string x.d,.string x.s]) (.agg #[.string y.a,.string y.b,.string y.r,.string y.c,.string y.d,.string y.s])).run prog w=.ok (.bool v) w:=by
 subst h;go_simp;unfold ko
 (repeat' split) <;> simp_all
def gm (ts:List Tp) (t:Tp):Bool:=ts.any fun x=>ko x t
theorem GM {ts:List Tp} {t:Tp} {k:Nat} (h:k < ts.length):gm (ts.drop k) t=(ko ts[k] t || gm (ts.drop (k + 1)) t):=by
 rw [List.drop_eq_getElem_cons h]; rfl
def Tp.row (t:Tp):List Value:=[.string t.a,.string t.b,.string t.r,.string t.c,.string t.d,.string t.s]
def aB (ts:List Tp):List Value:=ts.flatMap Tp.row
theorem dX:∀ ts:List Tp,(aB ts).length=ts.length * 6
 | []=>rfl
 | r::rs=>by have:=dX rs; simp only [aB,Tp.row,List.flatMap_cons,List.length_append,List.length_cons,List.length_nil] at this ⊢; omega
theorem qC:∀ (rs:List Tp) (i:Nat) (h:i < rs.length) (j:Nat),j < 6→(aB rs)[i * 6 + j]?=(rs[i]).row[j]?
 | [],i,h,_,_=>by simp at h
 | r::rs,0,_,j,hj=>by
  simp only [aB,List.flatMap_cons,Nat.zero_mul,Nat.zero_add,List.getElem_cons_zero];rw [List.getElem?_append_left (by simpa [Tp.row] using hj)]
 | r::rs,i + 1,h,j,hj=>by
  have:=qC rs i (by simpa using h) j hj;simp only [aB,List.flatMap_cons,List.getElem_cons_succ] at this ⊢;rw [List.getElem?_append_right (by simp [Tp.row]; omega),← this];congr 1;simp [Tp.row]; omega
theorem pI (ts:List Tp) (t:Tp):aB (ts ++ [t])=aB ts ++ t.row:=by simp [aB]
theorem qD (t:Tp):∀ u ∈ t.row,u.oneCell'=true:=by
 intro u hu;simp [Tp.row] at hu;rcases hu with rfl | rfl | rfl | rfl | rfl | rfl <;> rfl
theorem rR (w:World) (t:Tp):∀ j u,t.row[j]?=some u→(w.alloc (.cells #[.string t.a,.string t.b,.string t.r,.string t.c,.string t.d,.string t.s] 42)).cell? ((⟨w.heap.size,0,none⟩:Addr).add j)=some u:=by
 intro j u hu;rw [show (⟨w.heap.size,0,none⟩:Addr).add j=⟨w.heap.size,0 + j,none⟩ by simp [Addr.add]; omega,Nat.zero_add];have:=World.cell?_alloc_mark w #[.string t.a,.string t.b,.string t.r,.string t.c,.string t.d,.string t.s] 42 (0,0) j;rw [this];simpa [Tp.row] using hu
theorem Jl {w:World} {base n:Nat} {v:Value} {ts:List Tp} (h:w.ownsRow base 42 6 v n (aB ts)) (hn:n=ts.length):∃ ad cap,v=.slice ad ts.length cap∧Sl w ad ts∧∀ g,ad=some ⟨g,0,none⟩→base≤g∧g < w.heap.size∧BR w g:=by
 subst hn;have h2:=h;rcases h.2 with ⟨rfl,h0⟩ | ⟨g,cap,cur,rfl,hbg,hg,hnc,-⟩
 ·exact ⟨none,0,by rw [h0],.inl (List.length_eq_zero_iff.1 h0),fun g e=>by cases e⟩
 ·have hlt:=h2.lt g rfl;refine ⟨some ⟨g,0,none⟩,cap,rfl,.inr ⟨g,0,rfl,hlt.2,fun i hi=>?_⟩,fun g' e=>?_⟩
  ·have hl:=dX ts;have key:∀ j,j < 6→w.cell? ⟨g,0 + i * 6 + j,none⟩=(ts[i]).row[j]?:=fun j hj=>by
    rw [h2.cellAt (0 + i * 6 + j) (by omega),← qC ts i hi j hj,Nat.zero_add]
   exact ⟨key 0 (by omega),key 1 (by omega),key 2 (by omega),key 3 (by omega),key 4 (by omega),key 5 (by omega)⟩
  ·injection e with e; injection e with e1 e2;subst e1;exact ⟨hlt.1,hlt.2,fun y=>h2.frozenAt y⟩
def dB (ts:List Tp) (t:Tp):List Tp:=ts.filter fun x=>!ko x t
theorem Ef {ts:List Tp} {t:Tp} {k:Nat} (h:k < ts.length):dB (ts.take (k + 1)) t=dB (ts.take k) t ++ (if ko ts[k] t then [] else [ts[k]]):=by
 rw [List.take_succ_eq_append_getElem h];unfold dB;rw [List.filter_append];cases e:ko ts[k] t <;> simp [e]
theorem GN (ts:List Tp) (t:Tp) (k:Nat):(dB (ts.take k) t).length≤k:=by
 unfold dB;exact Nat.le_trans (List.length_filter_le _ _) (by simp; omega)
def Tp.text (t:Tp):List UInt8:=(aN t.a t.b t.r t.c t.d t.s).toList
theorem Jm {x y:Tp} (hx:x.ok=true) (hy:y.ok=true) (e:x.text=y.text):x=y:=by
 obtain ⟨h1,h2,h3,h4,h5,h6⟩:=tN hx hy (ic e);obtain ⟨xa,xb,xr,xc,xd,xs⟩:=x;obtain ⟨ya,yb,yr,yc,yd,ys⟩:=y;simp only at h1 h2 h3 h4 h5 h6;rw [h1,h2,h3,h4,h5,h6]
theorem iK {x y:Tp} (hx:x.ok=true) (hy:y.ok=true):x.ahead y=Op.bytesLess x.text y.text:=pF hx hy
theorem vS {x y:Tp} (h:x.ahead y=true):x.ok=true∧y.ok=true:=by
 unfold Tp.ahead dU at h;simp only [Bool.and_eq_true] at h;exact ⟨h.1.1,h.1.2⟩
theorem ja {x y z:Tp} (h:x.ahead y=true) (k:y.ahead z=true):x.ahead z=true:=by
 obtain ⟨hx,hy⟩:=vS h;obtain ⟨-,hz⟩:=vS k;rw [iK hx hy] at h;rw [iK hy hz] at k;rw [iK hx hz];exact vP _ _ _ h k
theorem ig (x:Tp):x.ahead x=false:=by
 cases h:x.ahead x with
 | false=>rfl
 | true=>obtain ⟨hx,-⟩:=vS h; rw [iK hx hx,tO] at h; cases h
theorem BS {x y:Tp} (hx:x.ok=true) (hy:y.ok=true) (hne:x ≠ y):x.ahead y=true ∨ y.ahead x=true:=by
 rw [iK hx hy,iK hy hx];exact vQ _ _ fun e=>hne (Jm hx hy e)
def Up (l:List Tp):Prop:=l.Pairwise fun x y=>x.ahead y=true
theorem NE {ts:List Tp} (h:eu ts=true):Up ts∧(∀ t ∈ ts,t.ok=true)∧ts.length≤40:=by
 unfold eu at h;simp only [Bool.and_eq_true,decide_eq_true_eq] at h;obtain ⟨hl,hu⟩:=h;have hat:∀ i,i < ts.length→uC ts i=true:=fun i hi=>by
  unfold rH at hu;exact List.all_eq_true.1 hu i (List.mem_range.2 hi)
 have hok:∀ i (hi:i < ts.length),ts[i].ok=true:=fun i hi=>by
  have:=hat i hi;cases i with
  | zero=>rw [rJ hi] at this; exact this
  | succ j=>rw [nP hi] at this; simp only [Bool.and_eq_true] at this; exact this.1
 have hnx:∀ i (hi:i + 1 < ts.length),ts[i].ahead ts[i + 1]=true:=fun i hi=>by
  have:=hat (i + 1) hi;rw [nP hi] at this; simp only [Bool.and_eq_true] at this; exact this.2
 refine ⟨List.pairwise_iff_getElem.2 fun i j hi hj hij=>?_,fun t ht=>?_,hl⟩
 ·obtain ⟨d,rfl⟩:∃ d,j=i + 1 + d:=⟨j - (i + 1),by omega⟩
  induction d with
  | zero=>exact hnx i hj
  | succ d ih=>exact ja (ih (by omega) (by omega)) (hnx (i + 1 + d) (by omega))
 ·obtain ⟨i,hi,rfl⟩:=List.mem_iff_getElem.1 ht;exact hok i hi
theorem MP {xs ys:List Tp} (hx:Up xs) (hy:Up ys) (h:∀ t,t ∈ xs ↔ t ∈ ys):xs=ys:=by
 have nd:∀ {l:List Tp},Up l→l.Nodup:=fun hl=>hl.imp fun {a b} hab e=>by subst e; rw [ig] at hab; cases hab
 exact List.Perm.eq_of_pairwise (le:=fun (a b:Tp)=>a.ahead b=true) (fun a b _ _ h1 h2=>by have:=ja h1 h2; rw [ig] at this; cases this) hx hy ((List.perm_ext_iff_of_nodup (nd hx) (nd hy)).2 h)
def jA:List Tp→Tp→List Tp
 | [],t=>[t]
 | x::xs,t=>if x.ahead t then x::jA xs t else t::x::xs
theorem qE (ts:List Tp) (t y:Tp):y ∈ jA ts t ↔ y=t ∨ y ∈ ts:=by
 induction ts with
 | nil=>simp [jA]
 | cons x xs ih =>
  unfold jA;split
  ·simp only [List.mem_cons,ih];constructor
   ·rintro (h | h | h)
    ·exact .inr (.inl h)
    ·exact .inl h
    ·exact .inr (.inr h)
   ·rintro (h | h | h)
    ·exact .inr (.inl h)
    ·exact .inl h
    ·exact .inr (.inr h)
  ·simp
theorem Lg {ts:List Tp} {t:Tp} (hu:Up ts) (hok:∀ x ∈ ts,x.ok=true) (ht:t.ok=true) (hn:t ∉ ts):Up (jA ts t):=by
 induction ts with
 | nil=>exact List.pairwise_singleton _ _
 | cons x xs ih =>
  obtain ⟨h1,h2⟩:=List.pairwise_cons.1 hu;unfold jA;split
  ·rename_i hx;refine List.pairwise_cons.2 ⟨fun y hy=>?_,ih h2 (fun y hy=>hok y (List.mem_cons_of_mem _ hy)) (fun hm=>hn (List.mem_cons_of_mem _ hm))⟩;rcases (qE xs t y).1 hy with rfl | hy
   ·exact hx
   ·exact h1 y hy
  ·rename_i hx;have hne:x ≠ t:=fun e=>hn (by rw [e]; exact List.mem_cons_self);have htx:t.ahead x=true:=by
    rcases BS (hok x List.mem_cons_self) ht hne with h | h
    ·exact absurd h hx
    ·exact h
   refine List.pairwise_cons.2 ⟨fun y hy=>?_,hu⟩;rcases List.mem_cons.1 hy with rfl | hy
   ·exact htx
   ·exact ja htx (h1 y hy)
theorem Ar (ts:List Tp) (t:Tp) (k:Nat) (hk:k≤ts.length) (h1:∀ i (h:i < ts.length),i < k→ts[i].ahead t=true) (h2:∀ h:k < ts.length,ts[k].ahead t=false):jA ts t=ts.take k ++ t::ts.drop k:=by
 induction ts generalizing k with
 | nil=>simp [jA]
 | cons x xs ih =>
  cases k with
  | zero =>
   have:=h2 (by simp);simp only [List.getElem_cons_zero] at this;simp [jA,this]
  | succ k =>
   have hx:=h1 0 (by simp) (by omega);simp only [List.getElem_cons_zero] at hx;have:=ih k (by simpa using hk) (fun i hi hik=>by have:=h1 (i + 1) (by simpa using hi) (by omega); simpa using this) (fun h=>by have:=h2 (by simpa using h); simpa using this);simp [jA,hx,this]
theorem nQ (ts:List Tp) (t y:Tp):y ∈ dB ts t ↔ y ∈ ts∧y ≠ t:=by
 unfold dB;rw [List.mem_filter];have:((!ko y t)=true) ↔ y ≠ t:=by
  cases e:ko y t
  ·simp only [Bool.not_false,true_iff]; intro h; rw [kF.2 h] at e; cases e
  ·simp only [Bool.not_true,Bool.false_eq_true,false_iff,ne_eq]; intro h; exact h (kF.1 e)
 rw [this]
theorem BU {ts:List Tp} (t:Tp) (hu:Up ts):Up (dB ts t):=List.Pairwise.filter _ hu
theorem BV {ts:List Tp} {t:Tp}:gm ts t=true ↔ t ∈ ts:=by
 unfold gm;rw [List.any_eq_true];constructor
 ·rintro ⟨x,hx,e⟩; rw [← kF.1 e]; exact hx
 ·intro h; exact ⟨t,h,kF.2 rfl⟩
def bi (fit:Tp→Bool) (ts:List Tp) (k:Int) (t:Tp):Int :=
  if (k=1 ∨ k=2)∧t.ok=true then
    (if k=2 then (if gm ts t then 0 else 5)
     else if fit t then (if gm ts t then 4 else if 40≤ts.length then 6 else 0) else 3)
  else 2
def dC (ts:List Tp) (k:Int) (t:Tp):List Tp:=if k=2 then dB ts t else jA ts t
theorem jD {fit:Tp→Bool} {ts:List Tp} {k:Int} {t:Tp} (h:¬ ((k=1 ∨ k=2)∧t.ok=true)):bi fit ts k t=2:=by unfold bi; rw [if_neg h]
theorem nR {fit:Tp→Bool} {ts:List Tp} {t:Tp} (ht:t.ok=true):bi fit ts 2 t=if gm ts t then 0 else 5:=by unfold bi; rw [if_pos ⟨.inr rfl,ht⟩,if_pos rfl]
theorem kG {fit:Tp→Bool} {ts:List Tp} {t:Tp} (ht:t.ok=true):bi fit ts 1 t=if fit t then (if gm ts t then 4 else if 40≤ts.length then 6 else 0) else 3:=by unfold bi; rw [if_pos ⟨.inl rfl,ht⟩,if_neg (by decide)]
theorem yV {fit:Tp→Bool} {ts:List Tp} {k:Int} {t:Tp} (h:bi fit ts k t=0):t.ok=true∧((k=2∧t ∈ ts) ∨ (k=1∧fit t=true∧t ∉ ts∧ts.length < 40)):=by
 by_cases hf:(k=1 ∨ k=2)∧t.ok=true
 ·refine ⟨hf.2,?_⟩;rcases hf.1 with rfl | rfl
  ·rw [kG hf.2] at h;cases h1:fit t with
   | false=>rw [h1] at h; simp at h
   | true =>
    rw [h1] at h;cases h2:gm ts t with
    | true=>rw [h2] at h; simp at h
    | false =>
     rw [h2] at h;by_cases h3:40≤ts.length
     ·rw [if_pos h3] at h; simp at h
     ·exact .inr ⟨rfl,rfl,fun hm=>absurd (BV.2 hm) (by rw [h2]; decide),by omega⟩
  ·rw [nR hf.2] at h;cases h2:gm ts t with
   | true=>exact .inl ⟨rfl,BV.1 h2⟩
   | false=>rw [h2] at h; simp at h
 ·rw [jD hf] at h; cases h
theorem vV (ts:List Tp) (t:Tp):(jA ts t).length=ts.length + 1:=by
 induction ts with
 | nil=>rfl
 | cons x xs ih =>
  unfold jA;cases x.ahead t with
  | true=>simp only [if_true,List.length_cons,ih]
  | false=>simp
theorem pJ {fit:Tp→Bool} {ts:List Tp} {k:Int} {t:Tp} (hu:Up ts) (hok:∀ x ∈ ts,x.ok=true) (hl:ts.length≤40) (h:bi fit ts k t=0) :
  Up (dC ts k t)∧(∀ x ∈ dC ts k t,x.ok=true)∧(dC ts k t).length≤40:=by
 obtain ⟨ht,⟨rfl,hm⟩ | ⟨rfl,hf,hn,hlt⟩⟩:=yV h
 ·unfold dC; rw [if_pos rfl];exact ⟨BU t hu,fun x hx=>hok x ((nQ ts t x).1 hx).1,Nat.le_trans (List.length_filter_le _ _) hl⟩
 ·unfold dC; rw [if_neg (by decide)];refine ⟨Lg hu hok ht hn,fun x hx=>?_,by rw [vV]; omega⟩;rcases (qE ts t x).1 hx with rfl | h1
  ·exact ht
  ·exact hok x h1
structure LowT (ts:List Tp) (t:Tp) (n:Nat):Prop where
 le:n≤ts.length
 low:∀ i (h:i < ts.length),i < n→ts[i].ahead t=true
 high:∀ i (h:i < ts.length),n≤i→ts[i].ahead t=false
theorem Jn {ts:List Tp} (hu:Up ts) {i j:Nat} (hi:i < ts.length) (hj:j < ts.length) (hij:i < j):ts[i].ahead ts[j]=true:=(List.pairwise_iff_getElem.1 hu) i j hi hj hij
theorem Jo {ts:List Tp} {t:Tp} (hu:Up ts) {m:Nat} (hm:m < ts.length) (h:ts[m].ahead t=true):∀ i (hi:i < ts.length),i < m + 1→ts[i].ahead t=true:=fun i hi him=>by
 by_cases e:i=m
 ·subst e; exact h
 ·exact ja (Jn hu hi hm (by omega)) h
theorem GQ {ts:List Tp} {t:Tp} (hu:Up ts) {m:Nat} (hm:m < ts.length) (h:ts[m].ahead t=false):∀ i (hi:i < ts.length),m≤i→ts[i].ahead t=false:=fun i hi him=>by
 by_cases e:i=m
 ·subst e; exact h
 ·cases hc:ts[i].ahead t with
  | false=>rfl
  | true=>rw [ja (Jn hu hm hi (by omega)) hc] at h; cases h
theorem Lh {ts:List Tp} {t:Tp} {n:Nat} (h:LowT ts t n):jA ts t=ts.take n ++ t::ts.drop n :=
 Ar ts t n h.le h.low fun hn=>h.high n hn (Nat.le_refl _)
theorem Jp {ts:List Tp} {t:Tp} {n:Nat} (h:LowT ts t n) (hu:Up ts) (hm:t ∈ ts):∃ hn:n < ts.length,ts[n]=t:=by
 obtain ⟨i,hi,e⟩:=List.getElem_of_mem hm;have h1:¬ i < n:=fun hl=>by
  have:=h.low i hi hl;rw [e,ig] at this; cases this
 refine ⟨by omega,?_⟩;by_cases e2:n=i
 ·subst e2; exact e
 ·have h2:=Jn hu (i:=n) (j:=i) (by omega) hi (by omega);rw [e,h.high n (by omega) (Nat.le_refl _)] at h2; cases h2
theorem Jq {ts:List Tp} {t:Tp} {n:Nat} (h:LowT ts t n) (hu:Up ts) (hm:t ∈ ts):dB ts t=ts.take n ++ ts.drop (n + 1):=by
 obtain ⟨hn,e⟩:=Jp h hu hm;refine MP (BU t hu) ?_ fun x=>?_
 ·have:(ts.take n ++ ts.drop (n + 1)).Sublist ts:=by
   conv=>rhs; rw [← List.take_append_drop n ts]
   exact (List.Sublist.refl _).append (List.drop_sublist_drop_left ts (by omega))
  exact List.Pairwise.sublist this hu
 ·rw [nQ];have hsp:ts=ts.take n ++ t::ts.drop (n + 1):=by rw [← e,← List.drop_eq_getElem_cons hn,List.take_append_drop]
  have hnd:t ∉ ts.take n∧t ∉ ts.drop (n + 1):=by
   have hu2:=hu;rw [hsp] at hu2;have hp:=List.pairwise_append.1 hu2;have hp2:=List.pairwise_cons.1 hp.2.1;refine ⟨fun hx=>?_,fun hx=>?_⟩
   ·have:=hp.2.2 t hx t (by simp);rw [ig] at this; cases this
   ·have:=hp2.1 t hx;rw [ig] at this; cases this
  constructor
  ·rintro ⟨h1,h2⟩;rw [hsp] at h1;rcases List.mem_append.1 h1 with h3 | h3
   ·exact List.mem_append.2 (.inl h3)
   ·rcases List.mem_cons.1 h3 with h4 | h4
    ·exact absurd h4 h2
    ·exact List.mem_append.2 (.inr h4)
  ·intro h1;rcases List.mem_append.1 h1 with h3 | h3
   ·exact ⟨List.mem_of_mem_take h3,fun e=>hnd.1 (e ▸ h3)⟩
   ·exact ⟨List.mem_of_mem_drop h3,fun e=>hnd.2 (e ▸ h3)⟩
def kH (fit:Tp→Bool):List Tp→List (Int × Tp)→Option (List Tp)
 | ts,[]=>some ts
 | ts,c::cs=>if bi fit ts c.1 c.2=0 then kH fit (dC ts c.1 c.2) cs else none
theorem BX {fit:Tp→Bool} {cs:List (Int × Tp)} {ts:List Tp} {i n:Nat} (hi:i < cs.length) (hin:i < n):kH fit ts ((cs.take n).drop i)=if bi fit ts cs[i].1 cs[i].2=0 then kH fit (dC ts cs[i].1 cs[i].2) ((cs.take n).drop (i + 1)) else none:=by
 have h:i < (cs.take n).length:=by rw [List.length_take]; omega
 rw [List.drop_eq_getElem_cons h,List.getElem_take];rfl
set_option maxRecDepth 8000 in
theorem yX (ad:Option Addr) (cap:Nat) (ts:List Tp) (t:Tp) (w:World) (hlen:ts.length≤1048576) (hs:Sl w ad ts) :
  Calls prog 78 #[.slice ad ts.length cap,.agg #[.string t.a,.string t.b,.string t.r,.string t.c,.string t.d,.string t.s]] w fun e w'=>e=.returned (.bool (gm ts t))∧Below w.heap.size w w':=by
 have HS:Hid (Sl w ad ts):=hs;clear hs;obtain ⟨W0,hW0⟩:∃ W0,W0=w.alloc (.cells #[.string t.a,.string t.b,.string t.r,.string t.c,.string t.d,.string t.s] 42):=⟨_,rfl⟩;have HB0:=mq hW0;have HX0:Hid (W0.cell? ⟨w.heap.size,0,none⟩=some (.string t.a)∧W0.cell? ⟨w.heap.size,1,none⟩=some (.string t.b)∧W0.cell? ⟨w.heap.size,2,none⟩=some (.string t.r)∧W0.cell? ⟨w.heap.size,3,none⟩=some (.string t.c)∧W0.cell? ⟨w.heap.size,4,none⟩=some (.string t.d)∧W0.cell? ⟨w.heap.size,5,none⟩=some (.string t.s)∧w.heap.size < W0.heap.size):=by show _∧_; rw [hW0]; refine ⟨?_,?_,?_,?_,?_,?_,?_⟩ <;> simp
 go_enter func78,ntmps78;go_wp2;rw [← hW0];clear hW0;go_loopw [5] (fun i wr=>∃ k:Nat,k≤ts.length∧i=.int .i64 k∧Hid (gm (ts.drop k) t=gm ts t)∧Hid (Below W0.heap.size W0 wr)) (fun i _=>ts.length - (intOf i).toNat);case atStart=>exact ⟨0,Nat.zero_le _,rfl,rfl,Below.refl _ _⟩
 case round =>
  obtain ⟨k,hk,rfl,HP,HB⟩:=hrel;have HBW:Hid (Below w.heap.size w wr):=HB0.out.trans (HB.out.mono HB0.out.size);by_cases hlt:k < ts.length
  ·rcases HS.out.below HBW.out with hnil | ⟨b,off,rfl,hb,hr⟩
   ·rw [hnil] at hlt; simp at hlt
   obtain ⟨t0,t1,t2,t3,t4,t5⟩:=hr k hlt;have x0:=mK HB.out HX0.out.2.2.2.2.2.2 HX0.out.1;have x1:=mK HB.out HX0.out.2.2.2.2.2.2 HX0.out.2.1;have x2:=mK HB.out HX0.out.2.2.2.2.2.2 HX0.out.2.2.1;have x3:=mK HB.out HX0.out.2.2.2.2.2.2 HX0.out.2.2.2.1;have x4:=mK HB.out HX0.out.2.2.2.2.2.2 HX0.out.2.2.2.2.1;have x5:=mK HB.out HX0.out.2.2.2.2.2.2 HX0.out.2.2.2.2.2.1;have hk1:=bq k;have hk2:(k:Int) < (ts.length:Int):=by omega
   have HD:Hid (gm ts t=(ko ts[k] t || gm (ts.drop (k + 1)) t)):=by show _=_; rw [← HP.out]; exact GM hlt
   clear hr;cases hq:ko ts[k] t with
   | true =>
    have heq:=Aq ts[k] t hq;have HN:Hid (gm ts t=true):=by show _=_; rw [HD.out,hq]; rfl
    clear hq;go_wp2_with fail;go_region_held3 (fun w'=>w'.cell? ⟨b,off + k * 6,none⟩=some (.string ts[k].a)∧w'.cell? ⟨b,off + k * 6 + 1,none⟩=some (.string ts[k].b)∧w'.cell? ⟨b,off + k * 6 + 2,none⟩=some (.string ts[k].r)∧w'.cell? ⟨b,off + k * 6 + 3,none⟩=some (.string ts[k].c)∧w'.cell? ⟨b,off + k * 6 + 4,none⟩=some (.string ts[k].d)∧w'.cell? ⟨b,off + k * 6 + 5,none⟩=some (.string ts[k].s)∧w'.cell? ⟨w.heap.size,0,none⟩=some (.string t.a)∧w'.cell? ⟨w.heap.size,1,none⟩=some (.string t.b)∧w'.cell? ⟨w.heap.size,2,none⟩=some (.string t.r)∧w'.cell? ⟨w.heap.size,3,none⟩=some (.string t.c)∧w'.cell? ⟨w.heap.size,4,none⟩=some (.string t.d)∧w'.cell? ⟨w.heap.size,5,none⟩=some (.string t.s)∧Below wr.heap.size wr w') (first | assumption | exact ⟨t0,t1,t2,t3,t4,t5,x0,x1,x2,x3,x4,x5,(Below.refl _ _).drew⟩) (fail);rename_i hH;have HG:Hid (Below wr.heap.size wr _):=hH.2.2.2.2.2.2.2.2.2.2.2.2;clear hH t0 t1 t2 t3 t4 t5 x0 x1 x2 x3 x4 x5 heq;go_wp2;go_ret;exact ⟨by rw [HN.out]; rfl,HBW.out.trans (HG.out.mono HBW.out.size)⟩
   | false =>
    have heq:=Aq ts[k] t hq;have HP2:Hid (gm (ts.drop (k + 1)) t=gm ts t):=by show _=_; rw [HD.out,hq]; rfl
    clear hq;go_wp2_with fail;go_region_held3 (fun w'=>w'.cell? ⟨b,off + k * 6,none⟩=some (.string ts[k].a)∧w'.cell? ⟨b,off + k * 6 + 1,none⟩=some (.string ts[k].b)∧w'.cell? ⟨b,off + k * 6 + 2,none⟩=some (.string ts[k].r)∧w'.cell? ⟨b,off + k * 6 + 3,none⟩=some (.string ts[k].c)∧w'.cell? ⟨b,off + k * 6 + 4,none⟩=some (.string ts[k].d)∧w'.cell? ⟨b,off + k * 6 + 5,none⟩=some (.string ts[k].s)∧w'.cell? ⟨w.heap.size,0,none⟩=some (.string t.a)∧w'.cell? ⟨w.heap.size,1,none⟩=some (.string t.b)∧w'.cell? ⟨w.heap.size,2,none⟩=some (.string t.r)∧w'.cell? ⟨w.heap.size,3,none⟩=some (.string t.c)∧w'.cell? ⟨w.heap.size,4,none⟩=some (.string t.d)∧w'.cell? ⟨w.heap.size,5,none⟩=some (.string t.s)∧Below wr.heap.size wr w') (first | assumption | exact ⟨t0,t1,t2,t3,t4,t5,x0,x1,x2,x3,x4,x5,(Below.refl _ _).drew⟩) (fail);rename_i hH;have HG:Hid (Below W0.heap.size W0 _):=HB.out.trans (hH.2.2.2.2.2.2.2.2.2.2.2.2.mono HB.out.size);clear hH t0 t1 t2 t3 t4 t5 x0 x1 x2 x3 x4 x5 heq;go_wp2;go_roundw;case rel=>exact ⟨k + 1,by omega,by go_num,HP2,HG⟩
    case measure=>simp [intOf] <;> omega
  ·have HN:Hid (gm ts t=false):=by show _=_; rw [← HP.out,List.drop_of_length_le (by omega)]; rfl
   go_wp2;go_ret;exact ⟨by rw [HN.out]; rfl,HBW.out⟩
theorem aU {B:Nat} {w w':World} (hB:Below B w w') {n o:Nat} {v:Value} (hn:n < B) (h:w.cell? ⟨n,o,none⟩=some v):w'.cell? ⟨n,o,none⟩=some v:=(hB.cell (p:=⟨n,o,none⟩) hn).trans h
theorem aj {p:Prop} (h:p):Hid p:=h
theorem aH {w w':World} {base:Nat} {e:TypeId} {size:Nat} {v:Value} {n:Nat} {xs:List Value} (h:w.ownsRow base e size v n xs) (hb:Below w.heap.size w w'):w'.ownsRow base e size v n xs:=by
 have hl:=fun g hg=>(h.lt g hg).2;refine ⟨h.1,?_⟩;rcases h.2 with h0 | ⟨g,cap,cur,rfl,h1,h2,h3⟩
 ·exact .inl h0
 ·exact .inr ⟨g,cap,cur,rfl,h1,(hb.block g (hl g rfl)).trans h2,h3⟩
set_option maxRecDepth 100000
theorem yY (x y:Tp):ko x y=ko y x:=by
 rw [Bool.eq_iff_iff,kF,kF];exact ⟨Eq.symm,Eq.symm⟩
theorem GR {ts:List Tp} {t:Tp} {k:Nat} (h:k < ts.length):gm (ts.take (k + 1)) t=(gm (ts.take k) t || ko ts[k] t):=by
 rw [List.take_succ_eq_append_getElem h];unfold gm;rw [List.any_append];simp only [List.any_cons,List.any_nil,Bool.or_false]
theorem Jr {ts:List Tp} {t:Tp} {k:Nat} (h:k < ts.length) (he:ko ts[k] t=true):gm ts t=true:=List.any_eq_true.2 ⟨ts[k],List.getElem_mem h,he⟩
theorem Eg (ad:Option Addr) (cap:Nat) (ts:List Tp) (t:Tp) (w:World) (hlen:ts.length≤1048576) (hs:Sl w ad ts) :
  Calls prog 185 #[.slice ad ts.length cap,.agg #[.string t.a,.string t.b,.string t.r,.string t.c,.string t.d,.string t.s]] w fun e w'=>(∃ r:Int,e=.returned (.int .i64 r)∧decide (0≤r)=gm ts t)∧Below w.heap.size w w':=by
 obtain ⟨W,hW⟩:∃ W,W=w.alloc (.cells #[.string t.a,.string t.b,.string t.r,.string t.c,.string t.d,.string t.s] 42):=⟨_,rfl⟩;have HB0:Hid (Below w.heap.size w W):=by show Below _ _ _; rw [hW]; exact (Below.refl w.heap.size w).alloc (Nat.le_refl _) _
 have hz:w.heap.size < W.heap.size:=by rw [hW]; simp
 have b0:W.cell? ⟨w.heap.size,0,none⟩=some (.string t.a):=by rw [hW]; simp
 have b1:W.cell? ⟨w.heap.size,1,none⟩=some (.string t.b):=by rw [hW]; simp
 have b2:W.cell? ⟨w.heap.size,2,none⟩=some (.string t.r):=by rw [hW]; simp
 have b3:W.cell? ⟨w.heap.size,3,none⟩=some (.string t.c):=by rw [hW]; simp
 have b4:W.cell? ⟨w.heap.size,4,none⟩=some (.string t.d):=by rw [hW]; simp
 have b5:W.cell? ⟨w.heap.size,5,none⟩=some (.string t.s):=by rw [hW]; simp
 have HS:Hid (Sl W ad ts):=hs.below HB0.out;clear hs;go_enter func185,ntmps185;go_wp2_with fail;rw [← hW];clear hW;go_loopw [8] (fun i wr=>∃ k:Nat,k≤ts.length∧i=.int .i64 k∧Hid (gm (ts.take k) t=false)∧Below W.heap.size W wr) (fun i _=>ts.length - (intOf i).toNat);case atStart=>exact ⟨0,Nat.zero_le _,rfl,rfl,Below.refl _ _⟩
 case round =>
  obtain ⟨k,hk,rfl,HP,hB⟩:=hrel;have a0:=aU hB hz b0;have a1:=aU hB hz b1;have a2:=aU hB hz b2;have a3:=aU hB hz b3;have a4:=aU hB hz b4;have a5:=aU hB hz b5;by_cases hlt:k < ts.length
  ·rcases HS.out.below hB with hnil | ⟨b,off,rfl,hb,hr⟩
   ·rw [hnil] at hlt; simp at hlt
   obtain ⟨t0,t1,t2,t3,t4,t5⟩:=hr k hlt;have hk1:=bq k;have hk2:(k:Int) < (ts.length:Int):=by omega
   clear hr;cases hq:ko t ts[k] with
   | true =>
    have HE:=Aq t ts[k] hq;have HN:Hid (gm ts t=true):=Jr hlt (by rw [yY]; exact hq);go_wp2_with fail;go_quiet (fail);go_wp2;go_ret;exact ⟨⟨_,rfl,by rw [HN.out]; simp⟩,HB0.out.trans (below_drewN (hB.mono HB0.out.size) _)⟩
   | false =>
    have HE:=Aq t ts[k] hq;have HP2:Hid (gm (ts.take (k + 1)) t=false):=by show _=_; rw [GR hlt,HP.out,yY,hq]; rfl
    go_wp2_with fail;go_quiet (fail);go_wp2;go_roundw;case rel=>exact ⟨k + 1,by omega,by go_num,HP2,below_drewN hB _⟩
    case measure=>simp [intOf] <;> omega
  ·obtain rfl:k=ts.length:=by omega
   have HN:Hid (gm ts t=false):=by have:=HP.out; rw [List.take_length] at this; exact this
   go_wp2;go_ret;exact ⟨⟨-1,rfl,by rw [HN.out]; rfl⟩,HB0.out.trans (hB.mono HB0.out.size)⟩
theorem yj (ad:Option Addr) (cap:Nat) (ts:List Tp) (t:Tp) (w:World) (hlen:ts.length≤1048576) (hs:Sl w ad ts) :
  Calls prog 155 #[.slice ad ts.length cap,.agg #[.string t.a,.string t.b,.string t.r,.string t.c,.string t.d,.string t.s]] w fun e w'=>e=.returned (.bool (gm ts t))∧Below w.heap.size w w':=by
 have HB0:Hid (Below w.heap.size w (w.alloc (.cells #[.string t.a,.string t.b,.string t.r,.string t.c,.string t.d,.string t.s] 42))):=(Below.refl w.heap.size w).alloc (Nat.le_refl _) _;have HS:=aj hs;clear hs;go_enter func155,ntmps155;go_wp2_with fail;refine (Eg ad cap ts t _ hlen (HS.out.below HB0.out)).mono ?_;rintro e w1 ⟨⟨r,rfl,hr⟩,hb1⟩;have HR:=aj hr;have HB1:=aj (HB0.out.trans (hb1.mono HB0.out.size));clear hr hb1;go_wp2;go_ret;exact ⟨ae HR.out,HB1.out⟩
theorem iL {w:World} {b off:Nat} {ts:List Tp} (h:eH w b off ts):∀ j u,(aB ts)[j]?=some u→w.cell? ((⟨b,off,none⟩:Addr).add j)=some u:=by
 intro j u hu;have hl:=dX ts;have hj:j < ts.length * 6:=by
  rcases Nat.lt_or_ge j (aB ts).length with h | h
  ·omega
  ·rw [List.getElem?_eq_none h] at hu; cases hu
 have hi:j / 6 < ts.length:=by omega
 have hr:j % 6 < 6:=Nat.mod_lt _ (by omega);have e:j=j / 6 * 6 + j % 6:=by omega
 rw [e,qC ts _ hi _ hr] at hu;rw [show ((⟨b,off,none⟩:Addr).add j)=⟨b,off + j / 6 * 6 + j % 6,none⟩ by rw [show (⟨b,off,none⟩:Addr).add j=⟨b,off + j,none⟩ by simp [Addr.add]]; congr 1; omega];obtain ⟨c0,c1,c2,c3,c4,c5⟩:=h (j / 6) hi;have h6:j % 6=0 ∨ j % 6=1 ∨ j % 6=2 ∨ j % 6=3 ∨ j % 6=4 ∨ j % 6=5:=by omega
 rcases h6 with e6 | e6 | e6 | e6 | e6 | e6 <;> rw [e6] at hu ⊢ <;> simp only [Tp.row,List.getElem?_cons_zero,List.getElem?_cons_succ] at hu <;> rw [← hu] <;> assumption
theorem yZ {w:World} {b off:Nat} {ts:List Tp} (h:eH w b off ts) (k:Nat):eH w b off (ts.take k):=fun i hi=>by
 have:=h i (by simp at hi; omega);simpa using this
theorem GU {w:World} {b off:Nat} {ts:List Tp} (h:eH w b off ts) (k:Nat):eH w b (off + k * 6) (ts.drop k):=fun i hi=>by
 have:=h (k + i) (by simp at hi; omega);simp only [List.getElem_drop];rw [show off + k * 6 + i * 6=off + (k + i) * 6 by omega];exact this
theorem iM (ts:List Tp):∀ u ∈ aB ts,u.oneCell'=true:=by
 intro u hu;unfold aB at hu;obtain ⟨t,-,h⟩:=List.mem_flatMap.1 hu;exact qD t u h
theorem lu (xs ys:List Tp):aB (xs ++ ys)=aB xs ++ aB ys:=by simp [aB]
def oL (w:World) (g:Nat) (t:Tp):Prop:=w.cell? ⟨g,0,none⟩=some (.string t.a)∧w.cell? ⟨g,1,none⟩=some (.string t.b)∧w.cell? ⟨g,2,none⟩=some (.string t.r)∧w.cell? ⟨g,3,none⟩=some (.string t.c)∧w.cell? ⟨g,4,none⟩=some (.string t.d)∧w.cell? ⟨g,5,none⟩=some (.string t.s)∧g < w.heap.size
theorem oL.below {w w':World} {g:Nat} {t:Tp} (h:oL w g t) (hb:Below w.heap.size w w'):oL w' g t :=
 ⟨mK hb h.2.2.2.2.2.2 h.1,mK hb h.2.2.2.2.2.2 h.2.1,mK hb h.2.2.2.2.2.2 h.2.2.1,mK hb h.2.2.2.2.2.2 h.2.2.2.1,mK hb h.2.2.2.2.2.2 h.2.2.2.2.1,mK hb h.2.2.2.2.2.2 h.2.2.2.2.2.1,Nat.lt_of_lt_of_le h.2.2.2.2.2.2 hb.size⟩
theorem Au (w:World) (t:Tp) (T:TypeId):oL (w.alloc (.cells #[.string t.a,.string t.b,.string t.r,.string t.c,.string t.d,.string t.s] T)) w.heap.size t:=by
 refine ⟨?_,?_,?_,?_,?_,?_,?_⟩ <;> simp
theorem oL.grown {w w':World} {g:Nat} {t:Tp} {row:Option Nat} (h:oL w g t) (hg:w.grownBy w' row) (hne:some g ≠ row):oL w' g t :=
 ⟨hg.cell h.1 hne,hg.cell h.2.1 hne,hg.cell h.2.2.1 hne,hg.cell h.2.2.2.1 hne,hg.cell h.2.2.2.2.1 hne,hg.cell h.2.2.2.2.2.1 hne,Nat.lt_of_lt_of_le h.2.2.2.2.2.2 hg.size⟩
theorem lw {w w':World} {b off:Nat} {ts:List Tp} {row:Option Nat} (h:eH w b off ts) (hg:w.grownBy w' row) (_hb:b < w.heap.size) (hne:some b ≠ row):eH w' b off ts:=fun i hi=>by
 obtain ⟨c0,c1,c2,c3,c4,c5⟩:=h i hi;exact ⟨hg.cell c0 hne,hg.cell c1 hne,hg.cell c2 hne,hg.cell c3 hne,hg.cell c4 hne,hg.cell c5 hne⟩
theorem GV {ts:List Tp} {k:Nat} (h:ts.length≤k) (w:World) (ad:Addr):∀ j u,(aB (ts.drop k))[j]?=some u→w.cell? (ad.add j)=some u:=fun j u hu=>by
 rw [List.drop_of_length_le h] at hu;simp [aB] at hu
theorem jB {W:World} {base base':Nat} {e:TypeId} {size:Nat} {v:Value} {k:Nat} {xs:List Value} (h:W.ownsRow base e size v k xs) (hb:base'≤base):W.ownsRow base' e size v k xs:=by
 refine ⟨h.1,?_⟩;rcases h.2 with hn | ⟨g,cap,cur,hv,hbg,rest⟩
 ·exact .inl hn
 ·exact .inr ⟨g,cap,cur,hv,Nat.le_trans hb hbg,rest⟩
theorem mi {p:Prop} (h:p):Hid p:=h
theorem Js {w:World} {g:Nat} {t:Tp} (h0:w.cell? ⟨g,0,none⟩=some (.string t.a)) (h1:w.cell? ⟨g,1,none⟩=some (.string t.b)) (h2:w.cell? ⟨g,2,none⟩=some (.string t.r)) (h3:w.cell? ⟨g,3,none⟩=some (.string t.c)) (h4:w.cell? ⟨g,4,none⟩=some (.string t.d)) (h5:w.cell? ⟨g,5,none⟩=some (.string t.s)) (hl:g < w.heap.size):oL w g t:=⟨h0,h1,h2,h3,h4,h5,hl⟩
theorem F8 {w W w':World} {b n o:Nat} {x0 x1 x2 x3 x4 x5 y0 y1 y2 y3 y4 y5:Value} (h:W.cell? ⟨b,o,none⟩=some x0∧W.cell? ⟨b,o + 1,none⟩=some x1∧W.cell? ⟨b,o + 2,none⟩=some x2∧W.cell? ⟨b,o + 3,none⟩=some x3∧W.cell? ⟨b,o + 4,none⟩=some x4∧W.cell? ⟨b,o + 5,none⟩=some x5∧W.cell? ⟨n,0,none⟩=some y0∧W.cell? ⟨n,1,none⟩=some y1∧W.cell? ⟨n,2,none⟩=some y2∧W.cell? ⟨n,3,none⟩=some y3∧W.cell? ⟨n,4,none⟩=some y4∧W.cell? ⟨n,5,none⟩=some y5∧b < W.heap.size∧n < W.heap.size∧Below n w W) (hb:Below W.heap.size W w') :
  w'.cell? ⟨b,o,none⟩=some x0∧w'.cell? ⟨b,o + 1,none⟩=some x1∧w'.cell? ⟨b,o + 2,none⟩=some x2∧w'.cell? ⟨b,o + 3,none⟩=some x3∧w'.cell? ⟨b,o + 4,none⟩=some x4∧w'.cell? ⟨b,o + 5,none⟩=some x5∧w'.cell? ⟨n,0,none⟩=some y0∧w'.cell? ⟨n,1,none⟩=some y1∧w'.cell? ⟨n,2,none⟩=some y2∧w'.cell? ⟨n,3,none⟩=some y3∧w'.cell? ⟨n,4,none⟩=some y4∧w'.cell? ⟨n,5,none⟩=some y5∧b < w'.heap.size∧n < w'.heap.size∧Below n w w':=by
 obtain ⟨h0,h1,h2,h3,h4,h5,g0,g1,g2,g3,g4,g5,hB,hN,hw⟩:=h;exact ⟨mK hb hB h0,mK hb hB h1,mK hb hB h2,mK hb hB h3,mK hb hB h4,mK hb hB h5,mK hb hN g0,mK hb hN g1,mK hb hN g2,mK hb hN g3,mK hb hN g4,mK hb hN g5,Nat.lt_of_lt_of_le hB hb.size,Nat.lt_of_lt_of_le hN hb.size,hw.trans (hb.mono (Nat.le_of_lt hN))⟩
end Go.Proofs.YtdmniljjnaebbaaGreatDoor
