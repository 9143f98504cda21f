/- Rounds over questions, in plain words: a round asks each question by what has been found so far; a fact leans on facts of its own user alone, so a user for whom a round finds none may be left out of the rounds behind it. -/
import Derived.Test.YtdmniljjnaebbaaGreatDoorJ14
namespace Go.Proofs.YtdmniljjnaebbaaGreatDoor
set_option linter.unusedVariables false
structure Few {φ υ:Type} (us:φ→υ) (H:List φ→φ→Bool) (qs:List φ) (users:List υ) (out:List φ):Prop where
 set:∀ f ∈ qs,us f ∉ users→f ∈ out ∨ H out f=false
theorem Few.start {φ υ:Type} {us:φ→υ} {H:List φ→φ→Bool} {qs:List φ} {users:List υ} {out:List φ} (h:∀ f ∈ qs,us f ∈ users):Few us H qs users out:=⟨fun f hf hn=>absurd (h f hf) hn⟩
section
variable {φ υ:Type} [DecidableEq φ] {us:φ→υ} {H:List φ→φ→Bool}
def Loc (us:φ→υ) (H:List φ→φ→Bool):Prop:=∀ (a b:List φ) (f:φ),(∀ g,us g=us f→(g ∈ a ↔ g ∈ b))→H a f=H b f
def dw (H:List φ→φ→Bool) (out:List φ) (f:φ):List φ:=if f ∈ out ∨ H out f=false then out else out ++ [f]
def aZ (H:List φ→φ→Bool) (qs:List φ) (out:List φ):List φ:=qs.foldl (dw H) out
theorem J7 (out:List φ):aZ H [] out=out:=rfl
theorem om (q:φ) (qs out:List φ):aZ H (q::qs) out=aZ H qs (dw H out q):=rfl
theorem C8 (zas bs out:List φ):aZ H (zas ++ bs) out=aZ H bs (aZ H zas out):=by unfold aZ; rw [List.foldl_append]
theorem sN (out:List φ) (f:φ):∃ new,dw H out f=out ++ new∧∀ g ∈ new,g=f∧g ∉ out∧H out f=true:=by
 unfold dw;split
 ·exact ⟨[],by simp,fun g hg=>by cases hg⟩
 ·rename_i h;refine ⟨[f],rfl,fun g hg=>?_⟩;rw [List.mem_singleton] at hg;subst hg;refine ⟨rfl,fun e=>h (.inl e),?_⟩;cases e:H out g with
  | true=>rfl
  | false=>exact absurd (.inr e) h
theorem jf:∀ (qs out:List φ),∃ new,aZ H qs out=out ++ new∧∀ g ∈ new,g ∈ qs∧g ∉ out
 | [],out=>⟨[],by simp [J7],fun g hg=>by cases hg⟩
 | q::qs,out=>by
  obtain ⟨n1,e1,h1⟩:=sN (H:=H) out q;obtain ⟨n2,e2,h2⟩:=jf qs (dw H out q);refine ⟨n1 ++ n2,by rw [om,e2,e1,List.append_assoc],fun g hg=>?_⟩;rcases List.mem_append.1 hg with hg | hg
  ·exact ⟨by rw [(h1 g hg).1]; exact List.mem_cons_self ..,(h1 g hg).2.1⟩
  ·obtain ⟨h3,h4⟩:=h2 g hg;exact ⟨List.mem_cons_of_mem _ h3,fun e=>h4 (by rw [e1]; exact List.mem_append_left _ e)⟩
theorem nC {qs out:List φ} {g:φ} (h:g ∈ out):g ∈ aZ H qs out:=by
 obtain ⟨n,e,-⟩:=jf (H:=H) qs out;rw [e]; exact List.mem_append_left _ h
theorem sO {out:List φ} {f g:φ} (h:g ∈ out):g ∈ dw H out f:=by
 obtain ⟨n,e,-⟩:=sN (H:=H) out f;rw [e]; exact List.mem_append_left _ h
theorem EZ {out:List φ} (h:out.Nodup) (f:φ):(dw H out f).Nodup:=by
 unfold dw;split
 ·exact h
 ·rename_i hn;refine List.nodup_append.2 ⟨h,by simp,fun a ha b hb e=>?_⟩;rw [List.mem_singleton] at hb;subst hb;subst e;exact hn (.inl ha)
theorem sP:∀ (qs:List φ) {out:List φ},out.Nodup→(aZ H qs out).Nodup
 | [],_,h=>h
 | q::qs,_,h=>sP qs (EZ h q)
theorem Ie {qs out:List φ} (h:∀ f ∈ qs,f ∈ out ∨ H out f=false):aZ H qs out=out:=by
 induction qs with
 | nil=>rfl
 | cons q qs ih =>
  have e:dw H out q=out:=if_pos (h q (List.mem_cons_self ..));rw [om,e];exact ih fun f hf=>h f (List.mem_cons_of_mem _ hf)
theorem jZ (hL:Loc us H) (P:υ→Bool):∀ (qs out:List φ),(∀ f ∈ qs,P (us f)=false→f ∈ out ∨ H out f=false)→aZ H qs out=aZ H (qs.filter fun f=>P (us f)) out
 | [],_,_=>rfl
 | q::qs,out,h=>by
  rw [om,List.filter_cons];cases hp:P (us q) with
  | false =>
   have e:dw H out q=out:=if_pos (h q (List.mem_cons_self ..) hp);rw [e];exact jZ hL P qs out fun f hf=>h f (List.mem_cons_of_mem _ hf)
  | true =>
   rw [if_pos rfl,om];refine jZ hL P qs _ fun f hf hpf=>?_;have hne:us f ≠ us q:=fun e=>by rw [e,hp] at hpf; cases hpf
   obtain ⟨n,e,hn⟩:=sN (H:=H) out q;have hm:∀ g,us g=us f→(g ∈ out ↔ g ∈ dw H out q):=fun g hg=>by
    rw [e];refine ⟨fun h=>List.mem_append_left _ h,fun h=>?_⟩;rcases List.mem_append.1 h with h | h
    ·exact h
    ·exact absurd (by rw [(hn g h).1] at hg; exact hg.symm) hne
   rcases h f (List.mem_cons_of_mem _ hf) hpf with h1 | h1
   ·exact .inl ((hm f rfl).1 h1)
   ·exact .inr (by rw [← hL out _ f hm]; exact h1)
theorem qY (hL:Loc us H) (u:υ):∀ (qs out:List φ),(∀ g ∈ aZ H qs out,us g=u→g ∈ out)→∀ f ∈ qs,us f=u→f ∈ aZ H qs out ∨ H (aZ H qs out) f=false
 | [],_,_,f,hf,_=>by cases hf
 | q::qs,out,h,f,hf,hu=>by
  have hsame:∀ g,us g=u→(g ∈ dw H out q ↔ g ∈ aZ H qs (dw H out q)):=fun g hg=>⟨fun h1=>nC h1,fun h1=>sO (h g h1 hg)⟩;have hrest:∀ g ∈ aZ H qs (dw H out q),us g=u→g ∈ dw H out q:=fun g h1 h2=>(hsame g h2).2 h1;rcases List.mem_cons.1 hf with rfl | hf
  ·show f ∈ aZ H qs (dw H out f) ∨ H (aZ H qs (dw H out f)) f=false;by_cases hq:f ∈ out ∨ H out f=false
   ·rcases hq with h1 | h1
    ·exact .inl (nC (sO h1))
    ·refine .inr ?_;rw [← hL out _ f fun g hg=>?_]
     ·exact h1
     ·exact ⟨fun h2=>nC (sO h2),fun h2=>h g h2 (hg.trans hu)⟩
   ·have e:dw H out f=out ++ [f]:=if_neg hq;exact .inl (nC (by rw [e]; simp))
  ·exact qY hL u qs _ hrest f hf hu
def j3 (H:List φ→φ→Bool) (qs:List φ):Nat→List φ→List φ
 | 0,out=>out
 | k + 1,out=>if aZ H qs out=out then out else j3 H qs k (aZ H qs out)
def j4 (qs out:List φ):Nat:=(qs.filter fun f=>decide (f ∉ out)).length
theorem J8 (qs:List φ) {a b:List φ} (h:∀ g ∈ a,g ∈ b):j4 qs b≤j4 qs a:=by
 unfold j4
 induction qs with
 | nil=>simp
 | cons q qs ih =>
  simp only [List.filter_cons];by_cases hb:q ∈ b
  ·by_cases ha:q ∈ a
   ·simp [ha,hb]; simpa using ih
   ·simp [ha,hb]; have:=ih; simp at this; omega
  ·have ha:q ∉ a:=fun e=>hb (h q e);simp [ha,hb]; simpa using ih
theorem J9 (qs:List φ) {a b:List φ} (h:∀ g ∈ a,g ∈ b) {x:φ} (hx:x ∈ qs) (ha:x ∉ a) (hb:x ∈ b):j4 qs b < j4 qs a:=by
 induction qs with
 | nil=>cases hx
 | cons q qs ih =>
  have hle:=J8 qs h;unfold j4 at ih hle ⊢;simp only [List.filter_cons];rcases List.mem_cons.1 hx with rfl | hx
  ·simp [ha,hb]; simp at hle; omega
  ·have:=ih hx;by_cases h1:q ∈ b
   ·by_cases h2:q ∈ a
    ·simp [h1,h2]; simpa using this
    ·simp [h1,h2]; simp at this; omega
   ·have h2:q ∉ a:=fun e=>h1 (h q e);simp [h1,h2]; simpa using this
theorem zI {qs out:List φ} (h:aZ H qs out ≠ out):j4 qs (aZ H qs out) < j4 qs out:=by
 obtain ⟨n,e,hn⟩:=jf (H:=H) qs out;cases n with
 | nil=>exact absurd (by simpa using e) h
 | cons x n =>
  obtain ⟨h1,h2⟩:=hn x (List.mem_cons_self ..);exact J9 qs (fun g hg=>nC hg) h1 h2 (by rw [e]; simp)
theorem xG (qs:List φ):∀ (k j:Nat) (out:List φ),j4 qs out < k→j4 qs out < j→j3 H qs k out=j3 H qs j out
 | 0,_,_,h,_=>absurd h (Nat.not_lt_zero _)
 | _ + 1,0,_,_,h=>absurd h (Nat.not_lt_zero _)
 | k + 1,j + 1,out,h1,h2=>by
  unfold j3;by_cases e:aZ H qs out=out
  ·rw [if_pos e,if_pos e]
  ·rw [if_neg e,if_neg e];have:=zI (H:=H) e;exact xG qs k j _ (by omega) (by omega)
def lW (H:List φ→φ→Bool) (qs out:List φ):List φ:=j3 H qs (j4 qs out + 1) out
theorem sQ {qs out:List φ} (h:aZ H qs out=out):lW H qs out=out:=by
 unfold lW j3; rw [if_pos h]
theorem zJ (qs out:List φ):lW H qs (aZ H qs out)=lW H qs out:=by
 by_cases h:aZ H qs out=out
 ·rw [h]
 ·have hlt:=zI (H:=H) h;have e:lW H qs out=j3 H qs (j4 qs out) (aZ H qs out):=by
   show j3 H qs (j4 qs out + 1) out=_;rw [j3,if_neg h]
  rw [e];unfold lW;exact xG qs _ _ _ (Nat.lt_succ_self _) hlt
theorem Ka (out:List φ):lW H [] out=out:=sQ rfl
theorem zK (qs:List φ):∀ (k:Nat) (out:List φ),∃ new,j3 H qs k out=out ++ new∧∀ g ∈ new,g ∈ qs
 | 0,out=>⟨[],by simp [j3],fun g hg=>by cases hg⟩
 | k + 1,out=>by
  unfold j3;split
  ·exact ⟨[],by simp,fun g hg=>by cases hg⟩
  ·obtain ⟨n1,e1,h1⟩:=jf (H:=H) qs out;obtain ⟨n2,e2,h2⟩:=zK qs k (aZ H qs out);refine ⟨n1 ++ n2,by rw [e2,e1,List.append_assoc],fun g hg=>?_⟩;rcases List.mem_append.1 hg with hg | hg
   ·exact (h1 g hg).1
   ·exact h2 g hg
theorem xH (qs:List φ):∀ (k:Nat) {out:List φ},out.Nodup→(j3 H qs k out).Nodup
 | 0,_,h=>h
 | k + 1,out,h=>by
  unfold j3;split
  ·exact h
  ·exact xH qs k (sP qs h)
theorem Ig (qs:List φ) {out:List φ} (h:out.Nodup):(lW H qs out).Nodup:=xH qs _ h
theorem Few.round [DecidableEq υ] (hL:Loc us H) {qs:List φ} {users:List υ} {out:List φ} (h:Few us H qs users out):aZ H (qs.filter fun f=>decide (us f ∈ users)) out=aZ H qs out :=
 (jZ hL (fun u=>decide (u ∈ users)) qs out fun f hf hp=>h.set f hf (by simpa using hp)).symm
theorem Few.next [DecidableEq υ] (hL:Loc us H) {qs:List φ} {users users':List υ} {out new:List φ} (h:Few us H qs users out) (hn:aZ H qs out=out ++ new) (hu:∀ u,u ∈ users' ↔ u ∈ users∧∃ g ∈ new,us g=u):Few us H qs users' (out ++ new):=by
 refine ⟨fun f hf hnf=>?_⟩;have key:∀ g ∈ aZ H qs out,us g=us f→g ∈ out:=fun g hg hgu=>by
  rw [hn] at hg;rcases List.mem_append.1 hg with hg | hg
  ·exact hg
  ·by_cases hin:us f ∈ users
   ·exact absurd ((hu _).2 ⟨hin,g,hg,hgu⟩) hnf
   ·-- a user that was left out before finds none
    have e:=h.round hL;obtain ⟨n2,e2,h2⟩:=jf (H:=H) (qs.filter fun f=>decide (us f ∈ users)) out;rw [e,hn] at e2;have e3:new=n2:=List.append_cancel_left e2;rw [e3] at hg;have h3:=(h2 g hg).1;rw [List.mem_filter] at h3;have h4:us g ∈ users:=by simpa using h3.2
    rw [hgu] at h4;exact absurd h4 hin
 have:=qY hL (us f) qs out key f hf rfl;rw [hn] at this;exact this
theorem Few.done {qs:List φ} {out:List φ} (h:Few us H qs [] out):lW H qs out=out:=sQ (Ie fun f hf=>h.set f hf List.not_mem_nil)
end
open Pl
def Gi (es:List Ex):Prop:=∀ (i:Nat) (h:i < es.length),∀ x ∈ es[i].kids,0≤x∧x < (i:Int)
theorem E5 {es:List Ex} (h:aS es=true):Gi es:=by
 intro i hi x hx;unfold aS at h;simp only [Bool.and_eq_true,decide_eq_true_eq] at h;have h1:=h.1.1.2;unfold il at h1;rw [List.all_eq_true] at h1;have h2:=h1 i (by simpa using hi);unfold kr mD at h2;rw [List.getElem?_eq_getElem hi] at h2;simp only [Option.map_some,Option.getD_some,List.all_eq_true,Bool.and_eq_true,decide_eq_true_eq] at h2;have:=h2 x hx;omega
structure Fc where
 a:ByteArray
 b:ByteArray
 r:ByteArray
 c:ByteArray
 d:ByteArray
def Fc.u (f:Fc):ByteArray × ByteArray:=(f.c,f.d)
def sS (x y:Fc):Bool:=x.a.toList == y.a.toList && x.b.toList == y.b.toList && x.r.toList == y.r.toList && x.c.toList == y.c.toList && x.d.toList == y.d.toList
theorem qZ {x y:Fc}:sS x y=true ↔ x=y:=by
 constructor
 ·intro h;unfold sS at h;simp only [Bool.and_eq_true,beq_iff_eq] at h;obtain ⟨⟨⟨⟨h1,h2⟩,h3⟩,h4⟩,h5⟩:=h;cases x; cases y;simp only at h1 h2 h3 h4 h5;rw [sj h1,sj h2,sj h3,sj h4,sj h5]
 ·rintro rfl; unfold sS; simp
def bf (out:List Fc) (f:Fc):Bool:=out.any fun g=>sS g f
theorem gH {out:List Fc} {f:Fc}:bf out f=true ↔ f ∈ out:=by
 unfold bf;rw [List.any_eq_true];constructor
 ·rintro ⟨g,hg,h⟩; rw [← qZ.1 h]; exact hg
 ·intro h; exact ⟨f,h,qZ.2 rfl⟩
def C9 (u:ByteArray × ByteArray) (x y:List Fc):Prop:=∀ g:Fc,g.u=u→(g ∈ x ↔ g ∈ y)
theorem sU {x y:List Fc} {f:Fc} (h:C9 f.u x y):bf x f=bf y f:=by
 rw [Bool.eq_iff_iff,gH,gH]; exact h f rfl
def dP (l:List Tp) (known:List Fc) (f:Fc):Bool:=l.any fun t=>(t.a.toList == f.a.toList && t.b.toList == f.b.toList && t.r.toList == f.r.toList) && (if t.s.toList.isEmpty then t.c.toList == f.c.toList && t.d.toList == f.d.toList else bf known ⟨t.c,t.d,t.s,f.c,f.d⟩)
def eY (l:List Tp) (known:List Fc) (over name:ByteArray) (f:Fc):Bool:=l.any fun t=>(t.a.toList == f.a.toList && t.b.toList == f.b.toList && t.r.toList == over.toList) && bf known ⟨t.c,t.d,name,f.c,f.d⟩
def iC (l:List Tp) (es:List Ex) (truth:List Fc) (f:Fc):Nat→List Fc→Nat→Bool
 | 0,_,_=>false
 | k + 1,known,n=>match es[n]? with
  | none=>false
  | some x =>
   if x.kind=1 then dP l known f
   else if x.kind=2 then bf known ⟨f.a,f.b,x.name,f.c,f.d⟩
   else if x.kind=3 then eY l known x.over x.name f
   else if x.kind=4 then x.kids.any fun i=>iC l es truth f k known i.toNat
   else if x.kind=5 then x.kids.all fun i=>iC l es truth f k known i.toNat
   else if x.kind=6 then iC l es truth f k known (x.kids.getD 0 0).toNat && !iC l es truth f k truth (x.kids.getD 1 0).toNat
   else false
theorem E8 {l:List Tp} {x y:List Fc} {f:Fc} (h:C9 f.u x y):dP l x f=dP l y f:=by
 unfold dP;congr 1
 funext t
 rw [sU (x:=x) (y:=y) (f:=⟨t.c,t.d,t.s,f.c,f.d⟩) h]
theorem E9 {l:List Tp} {x y:List Fc} {ov nm:ByteArray} {f:Fc} (h:C9 f.u x y):eY l x ov nm f=eY l y ov nm f:=by
 unfold eY;congr 1
 funext t
 rw [sU (x:=x) (y:=y) (f:=⟨t.c,t.d,nm,f.c,f.d⟩) h]
theorem p9 {l:List Tp} {es:List Ex} {f:Fc} {t1 t2:List Fc} (ht:C9 f.u t1 t2):∀ (k:Nat) (x y:List Fc) (n:Nat),C9 f.u x y→iC l es t1 f k x n=iC l es t2 f k y n
 | 0,_,_,_,_=>rfl
 | k + 1,x,y,n,h=>by
  unfold iC;cases es[n]? with
  | none=>rfl
  | some e =>
   simp only [E8 h,sU (x:=x) (y:=y) (f:=⟨f.a,f.b,e.name,f.c,f.d⟩) h,E9 h,p9 ht k x y _ h,p9 ht k t1 t2 _ ht]
def gI (ts:List Ty) (l:List Tp) (out:List Fc) (f:Fc):Bool:=iC l (aG ts f.a f.r) out f (aG ts f.a f.r).length out ((aG ts f.a f.r).length - 1)
theorem zL (ts:List Ty) (l:List Tp):Loc Fc.u (gI ts l):=fun x y f h=>p9 h _ x y _ h
def Bh (ts:List Ty) (st:ByteArray × ByteArray→Int) (n:Int) (o:Al):List (ByteArray × ByteArray):=(ai ts).filter fun k=>k.1.toList == o.t.toList && decide (st k=n)
def iP (o:Al) (rel:ByteArray) (xu:List Al):List Fc:=xu.map fun u=>⟨o.t,o.s,rel,u.t,u.s⟩
def uH (ts:List Ty) (st:ByteArray × ByteArray→Int) (xu:List Al) (n:Int) (o:Al):List Fc:=(Bh ts st n o).flatMap fun k=>iP o k.2 xu
def bQ (ts:List Ty) (st:ByteArray × ByteArray→Int) (xo xu:List Al) (n:Int):List Fc:=xo.flatMap (uH ts st xu n)
theorem Fa {ts:List Ty} {st:ByteArray × ByteArray→Int} {xo xu:List Al} {n:Int} {f:Fc} (h:f ∈ bQ ts st xo xu n):f.u ∈ xu.map fun u=>(u.t,u.s):=by
 unfold bQ uH iP at h;obtain ⟨o,-,h⟩:=List.mem_flatMap.1 h;obtain ⟨k,-,h⟩:=List.mem_flatMap.1 h;obtain ⟨u,hu,rfl⟩:=List.mem_map.1 h;exact List.mem_map.2 ⟨u,hu,rfl⟩
theorem Da (ts:List Ty) (st:ByteArray × ByteArray→Int) (xo xu:List Al) (n:Int) (p:ByteArray × ByteArray→Bool):(bQ ts st xo xu n).filter (fun f=>p f.u)=bQ ts st xo (xu.filter fun u=>p (u.t,u.s)) n:=by
 unfold bQ uH iP;rw [List.filter_flatMap];congr 1
 funext o
 rw [List.filter_flatMap];congr 1
 funext k
 rw [List.filter_map];rfl
theorem Fb {ts:List Ty} {st:ByteArray × ByteArray→Int} {xo xu:List Al} {n:Int} (h:∀ k ∈ ai ts,st k ≠ n):bQ ts st xo xu n=[]:=by
 have:∀ o,Bh ts st n o=[]:=fun o=>by
  unfold Bh;rw [List.filter_eq_nil_iff];intro k hk;simp [h k hk]
 unfold bQ uH;simp [this]
section
variable [DecidableEq Fc]
def jR (ts:List Ty) (l:List Tp) (st:ByteArray × ByteArray→Int) (xo xu:List Al) (N:Nat):List Fc:=(List.range N).foldl (fun out (n:Nat)=>lW (gI ts l) (bQ ts st xo xu (n:Int)) out) []
theorem iU (ts:List Ty) (l:List Tp) (st:ByteArray × ByteArray→Int) (xo xu:List Al) (N:Nat):jR ts l st xo xu (N + 1)=lW (gI ts l) (bQ ts st xo xu (N:Int)) (jR ts l st xo xu N):=by
 unfold jR; rw [List.range_succ,List.foldl_append]; rfl
theorem Ih {ts:List Ty} {l:List Tp} {st:ByteArray × ByteArray→Int} {xo xu:List Al} {N:Nat} (h:∀ k ∈ ai ts,st k < (N:Int)):∀ M,N≤M→jR ts l st xo xu M=jR ts l st xo xu N:=by
 intro M hM;obtain ⟨d,rfl⟩:∃ d,M=N + d:=⟨M - N,by omega⟩
 induction d with
 | zero=>rfl
 | succ d ih =>
  rw [Nat.add_succ,iU,ih (by omega),Fb fun k hk=>by have:=h k hk; omega];exact Ka _
theorem zM (ts:List Ty) (l:List Tp) (st:ByteArray × ByteArray→Int) (xo xu:List Al):∀ N,(jR ts l st xo xu N).Nodup
 | 0=>List.nodup_nil
 | N + 1=>by rw [iU]; exact Ig _ (zM ts l st xo xu N)
end
end Go.Proofs.YtdmniljjnaebbaaGreatDoor
