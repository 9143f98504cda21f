/- A range over an iterator whose rounds all go on, where what the iterator hands on leans on what the rounds have written so far. -/
import Derived.RangeFuncNested
import Derived.WalkKit
namespace Go.Proofs.YtdaoiceeidoehaaGreat
set_option linter.unusedVariables false
open Go.RowKit
def yH {α:Type} (F:Fence) (n:Nat) (P:Program) (g:Nat) (lb:Array Value) (encs:α→Array Value) (Kp:Nat→World→World→Prop) (Q:List α→World→Prop) (E:List α→α→Prop) (S:List α→Prop) (w:World):Prop :=
 ∀ (l:Nat) (J:List α→World→Prop) (W:World),Below w.heap.size w W→l < W.heap.size→w.heap.size≤l→OwnFrom W.heap.size J→(∀ pre W1,J pre W1→Q pre W1) →
  (∀ pre x W1,J pre W1→E pre x→YieldAt F (n - 1) P l (encs x) W1 fun e W'=>e=.returned (.bool true)∧J (pre ++ [x]) W'∧Kp l W1 W') →
  J [] W →
  CallsIn F n P g (#[.func (.yield l) #[] #[]] ++ lb) W fun e W'=>(∃ v,e=.returned v)∧∃ xs,S xs∧J xs W'
def G6 (B:Nat) (R:World→Prop) (W:World):Exit→Act→World→Prop
 | .normal,_,W'=>KeepsFrom B W W'∧R W'
 | _,_,_=>False
theorem ED {β:Type} {B k:Nat} {o:Obj} (hk:k < B):OwnFrom B (fun (_:β) W=>W.heap[k]?=some o):=fun _ X Y row hs hg hr=>(hg.block k (Array.getElem?_eq_some_iff.1 hs).1 fun e=>by have:=(hr k e.symm).1; omega).trans hs
theorem KW {β:Type} {B B':Nat} {I:β→World→Prop} (h:OwnFrom B I) (hB:B≤B'):OwnFrom B' I:=fun s X Y row hs hg hr=>h s X Y row hs hg fun r e=>⟨Nat.le_trans hB (hr r e).1,(hr r e).2⟩
theorem ll {α:Type} {F:Fence} {n:Nat} {P:Program} {g:Operand} {ps:Array Tmp} {assign body:Code} {Q:Exit→Act→World→Prop} {a:Act} {w:World} (hro:F.round=none) (h1:1≤n) {gf:Nat} {lb:Array Value} (hg:a.eval g=.func (.func gf) #[] lb) (hFg:F.fn gf) (eg:∀ args w,(callFunc gf args).run P w=.ok (.enter gf args) w)
  {encs:α→Array Value} {Kp:Nat→World→World→Prop} {Tell:List α→World→Prop} {E:List α→α→Prop} {S:List α→Prop} {w0:World} (hseq:yH F (n - 1) P gf lb encs Kp Tell E S w0) (hb0:Below w0.heap.size w0 w) (hps:∀ x,(encs x).size=ps.size)
  (hKt:∀ {l:Nat} {X Y Z:World},Kp l X Y→Kp l Y Z→Kp l X Z) (hKb:∀ (W:World) (l:Nat) (o o':Obj),W.heap[l]?=some o→o.isCells=false→Kp l W (W.putObj l o'))
  (I:List α→World→Prop) (hI:OwnFrom w.heap.size I) (hT:∀ pre W,I pre W→Tell pre W) (h0:I [] w)
  (Ax:α→Act→World→Prop) (hAx:∀ x a',OwnFrom w.heap.size (fun (_:Unit) W=>Ax x a' W))
  (hassign:∀ (l:Nat) (pre:List α) (x:α) (W:World) (K:Act→World→Prop),I pre W→(∀ a' W',KeepsFrom w.heap.size W W'→Kp l W W'→I pre W'→Ax x a' W'→K a' W') →
   assign.wpIn (F.inRound l) (n - 1 - 1) P (Exit.then K (fun _ _ _=>False)) { tmps:=(ps.zip (encs x)).foldl (fun t (p,v)=>t.setIfInBounds p v) a.tmps,defers:=[] } W)
  (hbody:∀ (l:Nat) (pre:List α) (x:α) (a':Act) (W:World),w.heap.size≤l→E pre x→I pre W→Ax x a' W→body.wpIn (F.inRound l) (n - 1 - 1) P (G6 w.heap.size (fun W'=>Kp l W W'∧I (pre ++ [x]) W') W) a' W)
  (hdone:∀ (D:Nat) (xs:List α) (W:World),w.heap.size≤D→S xs→I xs W→W.heap[D]?=some (.deferred (some []))→Q .normal { a with defers:={ target:=.collected D,args:=#[] }::a.defers } W) :
  (Code.rangeFunc g ps assign body).wpIn F n P Q a w:=by
 refine wpIn_rangeFunc fun fn hfn=>?_;rw [hro];obtain ⟨rc,hrc⟩:∃ rc:LoopState→Loop,rc=fun st=>{ state:=st,pending:=none,fn,tmps:=a.tmps,params:=ps,assign,body,defers:=w.heap.size }:=⟨_,rfl⟩;obtain ⟨W0,hW0⟩:∃ W0,W0=w.alloc (.deferred (some [])):=⟨_,rfl⟩;have s0:W0.heap.size=w.heap.size + 1:=by rw [hW0]; simp
 obtain ⟨W1,hW1⟩:∃ W1,W1=W0.alloc (.loop (rc .ready)):=⟨_,rfl⟩;have s1:W1.heap.size=w.heap.size + 2:=by rw [hW1]; simp; omega
 have k0:W0.heap[w.heap.size]?=some (.deferred (some [])):=by rw [hW0]; exact World.alloc_heap_new w _
 have k1:W1.heap[w.heap.size]?=some (.deferred (some [])):=by rw [hW1]; exact (Below.heap_alloc _ _ _ (by omega)).trans k0
 have r1:W1.heap[w.heap.size + 1]?=some (.loop (rc .ready)):=by rw [hW1,← s0]; exact World.alloc_heap_new W0 _
 have i1:I [] W1:=by rw [hW1,hW0]; exact hI.alloc _ (hI.alloc _ h0)
 have b1:Below w.heap.size w W1:=by rw [hW1,hW0]; exact ((Below.refl _ w).alloc (Nat.le_refl _) _).alloc (by simp) _
 have bb:Below w0.heap.size w0 W1:=hb0.trans (b1.mono hb0.size);refine ⟨w.heap.size + 1,[{ target:=.collected w.heap.size,args:=#[] }],W1,{ target:=.fn (.func gf) lb,args:=#[.func (.yield (w.heap.size + 1)) #[] #[]] },W1,gf,#[.func (.yield (w.heap.size + 1)) #[] #[]] ++ lb,W1,?_,?_,?_,?_,fun _=>h1,?_⟩
 ·rw [hW1,hW0,hrc]; exact run_enterLoop_outer _ _ _ _ _
 ·simp only [resolve,hg];simp [go_sem]
 ·intro f hf; simp [Target.leads] at hf; subst hf; exact hFg
 ·simp [invoke,go_sem,eg]
 have hJ:OwnFrom W1.heap.size (fun pre W=>I pre W∧W.heap[w.heap.size + 1]?=some (.loop (rc .ready))∧W.heap[w.heap.size]?=some (.deferred (some []))) :=
  (KW hI (by omega)).and ((ED (by omega)).and (ED (by omega)))
 refine (hseq (w.heap.size + 1) _ W1 bb (by omega) (by have:=hb0.size; omega) hJ (fun pre W h=>hT pre W h.1) ?_ ⟨i1,r1,k1⟩).mono ?_
 ·rintro pre x W ⟨hi,hl,hk⟩ hEx;have hy:=run_yield (P:=P) (args:=encs x) hl (by rw [hrc]; exact hps x);rw [hrc] at hy;refine ⟨fn,_,assign,body,hy,roundIn_of_wpIn hfn (hassign _ pre x W _ hi ?_)⟩;clear hy;intro a' Wa hka hkp hia hax;have hla:=hka.same _ _ (by omega) hl rfl;have hda:=hka.same _ _ (Nat.le_refl _) hk rfl;have hlt:w.heap.size + 1 < Wa.heap.size:=(Array.getElem?_eq_some_iff.1 hla).1;refine ⟨_,run_beginRound hla (by rw [hrc]),?_⟩;obtain ⟨Wb,hWb⟩:∃ Wb,Wb=Wa.putObj (w.heap.size + 1) (.loop { rc .ready with state:=.busy }):=⟨_,rfl⟩;rw [← hWb];have lb2:Wb.heap[w.heap.size + 1]?=some (.loop { rc .ready with state:=.busy }):=by rw [hWb]; exact World.putObj_heap_same hlt
  have db2:Wb.heap[w.heap.size]?=some (.deferred (some [])):=by rw [hWb]; exact (World.putObj_heap_other (by omega)).trans hda
  have kb2:Kp (w.heap.size + 1) Wa Wb:=by rw [hWb]; exact hKb _ _ _ _ hla rfl
  have ib2:I pre Wb:=by rw [hWb]; exact hI.putObj _ hia (by omega) hla rfl
  have ab2:Ax x a' Wb:=by rw [hWb]; exact (hAx x a').putObj (s:=()) _ hax (by omega) hla rfl
  refine wpIn_mono (hbody _ pre x a' _ (by omega) hEx ib2 ab2) ?_;intro e a3 W3 hp;cases e with
  | normal =>
   obtain ⟨hk3,hkp3,hi3⟩:=hp;have hl3:=hk3.same _ _ (by omega) lb2 rfl;have hd3:=hk3.same _ _ (Nat.le_refl _) db2 rfl;have hend:=run_endRound (P:=P) none hl3;rw [hrc] at hend;refine ⟨_,_,hend,rfl,⟨hI.putObj _ hi3 (by omega) hl3 rfl,?_,(World.putObj_heap_other (by omega)).trans hd3⟩,hKt hkp (hKt (hKt kb2 hkp3) (hKb _ _ _ _ hl3 rfl))⟩;rw [hrc];exact World.putObj_heap_same (Array.getElem?_eq_some_iff.1 hl3).1
  | ret=>exact hp.elim
  | exit id=>exact hp.elim
  | goto t=>exact hp.elim
  | panic ch=>exact hp.elim
  | outgrown=>exact hp.elim
 ·rintro e W2 ⟨⟨v,rfl⟩,xs,hS,hi,hl,hk⟩;have hend:=run_endLoop (P:=P) hl (by rw [hrc]; simp);rw [hrc] at hend;exact ⟨none,_,hend,hdone _ xs _ (Nat.le_refl _) hS (hI.putObj _ hi (by omega) hl rfl) ((World.putObj_heap_other (by omega)).trans hk)⟩
end Go.Proofs.YtdaoiceeidoehaaGreat
namespace Go.Proofs.YtdaoiceeidoehaaGreat.Pl
def gQ (c:UInt8):Bool:=decide (97≤c.toNat) && decide (c.toNat≤122)
def sS (c:UInt8):Bool:=gQ c || (decide (48≤c.toNat) && decide (c.toNat≤57)) || decide (c.toNat=95)
def kg (s:ByteArray):Bool:=decide (1≤s.size) && decide (s.size≤12)
def nY (p:UInt8→Bool) (s:ByteArray):Bool:=s.data.toList.all p
def dx (p:UInt8→Bool) (s:ByteArray):Bool:=kg s && nY p s
def sU (s:ByteArray):Bool:=!(s.toList == [116,104,105,115])
def aO (s:ByteArray):Bool:=dx gQ s && sU s
def kR (s:ByteArray):Bool:=dx sS s
theorem af {a b:Bool} (h:a=b):Ending.returned (.bool a)=.returned (.bool b):=by rw [h]
theorem Fq (s:ByteArray) (k:Nat) (h:k < s.size):s.data.toList.take (k + 1)=s.data.toList.take k ++ [s[k]]:=by
 rw [List.take_succ_eq_append_getElem (by simpa using h)]; rfl
def Cy (p:UInt8→Bool) (s:ByteArray) (k:Nat):Bool:=(s.data.toList.take k).all p
theorem oN (p:UInt8→Bool) (s:ByteArray):Cy p s 0=true:=by simp [Cy]
theorem oO (p:UInt8→Bool) (s:ByteArray) (k:Nat) (h:k < s.size):Cy p s (k + 1)=(Cy p s k && p s[k]):=by
 unfold Cy; rw [Fq s k h]; simp
theorem sV (p:UInt8→Bool) (s:ByteArray) (k:Nat) (h:s.size≤k):Cy p s k=nY p s:=by
 unfold Cy nY; rw [List.take_of_length_le (by simpa using h)]
theorem sW (p:UInt8→Bool) (s:ByteArray) (k:Nat) (h:k < s.size) (hb:p s[k]=false):nY p s=false:=by
 unfold nY;rw [List.all_eq_false];exact ⟨s[k],by simp [ByteArray.getElem_eq_getElem_data],by simp [hb]⟩
def eF (t i:ByteArray):Bool:=aO t && kR i
end Go.Proofs.YtdaoiceeidoehaaGreat.Pl
namespace Go.Proofs.YtdaoiceeidoehaaGreat
set_option linter.unusedVariables false
structure Few {φ υ:Type} (us:φ→υ) (H:List φ→φ→Bool) (qs:List φ) (users:List υ) (out:List φ):Prop where
 set:∀ f ∈ qs,us f ∉ users→f ∈ out ∨ H out f=false
theorem Few.start {φ υ:Type} {us:φ→υ} {H:List φ→φ→Bool} {qs:List φ} {users:List υ} {out:List φ} (h:∀ f ∈ qs,us f ∈ users):Few us H qs users out:=⟨fun f hf hn=>absurd (h f hf) hn⟩
section
variable {φ υ:Type} [DecidableEq φ] {us:φ→υ} {H:List φ→φ→Bool}
def Loc (us:φ→υ) (H:List φ→φ→Bool):Prop:=∀ (a b:List φ) (f:φ),(∀ g,us g=us f→(g ∈ a ↔ g ∈ b))→H a f=H b f
def dG (H:List φ→φ→Bool) (out:List φ) (f:φ):List φ:=if f ∈ out ∨ H out f=false then out else out ++ [f]
def aZ (H:List φ→φ→Bool) (qs:List φ) (out:List φ):List φ:=qs.foldl (dG H) out
theorem G7 (out:List φ):aZ H [] out=out:=rfl
theorem mM (q:φ) (qs out:List φ):aZ H (q::qs) out=aZ H qs (dG H out q):=rfl
theorem Ae (zas bs out:List φ):aZ H (zas ++ bs) out=aZ H bs (aZ H zas out):=by unfold aZ; rw [List.foldl_append]
theorem qy (out:List φ) (f:φ):∃ new,dG H out f=out ++ new∧∀ g ∈ new,g=f∧g ∉ out∧H out f=true:=by
 unfold dG;split
 ·exact ⟨[],by simp,fun g hg=>by cases hg⟩
 ·rename_i h;refine ⟨[f],rfl,fun g hg=>?_⟩;rw [List.mem_singleton] at hg;subst hg;refine ⟨rfl,fun e=>h (.inl e),?_⟩;cases e:H out g with
  | true=>rfl
  | false=>exact absurd (.inr e) h
theorem iI:∀ (qs out:List φ),∃ new,aZ H qs out=out ++ new∧∀ g ∈ new,g ∈ qs∧g ∉ out
 | [],out=>⟨[],by simp [G7],fun g hg=>by cases hg⟩
 | q::qs,out=>by
  obtain ⟨n1,e1,h1⟩:=qy (H:=H) out q;obtain ⟨n2,e2,h2⟩:=iI qs (dG H out q);refine ⟨n1 ++ n2,by rw [mM,e2,e1,List.append_assoc],fun g hg=>?_⟩;rcases List.mem_append.1 hg with hg | hg
  ·exact ⟨by rw [(h1 g hg).1]; exact List.mem_cons_self ..,(h1 g hg).2.1⟩
  ·obtain ⟨h3,h4⟩:=h2 g hg;exact ⟨List.mem_cons_of_mem _ h3,fun e=>h4 (by rw [e1]; exact List.mem_append_left _ e)⟩
theorem lm {qs out:List φ} {g:φ} (h:g ∈ out):g ∈ aZ H qs out:=by
 obtain ⟨n,e,-⟩:=iI (H:=H) qs out;rw [e]; exact List.mem_append_left _ h
theorem qz {out:List φ} {f g:φ} (h:g ∈ out):g ∈ dG H out f:=by
 obtain ⟨n,e,-⟩:=qy (H:=H) out f;rw [e]; exact List.mem_append_left _ h
theorem Cz {out:List φ} (h:out.Nodup) (f:φ):(dG H out f).Nodup:=by
 unfold dG;split
 ·exact h
 ·rename_i hn;refine List.nodup_append.2 ⟨h,by simp,fun a ha b hb e=>?_⟩;rw [List.mem_singleton] at hb;subst hb;subst e;exact hn (.inl ha)
theorem qA:∀ (qs:List φ) {out:List φ},out.Nodup→(aZ H qs out).Nodup
 | [],_,h=>h
 | q::qs,_,h=>qA qs (Cz h q)
theorem Fs {qs out:List φ} (h:∀ f ∈ qs,f ∈ out ∨ H out f=false):aZ H qs out=out:=by
 induction qs with
 | nil=>rfl
 | cons q qs ih =>
  have e:dG H out q=out:=if_pos (h q (List.mem_cons_self ..));rw [mM,e];exact ih fun f hf=>h f (List.mem_cons_of_mem _ hf)
theorem jA (hL:Loc us H) (P:υ→Bool):∀ (qs out:List φ),(∀ f ∈ qs,P (us f)=false→f ∈ out ∨ H out f=false)→aZ H qs out=aZ H (qs.filter fun f=>P (us f)) out
 | [],_,_=>rfl
 | q::qs,out,h=>by
  rw [mM,List.filter_cons];cases hp:P (us q) with
  | false =>
   have e:dG H out q=out:=if_pos (h q (List.mem_cons_self ..) hp);rw [e];exact jA hL P qs out fun f hf=>h f (List.mem_cons_of_mem _ hf)
  | true =>
   rw [if_pos rfl,mM];refine jA hL P qs _ fun f hf hpf=>?_;have hne:us f ≠ us q:=fun e=>by rw [e,hp] at hpf; cases hpf
   obtain ⟨n,e,hn⟩:=qy (H:=H) out q;have hm:∀ g,us g=us f→(g ∈ out ↔ g ∈ dG H out q):=fun g hg=>by
    rw [e];refine ⟨fun h=>List.mem_append_left _ h,fun h=>?_⟩;rcases List.mem_append.1 h with h | h
    ·exact h
    ·exact absurd (by rw [(hn g h).1] at hg; exact hg.symm) hne
   rcases h f (List.mem_cons_of_mem _ hf) hpf with h1 | h1
   ·exact .inl ((hm f rfl).1 h1)
   ·exact .inr (by rw [← hL out _ f hm]; exact h1)
theorem oP (hL:Loc us H) (u:υ):∀ (qs out:List φ),(∀ g ∈ aZ H qs out,us g=u→g ∈ out)→∀ f ∈ qs,us f=u→f ∈ aZ H qs out ∨ H (aZ H qs out) f=false
 | [],_,_,f,hf,_=>by cases hf
 | q::qs,out,h,f,hf,hu=>by
  have hsame:∀ g,us g=u→(g ∈ dG H out q ↔ g ∈ aZ H qs (dG H out q)):=fun g hg=>⟨fun h1=>lm h1,fun h1=>qz (h g h1 hg)⟩;have hrest:∀ g ∈ aZ H qs (dG H out q),us g=u→g ∈ dG H out q:=fun g h1 h2=>(hsame g h2).2 h1;rcases List.mem_cons.1 hf with rfl | hf
  ·show f ∈ aZ H qs (dG H out f) ∨ H (aZ H qs (dG H out f)) f=false;by_cases hq:f ∈ out ∨ H out f=false
   ·rcases hq with h1 | h1
    ·exact .inl (lm (qz h1))
    ·refine .inr ?_;rw [← hL out _ f fun g hg=>?_]
     ·exact h1
     ·exact ⟨fun h2=>lm (qz h2),fun h2=>h g h2 (hg.trans hu)⟩
   ·have e:dG H out f=out ++ [f]:=if_neg hq;exact .inl (lm (by rw [e]; simp))
  ·exact oP hL u qs _ hrest f hf hu
def jB (H:List φ→φ→Bool) (qs:List φ):Nat→List φ→List φ
 | 0,out=>out
 | k + 1,out=>if aZ H qs out=out then out else jB H qs k (aZ H qs out)
def jC (qs out:List φ):Nat:=(qs.filter fun f=>decide (f ∉ out)).length
theorem G8 (qs:List φ) {a b:List φ} (h:∀ g ∈ a,g ∈ b):jC qs b≤jC qs a:=by
 unfold jC
 induction qs with
 | nil=>simp
 | cons q qs ih =>
  simp only [List.filter_cons];by_cases hb:q ∈ b
  ·by_cases ha:q ∈ a
   ·simp [ha,hb]; simpa using ih
   ·simp [ha,hb]; have:=ih; simp at this; omega
  ·have ha:q ∉ a:=fun e=>hb (h q e);simp [ha,hb]; simpa using ih
theorem G9 (qs:List φ) {a b:List φ} (h:∀ g ∈ a,g ∈ b) {x:φ} (hx:x ∈ qs) (ha:x ∉ a) (hb:x ∈ b):jC qs b < jC qs a:=by
 induction qs with
 | nil=>cases hx
 | cons q qs ih =>
  have hle:=G8 qs h;unfold jC at ih hle ⊢;simp only [List.filter_cons];rcases List.mem_cons.1 hx with rfl | hx
  ·simp [ha,hb]; simp at hle; omega
  ·have:=ih hx;by_cases h1:q ∈ b
   ·by_cases h2:q ∈ a
    ·simp [h1,h2]; simpa using this
    ·simp [h1,h2]; simp at this; omega
   ·have h2:q ∉ a:=fun e=>h1 (h q e);simp [h1,h2]; simpa using this
theorem wV {qs out:List φ} (h:aZ H qs out ≠ out):jC qs (aZ H qs out) < jC qs out:=by
 obtain ⟨n,e,hn⟩:=iI (H:=H) qs out;cases n with
 | nil=>exact absurd (by simpa using e) h
 | cons x n =>
  obtain ⟨h1,h2⟩:=hn x (List.mem_cons_self ..);exact G9 qs (fun g hg=>lm hg) h1 h2 (by rw [e]; simp)
theorem tO (qs:List φ):∀ (k j:Nat) (out:List φ),jC qs out < k→jC qs out < j→jB H qs k out=jB H qs j out
 | 0,_,_,h,_=>absurd h (Nat.not_lt_zero _)
 | _ + 1,0,_,_,h=>absurd h (Nat.not_lt_zero _)
 | k + 1,j + 1,out,h1,h2=>by
  unfold jB;by_cases e:aZ H qs out=out
  ·rw [if_pos e,if_pos e]
  ·rw [if_neg e,if_neg e];have:=wV (H:=H) e;exact tO qs k j _ (by omega) (by omega)
def ko (H:List φ→φ→Bool) (qs out:List φ):List φ:=jB H qs (jC qs out + 1) out
theorem qB {qs out:List φ} (h:aZ H qs out=out):ko H qs out=out:=by
 unfold ko jB; rw [if_pos h]
theorem wW (qs out:List φ):ko H qs (aZ H qs out)=ko H qs out:=by
 by_cases h:aZ H qs out=out
 ·rw [h]
 ·have hlt:=wV (H:=H) h;have e:ko H qs out=jB H qs (jC qs out) (aZ H qs out):=by
   show jB H qs (jC qs out + 1) out=_;rw [jB,if_neg h]
  rw [e];unfold ko;exact tO qs _ _ _ (Nat.lt_succ_self _) hlt
theorem Ha (out:List φ):ko H [] out=out:=qB rfl
theorem wX (qs:List φ):∀ (k:Nat) (out:List φ),∃ new,jB H qs k out=out ++ new∧∀ g ∈ new,g ∈ qs
 | 0,out=>⟨[],by simp [jB],fun g hg=>by cases hg⟩
 | k + 1,out=>by
  unfold jB;split
  ·exact ⟨[],by simp,fun g hg=>by cases hg⟩
  ·obtain ⟨n1,e1,h1⟩:=iI (H:=H) qs out;obtain ⟨n2,e2,h2⟩:=wX qs k (aZ H qs out);refine ⟨n1 ++ n2,by rw [e2,e1,List.append_assoc],fun g hg=>?_⟩;rcases List.mem_append.1 hg with hg | hg
   ·exact (h1 g hg).1
   ·exact h2 g hg
theorem tQ (qs:List φ):∀ (k:Nat) {out:List φ},out.Nodup→(jB H qs k out).Nodup
 | 0,_,h=>h
 | k + 1,out,h=>by
  unfold jB;split
  ·exact h
  ·exact tQ qs k (qA qs h)
theorem Fu (qs:List φ) {out:List φ} (h:out.Nodup):(ko H qs out).Nodup:=tQ qs _ h
theorem Few.round [DecidableEq υ] (hL:Loc us H) {qs:List φ} {users:List υ} {out:List φ} (h:Few us H qs users out):aZ H (qs.filter fun f=>decide (us f ∈ users)) out=aZ H qs out :=
 (jA hL (fun u=>decide (u ∈ users)) qs out fun f hf hp=>h.set f hf (by simpa using hp)).symm
theorem Few.next [DecidableEq υ] (hL:Loc us H) {qs:List φ} {users users':List υ} {out new:List φ} (h:Few us H qs users out) (hn:aZ H qs out=out ++ new) (hu:∀ u,u ∈ users' ↔ u ∈ users∧∃ g ∈ new,us g=u):Few us H qs users' (out ++ new):=by
 refine ⟨fun f hf hnf=>?_⟩;have key:∀ g ∈ aZ H qs out,us g=us f→g ∈ out:=fun g hg hgu=>by
  rw [hn] at hg;rcases List.mem_append.1 hg with hg | hg
  ·exact hg
  ·by_cases hin:us f ∈ users
   ·exact absurd ((hu _).2 ⟨hin,g,hg,hgu⟩) hnf
   ·-- a user that was left out before finds none
    have e:=h.round hL;obtain ⟨n2,e2,h2⟩:=iI (H:=H) (qs.filter fun f=>decide (us f ∈ users)) out;rw [e,hn] at e2;have e3:new=n2:=List.append_cancel_left e2;rw [e3] at hg;have h3:=(h2 g hg).1;rw [List.mem_filter] at h3;have h4:us g ∈ users:=by simpa using h3.2
    rw [hgu] at h4;exact absurd h4 hin
 have:=oP hL (us f) qs out key f hf rfl;rw [hn] at this;exact this
theorem Few.done {qs:List φ} {out:List φ} (h:Few us H qs [] out):ko H qs out=out:=qB (Fs fun f hf=>h.set f hf List.not_mem_nil)
end
end Go.Proofs.YtdaoiceeidoehaaGreat
