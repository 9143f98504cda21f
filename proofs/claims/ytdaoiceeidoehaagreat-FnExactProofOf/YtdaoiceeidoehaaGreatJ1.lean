/- Plain functions on bytes that the contracts of this seat's texts are stated by: which names and ids are right. Nothing of the program is read here. -/
import Derived.Test.YtdaoiceeidoehaaGreatSq
import Derived.WalkKit
import Derived.Test.YtdaoiceeidoehaaGreatRows
import Derived.WalkLawsBesides
import Derived.ProofKit
open Go.Proofs.Tryz
namespace Go.Proofs.YtdaoiceeidoehaaGreat.Pl
def iM (c:UInt8):Bool:=decide (97≤c.toNat) && decide (c.toNat≤122)
def wM (c:UInt8):Bool:=iM c || (decide (48≤c.toNat) && decide (c.toNat≤57)) || decide (c.toNat=95)
def mf (s:ByteArray):Bool:=decide (1≤s.size) && decide (s.size≤12)
def qy (p:UInt8→Bool) (s:ByteArray):Bool:=s.data.toList.all p
def dO (p:UInt8→Bool) (s:ByteArray):Bool:=mf s && qy p s
def wN (s:ByteArray):Bool:=!(s.toList == [116,104,105,115])
def aR (s:ByteArray):Bool:=dO iM s && wN s
def nD (s:ByteArray):Bool:=dO wM s
theorem af {a b:Bool} (h:a=b):Ending.returned (.bool a)=.returned (.bool b):=by rw [h]
theorem JG (s:ByteArray) (k:Nat) (h:k < s.size):s.data.toList.take (k + 1)=s.data.toList.take k ++ [s[k]]:=by
 rw [R5 (by simpa using h)]; rfl
def F6 (p:UInt8→Bool) (s:ByteArray) (k:Nat):Bool:=(s.data.toList.take k).all p
theorem qQ (p:UInt8→Bool) (s:ByteArray):F6 p s 0=true:=by simp [F6]
theorem qR (p:UInt8→Bool) (s:ByteArray) (k:Nat) (h:k < s.size):F6 p s (k + 1)=(F6 p s k && p s[k]):=by
 unfold F6; rw [JG s k h]; simp
theorem wO (p:UInt8→Bool) (s:ByteArray) (k:Nat) (h:s.size≤k):F6 p s k=qy p s:=by
 unfold F6 qy; rw [List.take_of_length_le (by simpa using h)]
theorem wP (p:UInt8→Bool) (s:ByteArray) (k:Nat) (h:k < s.size) (hb:p s[k]=false):qy p s=false:=by
 unfold qy;rw [List.all_eq_false];exact ⟨s[k],by simp [ByteArray.getElem_eq_getElem_data],by simp [hb]⟩
def eH (t i:ByteArray):Bool:=aR t && nD i
end Go.Proofs.YtdaoiceeidoehaaGreat.Pl
namespace Go.Proofs.YtdaoiceeidoehaaGreat
set_option linter.unusedVariables false
structure Few {φ υ:Type} (us:φ→υ) (H:List φ→φ→Bool) (qs:List φ) (users:List υ) (out:List φ):Prop where
 set:∀ f ∈ qs,us f ∉ users→f ∈ out ∨ H out f=false
theorem Few.start {φ υ:Type} {us:φ→υ} {H:List φ→φ→Bool} {qs:List φ} {users:List υ} {out:List φ} (h:∀ f ∈ qs,us f ∈ users):Few us H qs users out:=⟨fun f hf hn=>absurd (h f hf) hn⟩
section
variable {φ υ:Type} [DecidableEq φ] {us:φ→υ} {H:List φ→φ→Bool}
def Loc (us:φ→υ) (H:List φ→φ→Bool):Prop:=∀ (a b:List φ) (f:φ),(∀ g,us g=us f→(g ∈ a ↔ g ∈ b))→H a f=H b f
def dZ (H:List φ→φ→Bool) (out:List φ) (f:φ):List φ:=if f ∈ out ∨ H out f=false then out else out ++ [f]
def bP (H:List φ→φ→Bool) (qs:List φ) (out:List φ):List φ:=qs.foldl (dZ H) out
theorem Lu (out:List φ):bP H [] out=out:=rfl
theorem pz (q:φ) (qs out:List φ):bP H (q::qs) out=bP H qs (dZ H out q):=rfl
theorem DI (zas bs out:List φ):bP H (zas ++ bs) out=bP H bs (bP H zas out):=by unfold bP; rw [List.foldl_append]
theorem sJ (out:List φ) (f:φ):∃ new,dZ H out f=out ++ new∧∀ g ∈ new,g=f∧g ∉ out∧H out f=true:=by
 unfold dZ;split
 ·exact ⟨[],by simp,fun g hg=>by cases hg⟩
 ·rename_i h;refine ⟨[f],rfl,fun g hg=>?_⟩;rw [Sm] at hg;subst hg;refine ⟨rfl,fun e=>h (.inl e),?_⟩;cases e:H out g with
  | true=>rfl
  | false=>exact absurd (.inr e) h
theorem jD:∀ (qs out:List φ),∃ new,bP H qs out=out ++ new∧∀ g ∈ new,g ∈ qs∧g ∉ out
 | [],out=>⟨[],by simp [Lu],fun g hg=>by cases hg⟩
 | q::qs,out=>by
  obtain ⟨n1,e1,h1⟩:=sJ (H:=H) out q;obtain ⟨n2,e2,h2⟩:=jD qs (dZ H out q);refine ⟨n1 ++ n2,by rw [pz,e2,e1,List.append_assoc],fun g hg=>?_⟩;rcases Sd.1 hg with hg | hg
  ·exact ⟨by rw [(h1 g hg).1]; exact SC ..,(h1 g hg).2.1⟩
  ·obtain ⟨h3,h4⟩:=h2 g hg;exact ⟨SA _ h3,fun e=>h4 (by rw [e1]; exact List.mem_append_left _ e)⟩
theorem nV {qs out:List φ} {g:φ} (h:g ∈ out):g ∈ bP H qs out:=by
 obtain ⟨n,e,-⟩:=jD (H:=H) qs out;rw [e]; exact List.mem_append_left _ h
theorem sK {out:List φ} {f g:φ} (h:g ∈ out):g ∈ dZ H out f:=by
 obtain ⟨n,e,-⟩:=sJ (H:=H) out f;rw [e]; exact List.mem_append_left _ h
theorem F8 {out:List φ} (h:out.Nodup) (f:φ):(dZ H out f).Nodup:=by
 unfold dZ;split
 ·exact h
 ·rename_i hn;refine List.nodup_append.2 ⟨h,by simp,fun a ha b hb e=>?_⟩;rw [Sm] at hb;subst hb;subst e;exact hn (.inl ha)
theorem sM:∀ (qs:List φ) {out:List φ},out.Nodup→(bP H qs out).Nodup
 | [],_,h=>h
 | q::qs,_,h=>sM qs (F8 h q)
theorem JH {qs out:List φ} (h:∀ f ∈ qs,f ∈ out ∨ H out f=false):bP H qs out=out:=by
 induction qs with
 | nil=>rfl
 | cons q qs ih =>
  have e:dZ H out q=out:=if_pos (h q (SC ..));rw [pz,e];exact ih fun f hf=>h f (SA _ hf)
theorem kS (hL:Loc us H) (P:υ→Bool):∀ (qs out:List φ),(∀ f ∈ qs,P (us f)=false→f ∈ out ∨ H out f=false)→bP H qs out=bP H (qs.filter fun f=>P (us f)) out
 | [],_,_=>rfl
 | q::qs,out,h=>by
  rw [pz,List.filter_cons];cases hp:P (us q) with
  | false =>
   have e:dZ H out q=out:=if_pos (h q (SC ..) hp);rw [e];exact kS hL P qs out fun f hf=>h f (SA _ hf)
  | true =>
   rw [if_pos rfl,pz];refine kS hL P qs _ fun f hf hpf=>?_;have hne:us f ≠ us q:=fun e=>by rw [e,hp] at hpf; cases hpf
   obtain ⟨n,e,hn⟩:=sJ (H:=H) out q;have hm:∀ g,us g=us f→(g ∈ out ↔ g ∈ dZ H out q):=fun g hg=>by
    rw [e];refine ⟨fun h=>List.mem_append_left _ h,fun h=>?_⟩;rcases Sd.1 h with h | h
    ·exact h
    ·exact absurd (by rw [(hn g h).1] at hg; exact hg.symm) hne
   rcases h f (SA _ hf) hpf with h1 | h1
   ·exact .inl ((hm f rfl).1 h1)
   ·exact .inr (by rw [← hL out _ f hm]; exact h1)
theorem qU (hL:Loc us H) (u:υ):∀ (qs out:List φ),(∀ g ∈ bP H qs out,us g=u→g ∈ out)→∀ f ∈ qs,us f=u→f ∈ bP H qs out ∨ H (bP H qs out) f=false
 | [],_,_,f,hf,_=>by cases hf
 | q::qs,out,h,f,hf,hu=>by
  have hsame:∀ g,us g=u→(g ∈ dZ H out q ↔ g ∈ bP H qs (dZ H out q)):=fun g hg=>⟨fun h1=>nV h1,fun h1=>sK (h g h1 hg)⟩;have hrest:∀ g ∈ bP H qs (dZ H out q),us g=u→g ∈ dZ H out q:=fun g h1 h2=>(hsame g h2).2 h1;rcases List.mem_cons.1 hf with rfl | hf
  ·show f ∈ bP H qs (dZ H out f) ∨ H (bP H qs (dZ H out f)) f=false;by_cases hq:f ∈ out ∨ H out f=false
   ·rcases hq with h1 | h1
    ·exact .inl (nV (sK h1))
    ·refine .inr ?_;rw [← hL out _ f fun g hg=>?_]
     ·exact h1
     ·exact ⟨fun h2=>nV (sK h2),fun h2=>h g h2 (hg.trans hu)⟩
   ·have e:dZ H out f=out ++ [f]:=if_neg hq;exact .inl (nV (by rw [e]; simp))
  ·exact qU hL u qs _ hrest f hf hu
def jN (H:List φ→φ→Bool) (qs:List φ):Nat→List φ→List φ
 | 0,out=>out
 | k + 1,out=>if bP H qs out=out then out else jN H qs k (bP H qs out)
def kT (qs out:List φ):Nat:=(qs.filter fun f=>decide (f ∉ out)).length
theorem Lv (qs:List φ) {a b:List φ} (h:∀ g ∈ a,g ∈ b):kT qs b≤kT qs a:=by
 unfold kT
 induction qs with
 | nil=>simp
 | cons q qs ih =>
  simp only [List.filter_cons];by_cases hb:q ∈ b
  ·by_cases ha:q ∈ a
   ·simp [ha,hb]; simpa using ih
   ·simp [ha,hb]; have:=ih; simp at this; omega
  ·have ha:q ∉ a:=fun e=>hb (h q e);simp [ha,hb]; simpa using ih
theorem Lx (qs:List φ) {a b:List φ} (h:∀ g ∈ a,g ∈ b) {x:φ} (hx:x ∈ qs) (ha:x ∉ a) (hb:x ∈ b):kT qs b < kT qs a:=by
 induction qs with
 | nil=>cases hx
 | cons q qs ih =>
  have hle:=Lv qs h;unfold kT at ih hle ⊢;simp only [List.filter_cons];rcases List.mem_cons.1 hx with rfl | hx
  ·simp [ha,hb]; simp at hle; omega
  ·have:=ih hx;by_cases h1:q ∈ b
   ·by_cases h2:q ∈ a
    ·simp [h1,h2]; simpa using this
    ·simp [h1,h2]; simp at this; omega
   ·have h2:q ∉ a:=fun e=>h1 (h q e);simp [h1,h2]; simpa using this
theorem Aj {qs out:List φ} (h:bP H qs out ≠ out):kT qs (bP H qs out) < kT qs out:=by
 obtain ⟨n,e,hn⟩:=jD (H:=H) qs out;cases n with
 | nil=>exact absurd (by simpa using e) h
 | cons x n =>
  obtain ⟨h1,h2⟩:=hn x (SC ..);exact Lx qs (fun g hg=>nV hg) h1 h2 (by rw [e]; simp)
theorem xm (qs:List φ):∀ (k j:Nat) (out:List φ),kT qs out < k→kT qs out < j→jN H qs k out=jN H qs j out
 | 0,_,_,h,_=>absurd h (SE _)
 | _ + 1,0,_,_,h=>absurd h (SE _)
 | k + 1,j + 1,out,h1,h2=>by
  unfold jN;by_cases e:bP H qs out=out
  ·rw [if_pos e,if_pos e]
  ·rw [if_neg e,if_neg e];have:=Aj (H:=H) e;exact xm qs k j _ (by omega) (by omega)
def kZ (H:List φ→φ→Bool) (qs out:List φ):List φ:=jN H qs (kT qs out + 1) out
theorem sN {qs out:List φ} (h:bP H qs out=out):kZ H qs out=out:=by
 unfold kZ jN; rw [if_pos h]
theorem Ak (qs out:List φ):kZ H qs (bP H qs out)=kZ H qs out:=by
 by_cases h:bP H qs out=out
 ·rw [h]
 ·have hlt:=Aj (H:=H) h;have e:kZ H qs out=jN H qs (kT qs out) (bP H qs out):=by
   show jN H qs (kT qs out + 1) out=_;rw [jN,if_neg h]
  rw [e];unfold kZ;exact xm qs _ _ _ (Nat.lt_succ_self _) hlt
theorem LA (out:List φ):kZ H [] out=out:=sN rfl
theorem sO (qs:List φ):∀ (k:Nat) (out:List φ),∃ new,jN H qs k out=out ++ new∧∀ g ∈ new,g ∈ qs
 | 0,out=>⟨[],by simp [jN],fun g hg=>by cases hg⟩
 | k + 1,out=>by
  unfold jN;split
  ·exact ⟨[],by simp,fun g hg=>by cases hg⟩
  ·obtain ⟨n1,e1,h1⟩:=jD (H:=H) qs out;obtain ⟨n2,e2,h2⟩:=sO qs k (bP H qs out);refine ⟨n1 ++ n2,by rw [e2,e1,List.append_assoc],fun g hg=>?_⟩;rcases Sd.1 hg with hg | hg
   ·exact (h1 g hg).1
   ·exact h2 g hg
theorem xq (qs:List φ):∀ (k:Nat) {out:List φ},out.Nodup→(jN H qs k out).Nodup
 | 0,_,h=>h
 | k + 1,out,h=>by
  unfold jN;split
  ·exact h
  ·exact xq qs k (sM qs h)
theorem JI (qs:List φ) {out:List φ} (h:out.Nodup):(kZ H qs out).Nodup:=xq qs _ h
theorem Few.round [DecidableEq υ] (hL:Loc us H) {qs:List φ} {users:List υ} {out:List φ} (h:Few us H qs users out):bP H (qs.filter fun f=>decide (us f ∈ users)) out=bP H qs out :=
 (kS hL (fun u=>decide (u ∈ users)) qs out fun f hf hp=>h.set f hf (by simpa using hp)).symm
theorem Few.next [DecidableEq υ] (hL:Loc us H) {qs:List φ} {users Ym:List υ} {out new:List φ} (h:Few us H qs users out) (hn:bP H qs out=out ++ new) (hu:∀ u,u ∈ Ym ↔ u ∈ users∧∃ g ∈ new,us g=u):Few us H qs Ym (out ++ new):=by
 refine ⟨fun f hf hnf=>?_⟩;have key:∀ g ∈ bP H qs out,us g=us f→g ∈ out:=fun g hg hgu=>by
  rw [hn] at hg;rcases Sd.1 hg with hg | hg
  ·exact hg
  ·by_cases hin:us f ∈ users
   ·exact absurd ((hu _).2 ⟨hin,g,hg,hgu⟩) hnf
   ·-- a user that was left out before finds none
    have e:=h.round hL;obtain ⟨n2,e2,h2⟩:=jD (H:=H) (qs.filter fun f=>decide (us f ∈ users)) out;rw [e,hn] at e2;have e3:new=n2:=List.append_cancel_left e2;rw [e3] at hg;have h3:=(h2 g hg).1;rw [SH] at h3;have h4:us g ∈ users:=by simpa using h3.2
    rw [hgu] at h4;exact absurd h4 hin
 have:=qU hL (us f) qs out key f hf rfl;rw [hn] at this;exact this
theorem Few.done {qs:List φ} {out:List φ} (h:Few us H qs [] out):kZ H qs out=out:=sN (JH fun f hf=>h.set f hf List.not_mem_nil)
end
open Go.ChangeAt Go.ChangeShapes Go.RowKit Go.WideShapes Pl
theorem jT (c:UInt8) (w:World) :
  Calls prog 131 #[.int .u8 c.toNat] w fun e w'=>e=.returned (.bool (iM c))∧w'=w:=by
 go_enter func131,ntmps131;go_wp2
 all_goals go_ret
 all_goals refine ⟨af ?_,rfl⟩
 all_goals (rw [Bool.eq_iff_iff]; simp [iM]; omega)
theorem aL (s:ByteArray) (w:World) (hs:s.size≤maxLen) :
  Calls prog 56 #[.string s] w fun e w'=>e=.returned (.bool (aR s))∧w'=w:=by
 unfold maxLen at hs;by_cases h1:1≤s.size∧s.size≤12
 ·obtain ⟨ha,hb⟩:=h1;go_enter func56,ntmps56;go_wp2
  go_loop [3] (fun i=>∃ k:Nat,k≤s.size∧i=.int .i64 k∧Hid (F6 iM s k=true)) (fun i=>s.size - (intOf i).toNat)
  case atStart=>exact ⟨0,R6 _,rfl,qQ _ _⟩
  case round =>
   obtain ⟨k,hk,rfl,hu⟩:=hrel;by_cases hlt:k < s.size
   ·by_cases hc:iM s[k]=true
    ·have hc1:97≤s[k].toNat:=by simp [iM] at hc; omega
     have hc2:s[k].toNat≤122:=by simp [iM] at hc; omega
     have HU:Hid (F6 iM s (k + 1)=true):=by show _=_; rw [qR _ _ _ hlt,hc,hu.out]; rfl
     clear hc;go_wp2;go_round;case rel=>exact ⟨k + 1,by omega,by go_num,HU⟩
     case measure=>simp [intOf]; omega
    ·have hc':iM s[k]=false:=by simpa using hc
     have HB:Hid (qy iM s=false):=wP _ _ _ hlt hc';have hd:s[k].toNat < 97 ∨ 122 < s[k].toNat:=by simp [iM] at hc'; omega
     clear hc hc';rcases hd with hd | hd
     all_goals
      go_wp2;go_ret;exact ⟨af (by simp [aR,dO,HB.out]),rfl⟩
   ·go_wp2;go_ret;refine ⟨af ?_,rfl⟩;have hall:qy iM s=true:=by rw [← wO iM s k (by omega)]; exact hu.out
    have hl:mf s=true:=by simp [mf]; omega
    simp [aR,dO,wN,hall,hl]
 ·have hn:mf s=false:=by simp [mf]; omega
  have HN:Hid (aR s=false):=by show _=_; simp [aR,dO,hn]
  clear hn;by_cases ha:1≤s.size
  ·have hb:12 < s.size:=by omega
   clear h1;go_enter func56,ntmps56;go_wp2;go_ret;exact ⟨af HN.out.symm,rfl⟩
  ·have ha':s.size < 1:=by omega
   clear h1;go_enter func56,ntmps56;go_wp2;go_ret;exact ⟨af HN.out.symm,rfl⟩
theorem xw (s:ByteArray) (w:World) (hs:s.size≤maxLen) :
  Calls prog 130 #[.string s,.func (Fn.func 131) #[] #[]] w fun e w'=>e=.returned (.bool (dO iM s))∧w'=w:=by
 unfold maxLen at hs;by_cases h1:1≤s.size∧s.size≤12
 ·obtain ⟨ha,hb⟩:=h1;go_enter func130,ntmps130;go_wp2
  go_loop [16] (fun i=>∃ k:Nat,k≤s.size∧i=.int .i64 k∧Hid (F6 iM s k=true)) (fun i=>s.size - (intOf i).toNat)
  case atStart=>exact ⟨0,R6 _,rfl,qQ _ _⟩
  case round =>
   obtain ⟨k,hk,rfl,hu⟩:=hrel;by_cases hlt:k < s.size
   ·by_cases hc:iM s[k]=true
    ·have HU:Hid (F6 iM s (k + 1)=true):=by show _=_; rw [qR _ _ _ hlt,hc,hu.out]; rfl
     go_wp2_with (go_at_call 131; refine (jT _ _).mono ?_; rintro e w' ⟨rfl,rfl⟩);go_round;case rel=>exact ⟨k + 1,by omega,by go_num,HU⟩
     case measure=>simp [intOf]; omega
    ·have hc':iM s[k]=false:=by simpa using hc
     have HB:Hid (qy iM s=false):=wP _ _ _ hlt hc';clear hc;go_wp2_with (go_at_call 131; refine (jT _ _).mono ?_; rintro e w' ⟨rfl,rfl⟩);go_ret;exact ⟨af (by simp [dO,HB.out]),rfl⟩
   ·go_wp2;go_ret;refine ⟨af ?_,rfl⟩;have hall:qy iM s=true:=by rw [← wO iM s k (by omega)]; exact hu.out
    have hl:mf s=true:=by simp [mf]; omega
    simp [dO,hall,hl]
 ·have hn:mf s=false:=by simp [mf]; omega
  have HN:Hid (dO iM s=false):=by show _=_; simp [dO,hn]
  clear hn;by_cases ha:1≤s.size
  ·have hb:12 < s.size:=by omega
   clear h1;go_enter func130,ntmps130;go_wp2;go_ret;exact ⟨af HN.out.symm,rfl⟩
  ·have ha':s.size < 1:=by omega
   clear h1;go_enter func130,ntmps130;go_wp2;go_ret;exact ⟨af HN.out.symm,rfl⟩
theorem aY (s:ByteArray) (w:World) (hs:s.size≤maxLen) :
  Calls prog 95 #[.string s] w fun e w'=>e=.returned (.bool (aR s))∧w'=w:=by
 by_cases h:s.toList=[116,104,105,115]
 ·have hb:(s.toList == [116,104,105,115])=true:=by simp [h]
  have HN:Hid (aR s=false):=by show _=_; simp [aR,wN,h]
  clear h;go_enter func95,ntmps95;go_wp2;go_ret;exact ⟨af HN.out.symm,rfl⟩
 ·have hb:(s.toList == [116,104,105,115])=false:=by simp [h]
  have HN:Hid (aR s=dO iM s):=by show _=_; simp [aR,wN,h]
  clear h;go_enter func95,ntmps95;go_wp2_with (go_at_call 130; refine (xw _ _ hs).mono ?_; rintro e w' ⟨rfl,rfl⟩);go_ret;exact ⟨af HN.out.symm,rfl⟩
structure Al where
 t:ByteArray
 s:ByteArray
def Al.fits (a:Al):Prop:=a.t.size≤maxLen∧a.s.size≤maxLen
def OB (w:World) (b off:Nat) (a:Al):Prop:=w.cell? ⟨b,off,none⟩=some (.string a.t)∧w.cell? ⟨b,off + 1,none⟩=some (.string a.s)
def iy (w:World) (ad:Option Addr) (xs:List Al):Prop:=xs=[] ∨ ∃ b off,ad=some ⟨b,off,none⟩∧b < w.heap.size∧∀ (i:Nat) (h:i < xs.length),OB w b (off + i * 2) xs[i]
def lF (w:World) (ad:Option Addr) (zs:List Int):Prop:=zs=[] ∨ ∃ b off,ad=some ⟨b,off,none⟩∧b < w.heap.size∧∀ (i:Nat) (h:i < zs.length),w.cell? ⟨b,off + i,none⟩=some (.int .i64 zs[i])
theorem OB.same {w w':World} {b off:Nat} {a:Al} (h:OB w b off a) (hc:∀ o,w'.cell? ⟨b,o,none⟩=w.cell? ⟨b,o,none⟩):OB w' b off a:=⟨(hc _).trans h.1,(hc _).trans h.2⟩
theorem iy.below {w w':World} {ad:Option Addr} {xs:List Al} (h:iy w ad xs) (hB:Below w.heap.size w w'):iy w' ad xs:=by
 rcases h with h | ⟨b,off,e,hb,hr⟩
 ·exact .inl h
 ·exact .inr ⟨b,off,e,RZ hb hB.size,fun i hi=>(hr i hi).same fun o=>hB.cell (p:=⟨b,o,none⟩) hb⟩
theorem lF.below {w w':World} {ad:Option Addr} {zs:List Int} (h:lF w ad zs) (hB:Below w.heap.size w w'):lF w' ad zs:=by
 rcases h with h | ⟨b,off,e,hb,hr⟩
 ·exact .inl h
 ·exact .inr ⟨b,off,e,RZ hb hB.size,fun i hi=>(hB.cell (p:=⟨b,off + i,none⟩) hb).trans (hr i hi)⟩
structure Ex where
 kind:Int
 allow:List Al
 over:ByteArray
 name:ByteArray
 kids:List Int
structure ER where
 e:Ex
 adA:Option Addr
 capA:Nat
 adK:Option Addr
 capK:Nat
def ER.val (r:ER):Value:=.agg #[.int .i64 r.e.kind,.slice r.adA r.e.allow.length r.capA,.string r.e.over,.string r.e.name,.slice r.adK r.e.kids.length r.capK]
def ER.ok (w:World) (r:ER):Prop:=iy w r.adA r.e.allow∧lF w r.adK r.e.kids
def Ex.fits (e:Ex):Prop:=(∀ a ∈ e.allow,a.fits)∧e.over.size≤maxLen∧e.name.size≤maxLen∧e.allow.length≤maxLen∧e.kids.length≤maxLen
theorem ER.ok.below {w w':World} {r:ER} (h:r.ok w) (hB:Below w.heap.size w w'):r.ok w':=⟨h.1.below hB,h.2.below hB⟩
def sP (w:World) (b off:Nat) (r:ER):Prop :=
 w.cell? ⟨b,off,none⟩=some (.int .i64 r.e.kind)∧w.cell? ⟨b,off + 1,none⟩=some (.slice r.adA r.e.allow.length r.capA)∧w.cell? ⟨b,off + 2,none⟩=some (.string r.e.over) ∧
 w.cell? ⟨b,off + 3,none⟩=some (.string r.e.name)∧w.cell? ⟨b,off + 4,none⟩=some (.slice r.adK r.e.kids.length r.capK)
theorem sP.same {w w':World} {b off:Nat} {r:ER} (h:sP w b off r) (hc:∀ o,w'.cell? ⟨b,o,none⟩=w.cell? ⟨b,o,none⟩):sP w' b off r:=by
 obtain ⟨h0,h1,h2,h3,h4⟩:=h;exact ⟨(hc _).trans h0,(hc _).trans h1,(hc _).trans h2,(hc _).trans h3,(hc _).trans h4⟩
def eX (w:World) (ad:Option Addr) (rs:List ER):Prop:=rs=[] ∨ ∃ b off,ad=some ⟨b,off,none⟩∧b < w.heap.size∧(∀ (i:Nat) (h:i < rs.length),sP w b (off + i * 5) rs[i])∧∀ r ∈ rs,r.ok w
theorem eX.below {w w':World} {ad:Option Addr} {rs:List ER} (h:eX w ad rs) (hB:Below w.heap.size w w'):eX w' ad rs:=by
 rcases h with h | ⟨b,off,e,hb,hr,hk⟩
 ·exact .inl h
 ·exact .inr ⟨b,off,e,RZ hb hB.size,fun i hi=>(hr i hi).same fun o=>hB.cell (p:=⟨b,o,none⟩) hb,fun r hr=>(hk r hr).below hB⟩
def ah (rs:List ER):List Ex:=rs.map ER.e
theorem aJ (rs:List ER):(ah rs).length=rs.length:=by simp [ah]
def xx (s:ByteArray):Bool:=s.toList.isEmpty || aR s
theorem F9 (s:ByteArray) (w:World) (hs:s.size≤maxLen) :
  Calls prog 96 #[.string s] w fun e w'=>e=.returned (.bool (xx s))∧w'=w:=by
 go_enter func96,ntmps96;go_wp2_with (go_at_call 95; refine (aY _ _ hs).mono ?_; rintro e w' ⟨rfl,rfl⟩)
 all_goals go_ret
 all_goals exact ⟨af (by simp [xx, *]),rfl⟩
theorem zC (t s:ByteArray) (left:Int) (w:World) (ht:t.size≤maxLen) (hs:s.size≤maxLen) (h0:0≤left) (h1:left≤1048576) :
  Calls prog 169 #[.agg #[.string t,.string s],.int .i64 left] w fun e w'=>(∃ n:Int,e=.returned (.int .i64 n)∧(n=-1 ∨ 0≤n∧n≤left))∧Below w.heap.size w w':=by
 unfold maxLen at ht hs;have hB:=(R3 w.heap.size w).alloc (R4 _) (.cells #[.string t,.string s] 260);by_cases h2:left - t.size < 0
 ·go_enter func169,ntmps169;go_wp2;go_ret;exact ⟨⟨-1,rfl,.inl rfl⟩,hB⟩
 ·by_cases h3:left - t.size - s.size < 0
  ·go_enter func169,ntmps169;go_wp2;go_ret;exact ⟨⟨-1,rfl,.inl rfl⟩,hB⟩
  ·go_enter func169,ntmps169;go_wp2;go_ret;exact ⟨⟨_,rfl,.inr ⟨by omega,by omega⟩⟩,hB⟩
def Ex.light (e:Ex):Prop:=e.allow.length≤1048576∧e.kids.length≤1048576
structure Fil (w wr:World) (g n:Nat) (xs:List Value):Prop where
 below:Below w.heap.size w wr
 ge:w.heap.size≤g
 lt:g < wr.heap.size
 done:∀ (j:Nat) (h:j < xs.length),wr.cell? ⟨g,j,none⟩=some xs[j]
 there:∀ j,j < n→(wr.cell? ⟨g,j,none⟩).isSome=true
 free:∀ j,wr.frozen? ⟨g,j,none⟩=false
theorem dF {w:World} {g i j:Nat} {v:Value} (h:i ≠ j):(w.setCell ⟨g,i,none⟩ v).cell? ⟨g,j,none⟩=w.cell? ⟨g,j,none⟩:=by
 apply World.cell?_setCell_other;intro e;exact h (congrArg Addr.off e)
theorem jO {w:World} {a:Addr} {v u:Value} (h:w.cell? a=some u):(w.setCell a v).cell? a=some v:=by
 apply World.cell?_setCell_same; exact h
theorem eY {w:World} {g h i j:Nat} {v:Value} (hn:g ≠ h):(w.setCell ⟨g,i,none⟩ v).cell? ⟨h,j,none⟩=w.cell? ⟨h,j,none⟩:=by
 apply World.cell?_setCell_other;intro e;exact hn (congrArg Addr.block e)
theorem Fil.later {w wr w1:World} {g n:Nat} {xs:List Value} (h:Fil w wr g n xs) (hb:Below wr.heap.size wr w1):Fil w w1 g n xs where
 below:=h.below.trans (hb.mono h.below.size)
 ge:=h.ge
 lt:=RZ h.lt hb.size
 done j hj:=by rw [hb.cell (p:=⟨g,j,none⟩) h.lt]; exact h.done j hj
 there j hj:=by rw [hb.cell (p:=⟨g,j,none⟩) h.lt]; exact h.there j hj
 free j:=by rw [hb.frozen (p:=⟨g,j,none⟩) h.lt]; exact h.free j
theorem Fil.put {w wr:World} {g n o:Nat} {xs:List Value} (h:Fil w wr g n xs) (v:Value) (ho:o=xs.length) (hn:o < n):Fil w (wr.setCell ⟨g,o,none⟩ v) g n (xs ++ [v]) where
 below:=h.below.setCell (p:=⟨g,o,none⟩) h.ge v
 ge:=h.ge
 lt:=by simpa using h.lt
 done j hj:=by
  by_cases e:j=o
  ·subst e;obtain ⟨u,hu⟩:=Option.isSome_iff_exists.mp (h.there j hn);rw [jO hu];simp [ho]
  ·have hj':j < xs.length:=by simp at hj; omega
   rw [dF (Ne.symm e),h.done j hj',Sy hj']
 there j hj:=by
  by_cases e:j=o
  ·subst e;obtain ⟨u,hu⟩:=Option.isSome_iff_exists.mp (h.there j hn);rw [jO hu]; rfl
  ·rw [dF (Ne.symm e)];exact h.there j hj
 free j:=by simpa using h.free j
theorem nW {w w0:World} {n k:Nat} {base:Nat} {e:TypeId} {xs:List Value} (h:w0.ownsRow base e k (.slice (some ⟨w.heap.size,0,none⟩) n n) n xs) (hg:w.grownBy w0 none):Fil w w0 w.heap.size (n * k) [] where
 below:=(R3 _ _).grown hg (R4 _) (fun k hk=>by cases hk)
 ge:=R4 _
 lt:=(h.lt w.heap.size rfl).2
 done j hj:=absurd hj (SE _)
 there j hj:=by
  rw [h.cellAt j hj,R8 (by rw [h.1]; exact hj)]; rfl
 free j:=h.frozenAt j
theorem xy {t:TypeId} {n b:Nat} (h:(prog.info? t).map (fun i=>(i.zero.isSome,i.size,i.bytes))=some (true,n,b)):∃ i z,prog.info? t=some i∧i.zero=some z∧i.size=n∧i.bytes=b:=by
 cases hi:prog.info? t with
 | none=>rw [hi] at h; cases h
 | some i =>
  rw [hi] at h;simp at h;obtain ⟨z,hz⟩:=Option.isSome_iff_exists.mp h.1;exact ⟨i,z,rfl,hz,h.2.1,h.2.2⟩
def ints (zs:List Int):List Value:=zs.map (Value.int .i64)
theorem JJ (zs:List Int) (k:Nat) (h:k < zs.length):ints (zs.take (k + 1))=ints (zs.take k) ++ [.int .i64 zs[k]]:=by
 unfold ints; rw [R5 h,List.map_append]; rfl
theorem LB (zs:List Int) (k:Nat) (h:k≤zs.length):(ints (zs.take k)).length=k:=by simp [ints]; omega
theorem Fil.ints {w w':World} {g:Nat} {zs:List Int} (h:Fil w w' g zs.length (ints zs)):lF w' (some ⟨g,0,none⟩) zs :=
 .inr ⟨g,0,rfl,h.lt,fun i hi=>by rw [Su,h.done i (by simpa [YtdaoiceeidoehaaGreat.ints] using hi)]; simp [YtdaoiceeidoehaaGreat.ints]⟩
theorem zD (t s:ByteArray) (w:World) :
  Calls prog 170 #[.agg #[.string t,.string s]] w fun e w'=>e=.returned (.agg #[.string t,.string s])∧Below w.heap.size w w':=by
 have hB:=(((R3 w.heap.size w).alloc (R4 _) (.cells #[.string t,.string s] 260)).alloc (by simp) (.cells #[.string t,.string s] 163)).alloc (by simp; omega) (.cells #[.string t,.string s] 163);go_enter func170,ntmps170;go_wp2;exact bodyPost_ret (v:=.agg #[.string t,.string s]) (by simp [results,Tryz.results170,go_sem, *]) rfl ⟨rfl,hB⟩
def pairs (xs:List Al):List Value:=xs.flatMap fun a=>[.string a.t,.string a.s]
theorem Ga (xs:List Al) (k:Nat) (h:k < xs.length):pairs (xs.take (k + 1))=(pairs (xs.take k) ++ [.string xs[k].t]) ++ [.string xs[k].s]:=by
 unfold pairs; rw [R5 h,List.flatMap_append]; simp
theorem pE:∀ xs:List Al,(pairs xs).length=xs.length * 2
 | []=>rfl
 | a::xs=>by have:=pE xs; simp only [pairs,List.flatMap_cons,R9,List.length_cons,List.length_nil] at this ⊢; omega
theorem xz:∀ (xs:List Al) (i:Nat) (h:i < xs.length),(pairs xs)[i * 2]?=some (.string xs[i].t)∧(pairs xs)[i * 2 + 1]?=some (.string xs[i].s)
 | [],i,h=>by simp at h
 | a::xs,0,_=>by simp [pairs]
 | a::xs,i + 1,h=>by
  have:=xz xs i (by simpa using h);simp only [pairs,List.flatMap_cons,List.cons_append,List.nil_append,List.getElem_cons_succ] at this ⊢;rw [show (i + 1) * 2=i * 2 + 1 + 1 by omega,show i * 2 + 1 + 1 + 1=(i * 2 + 1) + 1 + 1 by omega];simpa using this
theorem Fil.pairs {w w':World} {g:Nat} {xs:List Al} (h:Fil w w' g (xs.length * 2) (pairs xs)):iy w' (some ⟨g,0,none⟩) xs:=by
 refine .inr ⟨g,0,rfl,h.lt,fun i hi=>?_⟩;obtain ⟨h1,h2⟩:=xz xs i hi;have hl:=pE xs;refine ⟨?_,?_⟩
 ·rw [Su,h.done (i * 2) (by omega),← h1,R8 (by omega)]
 ·rw [Su,h.done (i * 2 + 1) (by omega),← h2,R8 (by omega)]
end Go.Proofs.YtdaoiceeidoehaaGreat
