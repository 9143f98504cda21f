/- Contracts of the program's looks into its table: is a relation there, is it told by objects, is a type there. -/
import Derived.Test.YtdmniljjnaebbaaGreatDoorSq
import Derived.Test.YtdmniljjnaebbaaGreatDoorJ10
open Go.Proofs.Tryz
set_option maxHeartbeats 80000000
namespace Go.Proofs.YtdmniljjnaebbaaGreatDoor
open Go.ChangeShapes Go.WideShapes Go.ChangeAt Go.RowKit Go.Maps
open Pl
theorem pW (w:af):(zeroValue 120).run prog w=.ok (.slice none 0 0) w:=by kernel_rfl
theorem wZ (b n:Nat) (M:ByteArray × ByteArray→Option Value) (t r:dB) (w:af) (ht:t.size≤maxLen) (hr:r.size≤maxLen) (hV:aJ dE prog 172 w b n M) :
  Calls prog 165 #[.map (some b),.string t,.string r] w fun e w'=>e=.returned (.bool (M (t,r)).isSome)∧w'=w:=by
 obtain ⟨kl,hkl⟩:=jB (t,r) ht hr;have HV:Hid (aJ dE prog 172 w b n M):=hV;have UY:Hid (keyOf prog 172 (dE (t,r))=some kl):=hkl;clear hkl hV;go_enter func165,ntmps165;go_wp2_with (first | (at_lookup; refine dz _ rfl _ _ 127 rfl 172 120 ig underlying127 (pW _) b n M rfl HV.out (t,r) kl rfl UY.out ?_) | go_in);go_ret;exact ⟨rfl,rfl⟩
theorem Bh (a:Al) (w:af) :
  Calls prog 214 #[.agg #[.string a.t,.string a.s]] w fun e w'=>e=.returned (.bool (!a.s.toList.isEmpty))∧aa w w':=by
 cases h:a.s.toList.isEmpty;case true=>
  go_enter func214,ntmps214;go_wp2;go_ret;exact ⟨rfl,(Si _ _).alloc (Sj _) _⟩
 go_enter func214,ntmps214;go_wp2;go_ret;exact ⟨rfl,(Si _ _).alloc (Sj _) _⟩
theorem vI (xs:List Al) (k:Nat) (h:k < xs.length):(xs.drop k).any (fun a=>!a.s.toList.isEmpty)=((!xs[k].s.toList.isEmpty) || (xs.drop (k + 1)).any (fun a=>!a.s.toList.isEmpty)):=by
 rw [SH h]; rfl
theorem zW (ad:Option Addr) (cap:Nat) (xs:List Al) (w:af) (hlen:xs.length≤1048576) (hs:gP w ad xs) :
  Calls prog 219 #[.slice ad xs.length cap,.func (Fn.func 214) #[] #[]] w fun e w'=>(∃ r:Int,e=.returned (.int .i64 r)∧decide (0≤r)=xs.any (fun a=>!a.s.toList.isEmpty))∧aa w w':=by
 have HS:=ay hs;clear hs;go_enter func219,ntmps219;go_wp2_with fail;go_loopw [8] (fun i wr=>∃ k:Nat,k≤xs.length∧i=.int .i64 k∧Hid ((xs.drop k).any (fun a=>!a.s.toList.isEmpty)=xs.any (fun a=>!a.s.toList.isEmpty))∧Hid (aa w wr)) (fun i _=>xs.length - (intOf i).toNat);case atStart=>exact ⟨0,Sm _,rfl,rfl,Si _ _⟩
 obtain ⟨k,hk,rfl,HP,HB⟩:=hrel;by_cases hlt:k < xs.length
 ·rcases HS.out.below HB.out with rfl | ⟨b,off,rfl,hb,hr⟩
  ·simp at hlt
  obtain ⟨t0,t1⟩:=hr k hlt;have hk1:=bH k;have hk2:(k:Int) < (xs.length:Int):=by omega
  clear hr;cases he:xs[k].s.toList.isEmpty;case false=>
   have HN:Hid (xs.any (fun a=>!a.s.toList.isEmpty)=true):=by show _=_; rw [← HP.out,vI _ _ hlt,he]; rfl
   go_wp2_with (go_at_call 214; refine (Bh xs[k] _).mono ?_; rintro e w' ⟨he2,hbx⟩; rw [he] at he2; subst he2);go_ret;exact ⟨⟨k,rfl,by rw [HN.out]; simp⟩,HB.out.trans (hbx.mono HB.out.size)⟩
  have Tu:Hid ((xs.drop (k + 1)).any (fun a=>!a.s.toList.isEmpty)=xs.any (fun a=>!a.s.toList.isEmpty)):=by show _=_; rw [← HP.out,vI _ _ hlt,he]; rfl
  go_wp2_with (go_at_call 214; refine (Bh xs[k] _).mono ?_; rintro e w' ⟨he2,hbx⟩; rw [he] at he2; subst he2);go_roundw;case rel=>exact ⟨k + 1,by omega,by go_num,Tu,HB.out.trans (hbx.mono HB.out.size)⟩
  simp [intOf] <;> omega
 have HN:Hid (xs.any (fun a=>!a.s.toList.isEmpty)=false):=by show _=_; rw [← HP.out,List.drop_of_length_le (by omega)]; rfl
 go_wp2;go_ret;exact ⟨⟨-1,rfl,by rw [HN.out]; simp⟩,HB.out⟩
theorem uq (ad:Option Addr) (cap:Nat) (xs:List Al) (w:af) (hlen:xs.length≤1048576) (hs:gP w ad xs) :
  Calls prog 213 #[.slice ad xs.length cap,.func (Fn.func 214) #[] #[]] w fun e w'=>e=.returned (.bool (xs.any (fun a=>!a.s.toList.isEmpty)))∧aa w w':=by
 go_enter func213,ntmps213;go_wp2_with fail;refine (zW ad cap xs _ hlen hs).mono ?_;rintro e w' ⟨⟨r,rfl,hr⟩,hbx⟩;have HR:Hid (decide (0≤r)=xs.any (fun a=>!a.s.toList.isEmpty)):=hr;clear hr hs;go_wp2;go_ret;exact ⟨by rw [← HR.out]; rfl,hbx⟩
theorem MO (xs:List Al):(!xs.any fun a=>!a.s.toList.isEmpty)=xs.all fun a=>a.s.toList.isEmpty:=by
 induction xs with
 | nil=>rfl
 | cons a xs ih=>simp only [List.any_cons,List.all_cons,Bool.not_or,Bool.not_not,ih]
set_option maxRecDepth 100000 in
theorem si (ad:Option Addr) (cap:Nat) (rs:List ER) (w:af) (hlen:rs.length≤1048576) (hs:fQ w ad rs) (hl:∀ r ∈ rs,r.e.light) :
  Calls prog 196 #[.slice ad rs.length cap] w fun e w'=>e=.returned (.bool (bF (ai rs)))∧aa w w':=by
 by_cases h1:rs.length=1
 ·obtain ⟨r,rfl⟩:∃ r,rs=[r]:=List.length_eq_one_iff.1 h1;rcases hs with h | ⟨b,off,rfl,hb,hr,hok⟩
  ·cases h
  obtain ⟨t0,t1,t2,t3,t4⟩:=hr 0 (by simp);simp only [Nat.zero_mul,Nat.add_zero,List.getElem_cons_zero] at t0 t1 t2 t3 t4;have TS:Hid (r.ok w):=hok r (by simp);obtain ⟨lg,-⟩:=hl r (by simp);clear hr hok h1;simp only [List.length_cons,List.length_nil,SG];by_cases hq:r.e.kind=1
  ·have HD:Hid (bF (ai [r])=!r.e.allow.any fun a=>!a.s.toList.isEmpty):=by show _=_; rw [MO]; simp [bF,ai,hq]
   have hqb:(r.e.kind == 1)=true:=by simpa using hq
   go_enter func196,ntmps196;go_wp2_with (go_at_call 213; refine (uq _ _ r.e.allow _ lg (TS.out.1.below ((Si _ _)))).mono ?_; rintro e w' ⟨rfl,hbx⟩);go_ret;exact ⟨by rw [HD.out]; rfl,hbx⟩
  have HD:Hid (bF (ai [r])=false):=by show _=_; simp [bF,ai,hq]
  have hqb:(r.e.kind == 1)=false:=by simpa using hq
  go_enter func196,ntmps196;go_wp2;go_ret;exact ⟨by rw [HD.out]; rfl,Si _ _⟩
 have HD:Hid (bF (ai rs)=false):=by
  show _=_;rcases rs with _ | ⟨r,_ | ⟨r2,rs⟩⟩
  ·rfl
  ·simp at h1
  rfl
 have h2:((rs.length:Int) == 1)=false:=by
  have:¬ ((rs.length:Int)=1):=by omega
  simpa using this
 clear hs;go_enter func196,ntmps196;go_wp2;go_ret;exact ⟨by rw [HD.out]; rfl,Si _ _⟩
end Go.Proofs.YtdmniljjnaebbaaGreatDoor
