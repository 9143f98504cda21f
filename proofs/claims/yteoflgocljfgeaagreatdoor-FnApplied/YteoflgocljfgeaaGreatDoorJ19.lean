/- A slice of bytes that came in, and the reader that is opened over it. -/
import Derived.Test.YteoflgocljfgeaaGreatDoorJ2
import Derived.ChangeSlices
import Derived.Deep.Slices
open Go.Proofs.Tryz
set_option maxHeartbeats 80000000
namespace Go.Proofs.YteoflgocljfgeaaGreatDoor
open Go.ChangeShapes Go.WideShapes Go.ChangeAt Go.RowKit
open Pl
def Bytes (w:World) (ad:Option Addr) (len:Nat):Prop:=len≤maxLen∧(0 < len→∃ b off,ad=some ⟨b,off,none⟩∧b < w.heap.size∧∀ i,i < len→∃ c:Int,0≤c∧c≤255∧w.cell? ⟨b,off + i,none⟩=some (.int .u8 c))
theorem Bytes.below {w w':World} {ad:Option Addr} {len:Nat} (h:Bytes w ad len) (hb:Below w.heap.size w w'):Bytes w' ad len:=by
 refine ⟨h.1,fun h0=>?_⟩;obtain ⟨b,off,e,hbl,hc⟩:=h.2 h0;refine ⟨b,off,e,Nat.lt_of_lt_of_le hbl hb.size,fun i hi=>?_⟩;obtain ⟨c,c0,c1,hcc⟩:=hc i hi;exact ⟨c,c0,c1,by rw [hb.cell (p:=⟨b,off + i,none⟩) hbl]; exact hcc⟩
theorem DZ {H:Type} {enc:TypeId × Value→H} {W:World} {base:Nat} {sp:Nat→Bool} {held:Bool} {fuel:Nat} {ad:Option Addr} {len cap:Nat} {x:DataW H × List MemPlace}
  (h:DataW.trod enc prog W base sp held fuel 50 [.slice ad len cap]=some x):Bytes W ad len:=by
 rcases open_ints underlying50 underlying5 (by kernel_rfl) h with ⟨hcs,-⟩ | ⟨a,l,c,zs,hcs,-,hlc,hcm,hm,-,hel,hwf⟩
 ·simp at hcs;obtain ⟨rfl,rfl,rfl⟩:=hcs;exact ⟨by unfold maxLen; omega,fun h0=>by omega⟩
 ·simp at hcs;obtain ⟨rfl,rfl,rfl⟩:=hcs;have hle:len≤zs.length:=by rw [hm]; split <;> omega
  refine ⟨by omega,fun h0=>?_⟩;have hspot:a.spot=none:=by
   have:=hel 0 (by omega);have e:a.add 0=a:=by simp [Addr.add]
   rw [e] at this;exact World.cell?_spot this
  obtain ⟨b,off,spot⟩:=a;simp only at hspot;subst hspot;have add0:∀ x:Nat,(⟨b,off,none⟩:Addr).add x=⟨b,off + x,none⟩:=fun x=>by
   unfold Addr.add;by_cases h:x=0
   ·subst h; simp
   ·simp [h]
  refine ⟨b,off,rfl,?_,fun i hi=>?_⟩
  ·have:=hel 0 (by omega);rw [add0] at this;exact World.block_lt_of_cell? W ⟨b,off + 0,none⟩ this
  ·have h1:=hel i (by omega);rw [add0] at h1;have h2:=hwf (zs.getD i 0) (by rw [List.getD_eq_getElem?_getD,List.getElem?_eq_getElem (by omega)]; simp);have h3:IntKind.u8.min≤zs.getD i 0∧zs.getD i 0≤IntKind.u8.max:=by simpa only [Lit.wf,Bool.and_eq_true,decide_eq_true_eq] using h2
   have e1:IntKind.u8.min=0:=by decide
   have e2:IntKind.u8.max=255:=by decide
   rw [e1,e2] at h3;exact ⟨_,h3.1,h3.2,h1⟩
theorem Mt {w:World} {ad:Option Addr} {len cap:Nat} {t:TypeId} (h:Bytes w ad len):Rd (w.alloc (.cells #[.slice ad len cap,.int .i64 0] t)) w.heap.size ad len cap where
 lt:=by simp
 code:=by simp
 place:=⟨0,by simp,by omega⟩
 free:=by simp
 bytes h0:=by
  obtain ⟨b,off,e,hbl,hc⟩:=h.2 h0;refine ⟨b,off,e,by omega,by simp; omega,fun i hi=>?_⟩;obtain ⟨c,c0,c1,hcc⟩:=hc i hi;exact ⟨c,c0,c1,Kt hcc _⟩
 small:=h.1
theorem Jk (ad:Option Addr) (len cap:Nat) (w:World) (h:Bytes w ad len) :
  Calls prog 35 #[.slice ad len cap] w fun e w'=>e=.returned (.pointer (some ⟨w.heap.size,0,none⟩))∧Rd w' w.heap.size ad len cap∧Below w.heap.size w w':=by
 have H:Hid (Bytes w ad len):=h;clear h;go_enter func35,ntmps35;go_wp2;go_ret;exact ⟨rfl,Mt H.out,(Below.refl _ _).alloc (Nat.le_refl _) _⟩
theorem KW (ad:Option Addr) (len cap:Nat) (w:World) :
  Calls prog 18 #[.slice ad len cap] w fun e w'=>e=.returned (.bool (decide ((1048576:Int) < (len:Int))))∧w'=w:=by
 go_enter func18,ntmps18;go_wp2;go_ret;exact ⟨rfl,rfl⟩
theorem rG (c:UInt8) (w:World) :
  Calls prog 158 #[.int .u8 c.toNat] w fun e w'=>e=.returned (.bool (uW c))∧w'=w:=by
 by_cases hl:dK c=true
 ·go_enter func158,ntmps158;go_wp2_with (go_at_call 142; refine (jK _ _).mono ?_; rintro e w' ⟨rfl,rfl⟩);go_ret;exact ⟨ag (by simp [uW,hl]),rfl⟩
 ·have hf:dK c=false:=by simpa using hl
  clear hl;go_enter func158,ntmps158;go_wp2_with (go_at_call 142; refine (jK _ _).mono ?_; rintro e w' ⟨rfl,rfl⟩)
  all_goals go_ret
  all_goals refine ⟨ag ?_,rfl⟩
  all_goals (rw [Bool.eq_iff_iff]; simp [uW,hf]; omega)
theorem D5 (s:ByteArray) (w:World) (hs:s.size≤maxLen) :
  Calls prog 121 #[.string s] w fun e w'=>e=.returned (.bool (mW s))∧w'=w:=by
 unfold maxLen at hs;by_cases h1:1≤s.size∧s.size≤12
 ·obtain ⟨ha,hb⟩:=h1;go_enter func121,ntmps121;go_wp2
  go_loop [3] (fun i=>∃ k:Nat,k≤s.size∧i=.int .i64 k∧Hid (C9 uW s k=true)) (fun i=>s.size - (intOf i).toNat)
  case atStart=>exact ⟨0,Nat.zero_le _,rfl,qK _ _⟩
  case round =>
   obtain ⟨k,hk,rfl,hu⟩:=hrel;by_cases hlt:k < s.size
   ·by_cases hc:uW s[k]=true
    ·have hd:(97≤s[k].toNat∧s[k].toNat≤122) ∨ (48≤s[k].toNat∧s[k].toNat≤57) ∨ s[k].toNat=95:=by simp [uW,dK] at hc; omega
     have HU:Hid (C9 uW s (k + 1)=true):=by show _=_; rw [qL _ _ _ hlt,hc,hu.out]; rfl
     clear hc;rcases hd with ⟨hd1,hd2⟩ | ⟨hd1,hd2⟩ | hd1
     all_goals
      go_wp2;go_round;case rel=>exact ⟨k + 1,by omega,by go_num,HU⟩
      case measure=>simp [intOf]; omega
    ·have hc':uW s[k]=false:=by simpa using hc
     have HB:Hid (pJ uW s=false):=uZ _ _ _ hlt hc';have hd:s[k].toNat < 48 ∨ (57 < s[k].toNat∧s[k].toNat < 95) ∨ (95 < s[k].toNat∧s[k].toNat < 97) ∨ 122 < s[k].toNat:=by simp [uW,dK] at hc'; omega
     clear hc hc';rcases hd with hd | ⟨hd,hd2⟩ | ⟨hd,hd2⟩ | hd
     all_goals
      have h95:((s[k].toNat:Int) != 95)=true:=by simp; omega
      go_wp2;go_ret;exact ⟨ag (by simp [mW,dh,HB.out]),rfl⟩
   ·go_wp2;go_ret;refine ⟨ag ?_,rfl⟩;have hall:pJ uW s=true:=by rw [← uY uW s k (by omega)]; exact hu.out
    have hl:kY s=true:=by simp [kY]; omega
    simp [mW,dh,hall,hl]
 ·have hn:kY s=false:=by simp [kY]; omega
  have HN:Hid (mW s=false):=by show _=_; simp [mW,dh,hn]
  clear hn;by_cases ha:1≤s.size
  ·have hb:12 < s.size:=by omega
   clear h1;go_enter func121,ntmps121;go_wp2;go_ret;exact ⟨ag HN.out.symm,rfl⟩
  ·have ha':s.size < 1:=by omega
   clear h1;go_enter func121,ntmps121;go_wp2;go_ret;exact ⟨ag HN.out.symm,rfl⟩
theorem xq (s:ByteArray) (w:World) (hs:s.size≤maxLen) :
  Calls prog 141 #[.string s,.func (Fn.func 158) #[] #[]] w fun e w'=>e=.returned (.bool (dh uW s))∧w'=w:=by
 unfold maxLen at hs;by_cases h1:1≤s.size∧s.size≤12
 ·obtain ⟨ha,hb⟩:=h1;go_enter func141,ntmps141;go_wp2
  go_loop [16] (fun i=>∃ k:Nat,k≤s.size∧i=.int .i64 k∧Hid (C9 uW s k=true)) (fun i=>s.size - (intOf i).toNat)
  case atStart=>exact ⟨0,Nat.zero_le _,rfl,qK _ _⟩
  case round =>
   obtain ⟨k,hk,rfl,hu⟩:=hrel;by_cases hlt:k < s.size
   ·by_cases hc:uW s[k]=true
    ·have HU:Hid (C9 uW s (k + 1)=true):=by show _=_; rw [qL _ _ _ hlt,hc,hu.out]; rfl
     go_wp2_with (go_at_call 158; refine (rG _ _).mono ?_; rintro e w' ⟨rfl,rfl⟩);go_round;case rel=>exact ⟨k + 1,by omega,by go_num,HU⟩
     case measure=>simp [intOf]; omega
    ·have hc':uW s[k]=false:=by simpa using hc
     have HB:Hid (pJ uW s=false):=uZ _ _ _ hlt hc';clear hc;go_wp2_with (go_at_call 158; refine (rG _ _).mono ?_; rintro e w' ⟨rfl,rfl⟩);go_ret;exact ⟨ag (by simp [dh,HB.out]),rfl⟩
   ·go_wp2;go_ret;refine ⟨ag ?_,rfl⟩;have hall:pJ uW s=true:=by rw [← uY uW s k (by omega)]; exact hu.out
    have hl:kY s=true:=by simp [kY]; omega
    simp [dh,hall,hl]
 ·have hn:kY s=false:=by simp [kY]; omega
  have HN:Hid (dh uW s=false):=by show _=_; simp [dh,hn]
  clear hn;by_cases ha:1≤s.size
  ·have hb:12 < s.size:=by omega
   clear h1;go_enter func141,ntmps141;go_wp2;go_ret;exact ⟨ag HN.out.symm,rfl⟩
  ·have ha':s.size < 1:=by omega
   clear h1;go_enter func141,ntmps141;go_wp2;go_ret;exact ⟨ag HN.out.symm,rfl⟩
theorem D6 (s:ByteArray) (w:World) (hs:s.size≤maxLen) :
  Calls prog 140 #[.string s] w fun e w'=>e=.returned (.bool (mW s))∧w'=w:=by
 go_enter func140,ntmps140;go_wp2_with (go_at_call 141; refine (xq _ _ hs).mono ?_; rintro e w' ⟨rfl,rfl⟩);go_ret;exact ⟨rfl,rfl⟩
theorem iK {W w1:World} (hb:Below W.heap.size W w1):(∀ b o,b < W.heap.size→w1.cell? ⟨b,o,none⟩=W.cell? ⟨b,o,none⟩)∧(∀ b o,b < W.heap.size→w1.frozen? ⟨b,o,none⟩=W.frozen? ⟨b,o,none⟩) :=
 ⟨fun b o h=>hb.cell (p:=⟨b,o,none⟩) h,fun b o h=>hb.frozen (p:=⟨b,o,none⟩) h⟩
theorem ed (t i:ByteArray) (w:World) (ht:t.size≤maxLen) (hi:i.size≤maxLen) :
  Calls prog 85 #[.agg #[.string t,.string i]] w fun e w'=>e=.returned (.bool (fF t i))∧Below w.heap.size w w':=by
 by_cases hn:aU t=true
 all_goals
  go_enter func85,ntmps85;go_wp2_with (first | (go_at_call 78; refine (aD _ _ ht).mono ?_; rintro e w' ⟨rfl,rfl⟩) | (go_at_call 121; refine (D5 _ _ hi).mono ?_; rintro e w' ⟨rfl,rfl⟩));go_ret;exact ⟨ag (by simp [fF,hn]),(Below.refl _ _).alloc (Nat.le_refl _) _⟩
theorem eu (t i:ByteArray) (w:World) (ht:t.size≤maxLen) (hi:i.size≤maxLen) :
  Calls prog 108 #[.agg #[.string t,.string i]] w fun e w'=>e=.returned (.bool (fF t i))∧Below w.heap.size w w':=by
 by_cases hn:aU t=true
 all_goals
  go_enter func108,ntmps108;go_wp2_with (first | (go_at_call 109; refine (aF _ _ ht).mono ?_; rintro e w' ⟨rfl,rfl⟩) | (go_at_call 140; refine (D6 _ _ hi).mono ?_; rintro e w' ⟨rfl,rfl⟩));go_ret;exact ⟨ag (by simp [fF,hn]),(Below.refl _ _).alloc (Nat.le_refl _) _⟩
structure ObjCore (R B:Nat) (listed:Array Bool) (s3 s4 s5 s6 s7 s8 s9 s10 s11 s12 s13 s14:Value) (w:World):Prop where
 size:listed.size=13
 last:listed.getD 12 false=true→∀ j,j < 12→listed.getD j false=true
 p0:listed.getD 12 false=false→listed.getD 0 false=true→∃ g,s4=.slice (some ⟨g,0,none⟩) 5 5∧Strs w R g 5
 p1:listed.getD 12 false=false→listed.getD 1 false=true→s5=.pointer (some ⟨R,0,none⟩)
 p2:listed.getD 12 false=false→listed.getD 2 false=true→∃ x:Nat,s6=.int .i64 (x:Int)∧x < 5
 p3:listed.getD 12 false=false→listed.getD 3 false=true→∃ g x,s7=.pointer (some ⟨g,x,none⟩)∧x < 5∧Strs w R g 5
 p4:listed.getD 12 false=false→listed.getD 4 false=true→∃ s:ByteArray,s8=.string s∧s.size≤20
 p5:listed.getD 12 false=false→listed.getD 5 false=true→∃ g,s9=.slice (some ⟨g,0,none⟩) 3 3∧Strs w R g 3
 p6:listed.getD 12 false=false→listed.getD 6 false=true→s10=.pointer (some ⟨R,0,none⟩)
 p7:listed.getD 12 false=false→listed.getD 7 false=true→∃ x:Nat,s11=.int .i64 (x:Int)∧x < 3
 p8:listed.getD 12 false=false→listed.getD 8 false=true→∃ g x,s12=.pointer (some ⟨g,x,none⟩)∧x < 3∧Strs w R g 3
 p9:listed.getD 12 false=false→listed.getD 9 false=true→∃ s:ByteArray,s13=.string s∧s.size≤20
 p10:listed.getD 12 false=false→listed.getD 10 false=true→∃ a b:ByteArray,s14=.agg #[.string a,.string b]∧a.size≤20∧b.size≤20
 p11:listed.getD 11 false=true→∃ g,s3=.pointer (some ⟨g,0,none⟩)∧pO w R B g
theorem ObjCore.only {R B:Nat} {listed:Array Bool} {s3 s4 s5 s6 s7 s8 s9 s10 s11 s12 s13 s14:Value} {w w':World} (h:ObjCore R B listed s3 s4 s5 s6 s7 s8 s9 s10 s11 s12 s13 s14 w) (k:Only R w w'):ObjCore R B listed s3 s4 s5 s6 s7 s8 s9 s10 s11 s12 s13 s14 w' where
 size:=h.size
 last:=h.last
 p0 a b:=by obtain ⟨g,e,hs⟩:=h.p0 a b; exact ⟨g,e,hs.only k⟩
 p1 a b:=by exact h.p1 a b
 p2 a b:=by exact h.p2 a b
 p3 a b:=by obtain ⟨g,x,e,hx,hs⟩:=h.p3 a b; exact ⟨g,x,e,hx,hs.only k⟩
 p4 a b:=by exact h.p4 a b
 p5 a b:=by obtain ⟨g,e,hs⟩:=h.p5 a b; exact ⟨g,e,hs.only k⟩
 p6 a b:=by exact h.p6 a b
 p7 a b:=by exact h.p7 a b
 p8 a b:=by obtain ⟨g,x,e,hx,hs⟩:=h.p8 a b; exact ⟨g,x,e,hx,hs.only k⟩
 p9 a b:=by exact h.p9 a b
 p10 a b:=by exact h.p10 a b
 p11 a:=by obtain ⟨g,e,hs⟩:=h.p11 a; exact ⟨g,e,hs.only k⟩
theorem ObjCore.set0 {R B:Nat} {listed:Array Bool} {s3 s4 s5 s6 s7 s8 s9 s10 s11 s12 s13 s14 v:Value} {w:World} (h:ObjCore R B listed s3 s4 s5 s6 s7 s8 s9 s10 s11 s12 s13 s14 w) (hv:∃ g,v=.slice (some ⟨g,0,none⟩) 5 5∧Strs w R g 5):ObjCore R B (listed.setIfInBounds 0 true) s3 v s5 s6 s7 s8 s9 s10 s11 s12 s13 s14 w where
 size:=by simpa using h.size
 last a j hj:=by
  rw [aV _ _ _ (by rw [h.size]; omega)];by_cases e:j=0
  ·simp [e]
  ·rw [if_neg e]; exact h.last (ae (by rw [h.size]; omega) (by omega) a) j hj
 p0 _ _:=hv
 p1 a b:=h.p1 (af (by rw [h.size]; omega) (by omega) a) (ae (by rw [h.size]; omega) (by omega) b)
 p2 a b:=h.p2 (af (by rw [h.size]; omega) (by omega) a) (ae (by rw [h.size]; omega) (by omega) b)
 p3 a b:=h.p3 (af (by rw [h.size]; omega) (by omega) a) (ae (by rw [h.size]; omega) (by omega) b)
 p4 a b:=h.p4 (af (by rw [h.size]; omega) (by omega) a) (ae (by rw [h.size]; omega) (by omega) b)
 p5 a b:=h.p5 (af (by rw [h.size]; omega) (by omega) a) (ae (by rw [h.size]; omega) (by omega) b)
 p6 a b:=h.p6 (af (by rw [h.size]; omega) (by omega) a) (ae (by rw [h.size]; omega) (by omega) b)
 p7 a b:=h.p7 (af (by rw [h.size]; omega) (by omega) a) (ae (by rw [h.size]; omega) (by omega) b)
 p8 a b:=h.p8 (af (by rw [h.size]; omega) (by omega) a) (ae (by rw [h.size]; omega) (by omega) b)
 p9 a b:=h.p9 (af (by rw [h.size]; omega) (by omega) a) (ae (by rw [h.size]; omega) (by omega) b)
 p10 a b:=h.p10 (af (by rw [h.size]; omega) (by omega) a) (ae (by rw [h.size]; omega) (by omega) b)
 p11 a:=h.p11 (ae (by rw [h.size]; omega) (by omega) a)
theorem ObjCore.set1 {R B:Nat} {listed:Array Bool} {s3 s4 s5 s6 s7 s8 s9 s10 s11 s12 s13 s14 v:Value} {w:World} (h:ObjCore R B listed s3 s4 s5 s6 s7 s8 s9 s10 s11 s12 s13 s14 w) (hv:v=.pointer (some ⟨R,0,none⟩)):ObjCore R B (listed.setIfInBounds 1 true) s3 s4 v s6 s7 s8 s9 s10 s11 s12 s13 s14 w where
 size:=by simpa using h.size
 last a j hj:=by
  rw [aV _ _ _ (by rw [h.size]; omega)];by_cases e:j=1
  ·simp [e]
  ·rw [if_neg e]; exact h.last (ae (by rw [h.size]; omega) (by omega) a) j hj
 p0 a b:=h.p0 (af (by rw [h.size]; omega) (by omega) a) (ae (by rw [h.size]; omega) (by omega) b)
 p1 _ _:=hv
 p2 a b:=h.p2 (af (by rw [h.size]; omega) (by omega) a) (ae (by rw [h.size]; omega) (by omega) b)
 p3 a b:=h.p3 (af (by rw [h.size]; omega) (by omega) a) (ae (by rw [h.size]; omega) (by omega) b)
 p4 a b:=h.p4 (af (by rw [h.size]; omega) (by omega) a) (ae (by rw [h.size]; omega) (by omega) b)
 p5 a b:=h.p5 (af (by rw [h.size]; omega) (by omega) a) (ae (by rw [h.size]; omega) (by omega) b)
 p6 a b:=h.p6 (af (by rw [h.size]; omega) (by omega) a) (ae (by rw [h.size]; omega) (by omega) b)
 p7 a b:=h.p7 (af (by rw [h.size]; omega) (by omega) a) (ae (by rw [h.size]; omega) (by omega) b)
 p8 a b:=h.p8 (af (by rw [h.size]; omega) (by omega) a) (ae (by rw [h.size]; omega) (by omega) b)
 p9 a b:=h.p9 (af (by rw [h.size]; omega) (by omega) a) (ae (by rw [h.size]; omega) (by omega) b)
 p10 a b:=h.p10 (af (by rw [h.size]; omega) (by omega) a) (ae (by rw [h.size]; omega) (by omega) b)
 p11 a:=h.p11 (ae (by rw [h.size]; omega) (by omega) a)
theorem ObjCore.set2 {R B:Nat} {listed:Array Bool} {s3 s4 s5 s6 s7 s8 s9 s10 s11 s12 s13 s14 v:Value} {w:World} (h:ObjCore R B listed s3 s4 s5 s6 s7 s8 s9 s10 s11 s12 s13 s14 w) (hv:∃ x:Nat,v=.int .i64 (x:Int)∧x < 5):ObjCore R B (listed.setIfInBounds 2 true) s3 s4 s5 v s7 s8 s9 s10 s11 s12 s13 s14 w where
 size:=by simpa using h.size
 last a j hj:=by
  rw [aV _ _ _ (by rw [h.size]; omega)];by_cases e:j=2
  ·simp [e]
  ·rw [if_neg e]; exact h.last (ae (by rw [h.size]; omega) (by omega) a) j hj
 p0 a b:=h.p0 (af (by rw [h.size]; omega) (by omega) a) (ae (by rw [h.size]; omega) (by omega) b)
 p1 a b:=h.p1 (af (by rw [h.size]; omega) (by omega) a) (ae (by rw [h.size]; omega) (by omega) b)
 p2 _ _:=hv
 p3 a b:=h.p3 (af (by rw [h.size]; omega) (by omega) a) (ae (by rw [h.size]; omega) (by omega) b)
 p4 a b:=h.p4 (af (by rw [h.size]; omega) (by omega) a) (ae (by rw [h.size]; omega) (by omega) b)
 p5 a b:=h.p5 (af (by rw [h.size]; omega) (by omega) a) (ae (by rw [h.size]; omega) (by omega) b)
 p6 a b:=h.p6 (af (by rw [h.size]; omega) (by omega) a) (ae (by rw [h.size]; omega) (by omega) b)
 p7 a b:=h.p7 (af (by rw [h.size]; omega) (by omega) a) (ae (by rw [h.size]; omega) (by omega) b)
 p8 a b:=h.p8 (af (by rw [h.size]; omega) (by omega) a) (ae (by rw [h.size]; omega) (by omega) b)
 p9 a b:=h.p9 (af (by rw [h.size]; omega) (by omega) a) (ae (by rw [h.size]; omega) (by omega) b)
 p10 a b:=h.p10 (af (by rw [h.size]; omega) (by omega) a) (ae (by rw [h.size]; omega) (by omega) b)
 p11 a:=h.p11 (ae (by rw [h.size]; omega) (by omega) a)
theorem ObjCore.set3 {R B:Nat} {listed:Array Bool} {s3 s4 s5 s6 s7 s8 s9 s10 s11 s12 s13 s14 v:Value} {w:World} (h:ObjCore R B listed s3 s4 s5 s6 s7 s8 s9 s10 s11 s12 s13 s14 w) (hv:∃ g x,v=.pointer (some ⟨g,x,none⟩)∧x < 5∧Strs w R g 5):ObjCore R B (listed.setIfInBounds 3 true) s3 s4 s5 s6 v s8 s9 s10 s11 s12 s13 s14 w where
 size:=by simpa using h.size
 last a j hj:=by
  rw [aV _ _ _ (by rw [h.size]; omega)];by_cases e:j=3
  ·simp [e]
  ·rw [if_neg e]; exact h.last (ae (by rw [h.size]; omega) (by omega) a) j hj
 p0 a b:=h.p0 (af (by rw [h.size]; omega) (by omega) a) (ae (by rw [h.size]; omega) (by omega) b)
 p1 a b:=h.p1 (af (by rw [h.size]; omega) (by omega) a) (ae (by rw [h.size]; omega) (by omega) b)
 p2 a b:=h.p2 (af (by rw [h.size]; omega) (by omega) a) (ae (by rw [h.size]; omega) (by omega) b)
 p3 _ _:=hv
 p4 a b:=h.p4 (af (by rw [h.size]; omega) (by omega) a) (ae (by rw [h.size]; omega) (by omega) b)
 p5 a b:=h.p5 (af (by rw [h.size]; omega) (by omega) a) (ae (by rw [h.size]; omega) (by omega) b)
 p6 a b:=h.p6 (af (by rw [h.size]; omega) (by omega) a) (ae (by rw [h.size]; omega) (by omega) b)
 p7 a b:=h.p7 (af (by rw [h.size]; omega) (by omega) a) (ae (by rw [h.size]; omega) (by omega) b)
 p8 a b:=h.p8 (af (by rw [h.size]; omega) (by omega) a) (ae (by rw [h.size]; omega) (by omega) b)
 p9 a b:=h.p9 (af (by rw [h.size]; omega) (by omega) a) (ae (by rw [h.size]; omega) (by omega) b)
 p10 a b:=h.p10 (af (by rw [h.size]; omega) (by omega) a) (ae (by rw [h.size]; omega) (by omega) b)
 p11 a:=h.p11 (ae (by rw [h.size]; omega) (by omega) a)
theorem ObjCore.set4 {R B:Nat} {listed:Array Bool} {s3 s4 s5 s6 s7 s8 s9 s10 s11 s12 s13 s14 v:Value} {w:World} (h:ObjCore R B listed s3 s4 s5 s6 s7 s8 s9 s10 s11 s12 s13 s14 w) (hv:∃ s:ByteArray,v=.string s∧s.size≤20):ObjCore R B (listed.setIfInBounds 4 true) s3 s4 s5 s6 s7 v s9 s10 s11 s12 s13 s14 w where
 size:=by simpa using h.size
 last a j hj:=by
  rw [aV _ _ _ (by rw [h.size]; omega)];by_cases e:j=4
  ·simp [e]
  ·rw [if_neg e]; exact h.last (ae (by rw [h.size]; omega) (by omega) a) j hj
 p0 a b:=h.p0 (af (by rw [h.size]; omega) (by omega) a) (ae (by rw [h.size]; omega) (by omega) b)
 p1 a b:=h.p1 (af (by rw [h.size]; omega) (by omega) a) (ae (by rw [h.size]; omega) (by omega) b)
 p2 a b:=h.p2 (af (by rw [h.size]; omega) (by omega) a) (ae (by rw [h.size]; omega) (by omega) b)
 p3 a b:=h.p3 (af (by rw [h.size]; omega) (by omega) a) (ae (by rw [h.size]; omega) (by omega) b)
 p4 _ _:=hv
 p5 a b:=h.p5 (af (by rw [h.size]; omega) (by omega) a) (ae (by rw [h.size]; omega) (by omega) b)
 p6 a b:=h.p6 (af (by rw [h.size]; omega) (by omega) a) (ae (by rw [h.size]; omega) (by omega) b)
 p7 a b:=h.p7 (af (by rw [h.size]; omega) (by omega) a) (ae (by rw [h.size]; omega) (by omega) b)
 p8 a b:=h.p8 (af (by rw [h.size]; omega) (by omega) a) (ae (by rw [h.size]; omega) (by omega) b)
 p9 a b:=h.p9 (af (by rw [h.size]; omega) (by omega) a) (ae (by rw [h.size]; omega) (by omega) b)
 p10 a b:=h.p10 (af (by rw [h.size]; omega) (by omega) a) (ae (by rw [h.size]; omega) (by omega) b)
 p11 a:=h.p11 (ae (by rw [h.size]; omega) (by omega) a)
theorem ObjCore.set5 {R B:Nat} {listed:Array Bool} {s3 s4 s5 s6 s7 s8 s9 s10 s11 s12 s13 s14 v:Value} {w:World} (h:ObjCore R B listed s3 s4 s5 s6 s7 s8 s9 s10 s11 s12 s13 s14 w) (hv:∃ g,v=.slice (some ⟨g,0,none⟩) 3 3∧Strs w R g 3):ObjCore R B (listed.setIfInBounds 5 true) s3 s4 s5 s6 s7 s8 v s10 s11 s12 s13 s14 w where
 size:=by simpa using h.size
 last a j hj:=by
  rw [aV _ _ _ (by rw [h.size]; omega)];by_cases e:j=5
  ·simp [e]
  ·rw [if_neg e]; exact h.last (ae (by rw [h.size]; omega) (by omega) a) j hj
 p0 a b:=h.p0 (af (by rw [h.size]; omega) (by omega) a) (ae (by rw [h.size]; omega) (by omega) b)
 p1 a b:=h.p1 (af (by rw [h.size]; omega) (by omega) a) (ae (by rw [h.size]; omega) (by omega) b)
 p2 a b:=h.p2 (af (by rw [h.size]; omega) (by omega) a) (ae (by rw [h.size]; omega) (by omega) b)
 p3 a b:=h.p3 (af (by rw [h.size]; omega) (by omega) a) (ae (by rw [h.size]; omega) (by omega) b)
 p4 a b:=h.p4 (af (by rw [h.size]; omega) (by omega) a) (ae (by rw [h.size]; omega) (by omega) b)
 p5 _ _:=hv
 p6 a b:=h.p6 (af (by rw [h.size]; omega) (by omega) a) (ae (by rw [h.size]; omega) (by omega) b)
 p7 a b:=h.p7 (af (by rw [h.size]; omega) (by omega) a) (ae (by rw [h.size]; omega) (by omega) b)
 p8 a b:=h.p8 (af (by rw [h.size]; omega) (by omega) a) (ae (by rw [h.size]; omega) (by omega) b)
 p9 a b:=h.p9 (af (by rw [h.size]; omega) (by omega) a) (ae (by rw [h.size]; omega) (by omega) b)
 p10 a b:=h.p10 (af (by rw [h.size]; omega) (by omega) a) (ae (by rw [h.size]; omega) (by omega) b)
 p11 a:=h.p11 (ae (by rw [h.size]; omega) (by omega) a)
theorem ObjCore.set6 {R B:Nat} {listed:Array Bool} {s3 s4 s5 s6 s7 s8 s9 s10 s11 s12 s13 s14 v:Value} {w:World} (h:ObjCore R B listed s3 s4 s5 s6 s7 s8 s9 s10 s11 s12 s13 s14 w) (hv:v=.pointer (some ⟨R,0,none⟩)):ObjCore R B (listed.setIfInBounds 6 true) s3 s4 s5 s6 s7 s8 s9 v s11 s12 s13 s14 w where
 size:=by simpa using h.size
 last a j hj:=by
  rw [aV _ _ _ (by rw [h.size]; omega)];by_cases e:j=6
  ·simp [e]
  ·rw [if_neg e]; exact h.last (ae (by rw [h.size]; omega) (by omega) a) j hj
 p0 a b:=h.p0 (af (by rw [h.size]; omega) (by omega) a) (ae (by rw [h.size]; omega) (by omega) b)
 p1 a b:=h.p1 (af (by rw [h.size]; omega) (by omega) a) (ae (by rw [h.size]; omega) (by omega) b)
 p2 a b:=h.p2 (af (by rw [h.size]; omega) (by omega) a) (ae (by rw [h.size]; omega) (by omega) b)
 p3 a b:=h.p3 (af (by rw [h.size]; omega) (by omega) a) (ae (by rw [h.size]; omega) (by omega) b)
 p4 a b:=h.p4 (af (by rw [h.size]; omega) (by omega) a) (ae (by rw [h.size]; omega) (by omega) b)
 p5 a b:=h.p5 (af (by rw [h.size]; omega) (by omega) a) (ae (by rw [h.size]; omega) (by omega) b)
 p6 _ _:=hv
 p7 a b:=h.p7 (af (by rw [h.size]; omega) (by omega) a) (ae (by rw [h.size]; omega) (by omega) b)
 p8 a b:=h.p8 (af (by rw [h.size]; omega) (by omega) a) (ae (by rw [h.size]; omega) (by omega) b)
 p9 a b:=h.p9 (af (by rw [h.size]; omega) (by omega) a) (ae (by rw [h.size]; omega) (by omega) b)
 p10 a b:=h.p10 (af (by rw [h.size]; omega) (by omega) a) (ae (by rw [h.size]; omega) (by omega) b)
 p11 a:=h.p11 (ae (by rw [h.size]; omega) (by omega) a)
theorem ObjCore.set7 {R B:Nat} {listed:Array Bool} {s3 s4 s5 s6 s7 s8 s9 s10 s11 s12 s13 s14 v:Value} {w:World} (h:ObjCore R B listed s3 s4 s5 s6 s7 s8 s9 s10 s11 s12 s13 s14 w) (hv:∃ x:Nat,v=.int .i64 (x:Int)∧x < 3):ObjCore R B (listed.setIfInBounds 7 true) s3 s4 s5 s6 s7 s8 s9 s10 v s12 s13 s14 w where
 size:=by simpa using h.size
 last a j hj:=by
  rw [aV _ _ _ (by rw [h.size]; omega)];by_cases e:j=7
  ·simp [e]
  ·rw [if_neg e]; exact h.last (ae (by rw [h.size]; omega) (by omega) a) j hj
 p0 a b:=h.p0 (af (by rw [h.size]; omega) (by omega) a) (ae (by rw [h.size]; omega) (by omega) b)
 p1 a b:=h.p1 (af (by rw [h.size]; omega) (by omega) a) (ae (by rw [h.size]; omega) (by omega) b)
 p2 a b:=h.p2 (af (by rw [h.size]; omega) (by omega) a) (ae (by rw [h.size]; omega) (by omega) b)
 p3 a b:=h.p3 (af (by rw [h.size]; omega) (by omega) a) (ae (by rw [h.size]; omega) (by omega) b)
 p4 a b:=h.p4 (af (by rw [h.size]; omega) (by omega) a) (ae (by rw [h.size]; omega) (by omega) b)
 p5 a b:=h.p5 (af (by rw [h.size]; omega) (by omega) a) (ae (by rw [h.size]; omega) (by omega) b)
 p6 a b:=h.p6 (af (by rw [h.size]; omega) (by omega) a) (ae (by rw [h.size]; omega) (by omega) b)
 p7 _ _:=hv
 p8 a b:=h.p8 (af (by rw [h.size]; omega) (by omega) a) (ae (by rw [h.size]; omega) (by omega) b)
 p9 a b:=h.p9 (af (by rw [h.size]; omega) (by omega) a) (ae (by rw [h.size]; omega) (by omega) b)
 p10 a b:=h.p10 (af (by rw [h.size]; omega) (by omega) a) (ae (by rw [h.size]; omega) (by omega) b)
 p11 a:=h.p11 (ae (by rw [h.size]; omega) (by omega) a)
theorem ObjCore.set8 {R B:Nat} {listed:Array Bool} {s3 s4 s5 s6 s7 s8 s9 s10 s11 s12 s13 s14 v:Value} {w:World} (h:ObjCore R B listed s3 s4 s5 s6 s7 s8 s9 s10 s11 s12 s13 s14 w) (hv:∃ g x,v=.pointer (some ⟨g,x,none⟩)∧x < 3∧Strs w R g 3):ObjCore R B (listed.setIfInBounds 8 true) s3 s4 s5 s6 s7 s8 s9 s10 s11 v s13 s14 w where
 size:=by simpa using h.size
 last a j hj:=by
  rw [aV _ _ _ (by rw [h.size]; omega)];by_cases e:j=8
  ·simp [e]
  ·rw [if_neg e]; exact h.last (ae (by rw [h.size]; omega) (by omega) a) j hj
 p0 a b:=h.p0 (af (by rw [h.size]; omega) (by omega) a) (ae (by rw [h.size]; omega) (by omega) b)
 p1 a b:=h.p1 (af (by rw [h.size]; omega) (by omega) a) (ae (by rw [h.size]; omega) (by omega) b)
 p2 a b:=h.p2 (af (by rw [h.size]; omega) (by omega) a) (ae (by rw [h.size]; omega) (by omega) b)
 p3 a b:=h.p3 (af (by rw [h.size]; omega) (by omega) a) (ae (by rw [h.size]; omega) (by omega) b)
 p4 a b:=h.p4 (af (by rw [h.size]; omega) (by omega) a) (ae (by rw [h.size]; omega) (by omega) b)
 p5 a b:=h.p5 (af (by rw [h.size]; omega) (by omega) a) (ae (by rw [h.size]; omega) (by omega) b)
 p6 a b:=h.p6 (af (by rw [h.size]; omega) (by omega) a) (ae (by rw [h.size]; omega) (by omega) b)
 p7 a b:=h.p7 (af (by rw [h.size]; omega) (by omega) a) (ae (by rw [h.size]; omega) (by omega) b)
 p8 _ _:=hv
 p9 a b:=h.p9 (af (by rw [h.size]; omega) (by omega) a) (ae (by rw [h.size]; omega) (by omega) b)
 p10 a b:=h.p10 (af (by rw [h.size]; omega) (by omega) a) (ae (by rw [h.size]; omega) (by omega) b)
 p11 a:=h.p11 (ae (by rw [h.size]; omega) (by omega) a)
theorem ObjCore.set9 {R B:Nat} {listed:Array Bool} {s3 s4 s5 s6 s7 s8 s9 s10 s11 s12 s13 s14 v:Value} {w:World} (h:ObjCore R B listed s3 s4 s5 s6 s7 s8 s9 s10 s11 s12 s13 s14 w) (hv:∃ s:ByteArray,v=.string s∧s.size≤20):ObjCore R B (listed.setIfInBounds 9 true) s3 s4 s5 s6 s7 s8 s9 s10 s11 s12 v s14 w where
 size:=by simpa using h.size
 last a j hj:=by
  rw [aV _ _ _ (by rw [h.size]; omega)];by_cases e:j=9
  ·simp [e]
  ·rw [if_neg e]; exact h.last (ae (by rw [h.size]; omega) (by omega) a) j hj
 p0 a b:=h.p0 (af (by rw [h.size]; omega) (by omega) a) (ae (by rw [h.size]; omega) (by omega) b)
 p1 a b:=h.p1 (af (by rw [h.size]; omega) (by omega) a) (ae (by rw [h.size]; omega) (by omega) b)
 p2 a b:=h.p2 (af (by rw [h.size]; omega) (by omega) a) (ae (by rw [h.size]; omega) (by omega) b)
 p3 a b:=h.p3 (af (by rw [h.size]; omega) (by omega) a) (ae (by rw [h.size]; omega) (by omega) b)
 p4 a b:=h.p4 (af (by rw [h.size]; omega) (by omega) a) (ae (by rw [h.size]; omega) (by omega) b)
 p5 a b:=h.p5 (af (by rw [h.size]; omega) (by omega) a) (ae (by rw [h.size]; omega) (by omega) b)
 p6 a b:=h.p6 (af (by rw [h.size]; omega) (by omega) a) (ae (by rw [h.size]; omega) (by omega) b)
 p7 a b:=h.p7 (af (by rw [h.size]; omega) (by omega) a) (ae (by rw [h.size]; omega) (by omega) b)
 p8 a b:=h.p8 (af (by rw [h.size]; omega) (by omega) a) (ae (by rw [h.size]; omega) (by omega) b)
 p9 _ _:=hv
 p10 a b:=h.p10 (af (by rw [h.size]; omega) (by omega) a) (ae (by rw [h.size]; omega) (by omega) b)
 p11 a:=h.p11 (ae (by rw [h.size]; omega) (by omega) a)
theorem ObjCore.set10 {R B:Nat} {listed:Array Bool} {s3 s4 s5 s6 s7 s8 s9 s10 s11 s12 s13 s14 v:Value} {w:World} (h:ObjCore R B listed s3 s4 s5 s6 s7 s8 s9 s10 s11 s12 s13 s14 w) (hv:∃ a b:ByteArray,v=.agg #[.string a,.string b]∧a.size≤20∧b.size≤20):ObjCore R B (listed.setIfInBounds 10 true) s3 s4 s5 s6 s7 s8 s9 s10 s11 s12 s13 v w where
 size:=by simpa using h.size
 last a j hj:=by
  rw [aV _ _ _ (by rw [h.size]; omega)];by_cases e:j=10
  ·simp [e]
  ·rw [if_neg e]; exact h.last (ae (by rw [h.size]; omega) (by omega) a) j hj
 p0 a b:=h.p0 (af (by rw [h.size]; omega) (by omega) a) (ae (by rw [h.size]; omega) (by omega) b)
 p1 a b:=h.p1 (af (by rw [h.size]; omega) (by omega) a) (ae (by rw [h.size]; omega) (by omega) b)
 p2 a b:=h.p2 (af (by rw [h.size]; omega) (by omega) a) (ae (by rw [h.size]; omega) (by omega) b)
 p3 a b:=h.p3 (af (by rw [h.size]; omega) (by omega) a) (ae (by rw [h.size]; omega) (by omega) b)
 p4 a b:=h.p4 (af (by rw [h.size]; omega) (by omega) a) (ae (by rw [h.size]; omega) (by omega) b)
 p5 a b:=h.p5 (af (by rw [h.size]; omega) (by omega) a) (ae (by rw [h.size]; omega) (by omega) b)
 p6 a b:=h.p6 (af (by rw [h.size]; omega) (by omega) a) (ae (by rw [h.size]; omega) (by omega) b)
 p7 a b:=h.p7 (af (by rw [h.size]; omega) (by omega) a) (ae (by rw [h.size]; omega) (by omega) b)
 p8 a b:=h.p8 (af (by rw [h.size]; omega) (by omega) a) (ae (by rw [h.size]; omega) (by omega) b)
 p9 a b:=h.p9 (af (by rw [h.size]; omega) (by omega) a) (ae (by rw [h.size]; omega) (by omega) b)
 p10 _ _:=hv
 p11 a:=h.p11 (ae (by rw [h.size]; omega) (by omega) a)
theorem ObjCore.set11 {R B:Nat} {listed:Array Bool} {s3 s4 s5 s6 s7 s8 s9 s10 s11 s12 s13 s14 v:Value} {w:World} (h:ObjCore R B listed s3 s4 s5 s6 s7 s8 s9 s10 s11 s12 s13 s14 w) (hv:∃ g,v=.pointer (some ⟨g,0,none⟩)∧pO w R B g):ObjCore R B (listed.setIfInBounds 11 true) v s4 s5 s6 s7 s8 s9 s10 s11 s12 s13 s14 w where
 size:=by simpa using h.size
 last a j hj:=by
  rw [aV _ _ _ (by rw [h.size]; omega)];by_cases e:j=11
  ·simp [e]
  ·rw [if_neg e]; exact h.last (ae (by rw [h.size]; omega) (by omega) a) j hj
 p0 a b:=h.p0 (af (by rw [h.size]; omega) (by omega) a) (ae (by rw [h.size]; omega) (by omega) b)
 p1 a b:=h.p1 (af (by rw [h.size]; omega) (by omega) a) (ae (by rw [h.size]; omega) (by omega) b)
 p2 a b:=h.p2 (af (by rw [h.size]; omega) (by omega) a) (ae (by rw [h.size]; omega) (by omega) b)
 p3 a b:=h.p3 (af (by rw [h.size]; omega) (by omega) a) (ae (by rw [h.size]; omega) (by omega) b)
 p4 a b:=h.p4 (af (by rw [h.size]; omega) (by omega) a) (ae (by rw [h.size]; omega) (by omega) b)
 p5 a b:=h.p5 (af (by rw [h.size]; omega) (by omega) a) (ae (by rw [h.size]; omega) (by omega) b)
 p6 a b:=h.p6 (af (by rw [h.size]; omega) (by omega) a) (ae (by rw [h.size]; omega) (by omega) b)
 p7 a b:=h.p7 (af (by rw [h.size]; omega) (by omega) a) (ae (by rw [h.size]; omega) (by omega) b)
 p8 a b:=h.p8 (af (by rw [h.size]; omega) (by omega) a) (ae (by rw [h.size]; omega) (by omega) b)
 p9 a b:=h.p9 (af (by rw [h.size]; omega) (by omega) a) (ae (by rw [h.size]; omega) (by omega) b)
 p10 a b:=h.p10 (af (by rw [h.size]; omega) (by omega) a) (ae (by rw [h.size]; omega) (by omega) b)
 p11 _:=hv
theorem ObjCore.set12 {R B:Nat} {listed:Array Bool} {s3 s4 s5 s6 s7 s8 s9 s10 s11 s12 s13 s14:Value} {w w':World} (h:ObjCore R B listed s3 s4 s5 s6 s7 s8 s9 s10 s11 s12 s13 s14 w) (hall:∀ j,j < 12→listed.getD j false=true) (hv:∃ g,s3=.pointer (some ⟨g,0,none⟩)∧pO w' R B g):ObjCore R B (listed.setIfInBounds 12 true) s3 s4 s5 s6 s7 s8 s9 s10 s11 s12 s13 s14 w' where
 size:=by simpa using h.size
 last _ j hj:=by rw [aV _ _ _ (by rw [h.size]; omega),if_neg (by omega)]; exact hall j hj
 p0 a _:=by rw [aV listed 12 12 (by rw [h.size]; omega)] at a; simp at a
 p1 a _:=by rw [aV listed 12 12 (by rw [h.size]; omega)] at a; simp at a
 p2 a _:=by rw [aV listed 12 12 (by rw [h.size]; omega)] at a; simp at a
 p3 a _:=by rw [aV listed 12 12 (by rw [h.size]; omega)] at a; simp at a
 p4 a _:=by rw [aV listed 12 12 (by rw [h.size]; omega)] at a; simp at a
 p5 a _:=by rw [aV listed 12 12 (by rw [h.size]; omega)] at a; simp at a
 p6 a _:=by rw [aV listed 12 12 (by rw [h.size]; omega)] at a; simp at a
 p7 a _:=by rw [aV listed 12 12 (by rw [h.size]; omega)] at a; simp at a
 p8 a _:=by rw [aV listed 12 12 (by rw [h.size]; omega)] at a; simp at a
 p9 a _:=by rw [aV listed 12 12 (by rw [h.size]; omega)] at a; simp at a
 p10 a _:=by rw [aV listed 12 12 (by rw [h.size]; omega)] at a; simp at a
 p11 _:=hv
theorem xw (R:Nat) (ad:Option Addr) (len cap:Nat) (w:World) (h:Rd w R ad len cap) :
  Calls prog 103 #[.pointer (some ⟨R,0,none⟩)] w fun e w'=>(∃ a b:ByteArray,e=.returned (.agg #[.string a,.string b])∧a.size≤20∧b.size≤20)∧Rd w' R ad len cap∧Only R w w':=by
 have H:Hid (Rd w R ad len cap):=h;have hRw:=h.lt;have FAR:Hid (∀ g,w.heap.size≤g→0 < len→∀ b off,ad=some ⟨b,off,none⟩→b ≠ g):=fun g hg h0 b off e=>by
  obtain ⟨b',off',e',-,hb',-⟩:=h.bytes h0;rw [e] at e'; injection e' with e'; injection e' with e1 e2; omega
 clear h;go_enter func103,ntmps103;go_wp2_with fail;refine eZ (fun listed a w'=>∃ s3 s4 s5 s6 s7 s8 s9 s10 s11 s12 s13 s14,a={ tmps:=#[.pointer (some ⟨R,0,none⟩),undef,.pointer (some ⟨w.heap.size,0,none⟩),s3,s4,s5,s6,s7,s8,s9,s10,s11,s12,s13,s14,undef,undef,undef,undef,undef,undef,undef,undef,undef],defers:=[] }∧ObjCore R (w.heap.size + 1) listed s3 s4 s5 s6 s7 s8 s9 s10 s11 s12 s13 s14 w'∧Rd w' R ad len cap∧Only R (w.alloc (.cells #[.string ⟨#[]⟩,.string ⟨#[]⟩] 39)) w') (by kernel_rfl) ?start ?step ?fin;case start =>
  refine ⟨undef,undef,undef,undef,undef,undef,undef,undef,undef,undef,undef,undef,rfl,?_,?_,?_⟩
  ·constructor
   all_goals first | rfl | (intro a; simp at a; done) | (intro a b; simp at b; done)
  ·exact H.out.below (((Below.refl _ _).alloc (Nat.le_refl _) _).drew)
  ·exact (Only.refl _ _).drewN 1
 case fin =>
  rintro listed a w' ⟨s3,s4,s5,s6,s7,s8,s9,s10,s11,s12,s13,s14,rfl,hC,hR,hO⟩ hr;have h11:listed.getD 11 false=true:=by
   have hs:=hC.size;cases hl:listed.getD 11 true with
   | true=>rw [Array.getD_eq_getD_getElem?,Array.getElem?_eq_getElem (by omega)] at hl ⊢; simpa using hl
   | false =>
    exact (List.eq_nil_iff_forall_not_mem.1 hr 11 (mem_ready.2 ⟨hl,_,rfl,fun e he=>by simp at he⟩)).elim
  obtain ⟨g,e1,hg⟩:=hC.p11 h11;subst e1;have hOw:Only R w w':=(Only.of_below ((Below.refl _ _).alloc (Nat.le_refl _) _)).trans hO;have hnR:w.heap.size ≠ R:=by omega
  have hn0:w'.cell? ⟨w.heap.size,0,none⟩=some (.string ⟨#[]⟩):=by rw [hO.cell (by simp) hnR]; simp
  have hn1:w'.cell? ⟨w.heap.size,1,none⟩=some (.string ⟨#[]⟩):=by rw [hO.cell (by simp) hnR]; simp
  have hnf:∀ o,w'.frozen? ⟨w.heap.size,o,none⟩=false:=fun o=>by rw [hO.frozen (by simp) hnR]; simp
  have hsz:w.heap.size < w'.heap.size:=by have:=hO.size; simp at this; omega
  have HR:Hid (Rd w' R ad len cap):=hR;have HOw:Hid (Only R w w'):=hOw;have HG:Hid (pO w' R (w.heap.size + 1) g):=hg;clear hC hR hO hr h11 hOw hg;go_wp2_with fail;refine (dY R ad len cap 30 _ HR.out (by omega) (by omega)).mono ?_;rintro e w1 ⟨⟨x,rfl⟩,hR1,hO1⟩;have HR1:Hid (Rd w1 R ad len cap):=hR1;have HO1:Hid (Only R w w1):=HOw.out.trans hO1;have HG1:Hid (pO w1 R (w.heap.size + 1) g):=HG.out.only hO1;have m0:w1.cell? ⟨w.heap.size,0,none⟩=some (.string ⟨#[]⟩):=by rw [hO1.cell hsz hnR]; exact hn0
  have m1:w1.cell? ⟨w.heap.size,1,none⟩=some (.string ⟨#[]⟩):=by rw [hO1.cell hsz hnR]; exact hn1
  have mf:∀ o,w1.frozen? ⟨w.heap.size,o,none⟩=false:=fun o=>by rw [hO1.frozen hsz hnR]; exact hnf o
  have hs1:w.heap.size < w1.heap.size:=Nat.lt_of_lt_of_le hsz hO1.size;have hR1l:R < w1.heap.size:=hR1.lt;clear hn0 hn1 hnf hR1 hO1 HR HOw HG;obtain ⟨hgR,hgB,hgl,hgf,ta,tb,hta,htb,ca,cb⟩:=HG1.out;have hgn:g ≠ w.heap.size:=by omega
  cases x with
  | false =>
   go_wp2;exact bodyPost_ret (v:=.agg #[.string ta,.string tb]) (by simp [results,Tryz.results103,go_sem, *]) rfl ⟨⟨ta,tb,rfl,hta,htb⟩,(HR1.out.setFar hnR (FAR.out _ (Nat.le_refl _))).setFar hnR (FAR.out _ (Nat.le_refl _)),(HO1.out.setNew (Nat.le_refl _)).setNew (Nat.le_refl _)⟩
  | true =>
   go_wp2_with fail;refine (bD R ad len cap 4 _ (HR1.out.below ((Below.refl _ _).alloc (Nat.le_refl _) _)) (by omega) (by omega)).mono ?_;rintro e w2 ⟨⟨x,rfl,hx0,hx1⟩,hR2,hO2⟩;have hO12:Only R w1 w2:=(Only.of_below ((Below.refl _ _).alloc (Nat.le_refl _) _)).trans hO2;have hSt:=(gm w1 R hR1l (t:=9) (xs:=[⟨#[]⟩,⟨#[65]⟩,⟨#[97,95,49]⟩,⟨#[97,98,99,100,101,102,103,104,105,106,107,108,109]⟩]) (by decide)).only hO2;obtain ⟨y,rfl⟩:∃ y:Nat,x=(y:Int):=⟨x.toNat,by omega⟩;obtain ⟨t,ht,hct⟩:=hSt.2.2 y (by simp; omega);have k0:w2.cell? ⟨w.heap.size,0,none⟩=some (.string ⟨#[]⟩):=by rw [hO12.cell hs1 hnR]; exact m0
   have k1:w2.cell? ⟨w.heap.size,1,none⟩=some (.string ⟨#[]⟩):=by rw [hO12.cell hs1 hnR]; exact m1
   have kf:∀ o,w2.frozen? ⟨w.heap.size,o,none⟩=false:=fun o=>by rw [hO12.frozen hs1 hnR]; exact mf o
   have ka:w2.cell? ⟨g,0,none⟩=some (.string ta):=by rw [hO12.cell hgl hgR]; exact ca
   have kb:w2.cell? ⟨g,1,none⟩=some (.string tb):=by rw [hO12.cell hgl hgR]; exact cb
   have kg:∀ o,w2.frozen? ⟨g,o,none⟩=false:=fun o=>by rw [hO12.frozen hgl hgR]; exact hgf o
   have HR2:Hid (Rd w2 R ad len cap):=hR2;have HO2:Hid (Only R w w2):=HO1.out.trans hO12;clear hR2 hO2 hO12 hSt m0 m1 mf ca cb hgf HR1 HO1 HG1;go_wp2;exact bodyPost_ret (v:=.agg #[.string ta,.string t]) (by simp [results,Tryz.results103,go_sem, *]) rfl ⟨⟨ta,t,rfl,hta,ht⟩,((HR2.out.setFar hgR (FAR.out _ (by omega))).setFar hnR (FAR.out _ (Nat.le_refl _))).setFar hnR (FAR.out _ (Nat.le_refl _)),((HO2.out.setNew (by omega)).setNew (Nat.le_refl _)).setNew (Nat.le_refl _)⟩
 case step =>
  rintro listed a w' ⟨s3,s4,s5,s6,s7,s8,s9,s10,s11,s12,s13,s14,rfl,hC,hR,hO⟩ i hi;have HC:Hid (ObjCore R (w.heap.size + 1) listed s3 s4 s5 s6 s7 s8 s9 s10 s11 s12 s13 s14 w'):=hC;have HR:Hid (Rd w' R ad len cap):=hR;have HO:Hid (Only R (w.alloc (.cells #[.string ⟨#[]⟩,.string ⟨#[]⟩] 39)) w'):=hO;have hsz:w.heap.size + 1≤w'.heap.size:=by have:=hO.size; simpa using this
  have hRl:R < w'.heap.size:=hR.lt;clear hC hR hO;obtain ⟨hl,o,ho,hpre⟩:=mem_ready.1 hi;have hi13:i < 13:=(Array.getElem?_eq_some_iff.1 ho).1;have h12:i ≠ 12→listed.getD 12 false=false:=fun hne=>by
   cases e:listed.getD 12 false with
   | false=>rfl
   | true =>
    have h1:=HC.out.last e i (by omega);have hs:=HC.out.size;rw [Array.getD_eq_getD_getElem?,Array.getElem?_eq_getElem (by omega)] at h1 hl;simp at h1 hl;rw [h1] at hl; cases hl
  have HP:Hid (∀ e ∈ o.after,Region.binds .any e=true→listed.getD e.on false=true):=hpre;have HL:Hid (listed.getD i true=false):=hl;clear hi hpre hl;have hc13:i=0 ∨ i=1 ∨ i=2 ∨ i=3 ∨ i=4 ∨ i=5 ∨ i=6 ∨ i=7 ∨ i=8 ∨ i=9 ∨ i=10 ∨ i=11 ∨ i=12:=by omega
  clear hi13;have kal:∀ ob:Obj,Only R w' (w'.alloc ob):=fun ob=>Only.of_below ((Below.refl _ _).alloc (Nat.le_refl _) _);have kbl:∀ ob:Obj,Below w'.heap.size w' (w'.alloc ob):=fun ob=>(Below.refl _ _).alloc (Nat.le_refl _) _;have KAL:Hid (∀ ob:Obj,Only R w' (w'.alloc ob)):=kal;have KBL:Hid (∀ ob:Obj,Below w'.heap.size w' (w'.alloc ob)):=kbl;clear kal kbl;rcases hc13 with rfl | rfl | rfl | rfl | rfl | rfl | rfl | rfl | rfl | rfl | rfl | rfl | rfl
  ·have h12':=h12 (by omega);obtain rfl:=Option.some.inj ho;clear h12 ho HL;refine wpOp_step rfl (fun K hK=>?_);have HK:Hid (∀ a w,_→K a w):=hK;clear hK;go_simp;exact HK.out _ _ ⟨_,_,_,_,_,_,_,_,_,_,_,_,rfl,(HC.out.only (KAL.out _)).set0 ⟨_,rfl,gm w' R hRl (xs:=[_,_,_,_,_]) (by decide)⟩,HR.out.below (KBL.out _),HO.out.below (KBL.out _)⟩
  ·have h12':=h12 (by omega);obtain rfl:=Option.some.inj ho;clear h12 ho HL;refine wpOp_step rfl (fun K hK=>?_);have HK:Hid (∀ a w,_→K a w):=hK;clear hK;go_simp;exact HK.out _ _ ⟨_,_,_,_,_,_,_,_,_,_,_,_,rfl,HC.out.set1 rfl,HR.out,HO.out⟩
  ·have h12':=h12 (by omega);obtain rfl:=Option.some.inj ho;have e1:=HC.out.p1 h12' (HP.out ⟨1,.data⟩ (by simp) rfl);subst e1;clear h12 ho HL;refine wpOp_step rfl (fun K hK=>?_);have HK:Hid (∀ a w,_→K a w):=hK;clear hK;go_simp;refine (bD R ad len cap 5 _ HR.out (by omega) (by omega)).mono ?_;rintro e w1 ⟨⟨x,rfl,hx0,hx1⟩,hR1,hO1⟩;have HR1:Hid (Rd w1 R ad len cap):=hR1;have HO1:Hid (Only R w' w1):=hO1;clear hR1 hO1;go_wp2_with fail;exact HK.out _ _ ⟨_,_,_,_,_,_,_,_,_,_,_,_,rfl,(HC.out.only HO1.out).set2 ⟨x.toNat,by rw [Int.toNat_of_nonneg hx0],by omega⟩,HR1.out,HO.out.trans HO1.out⟩
  ·have h12':=h12 (by omega);obtain rfl:=Option.some.inj ho;obtain ⟨g,e1,hS⟩:=HC.out.p0 h12' (HP.out ⟨0,.data⟩ (by simp) rfl);subst e1;obtain ⟨x,e2,hx⟩:=HC.out.p2 h12' (HP.out ⟨2,.data⟩ (by simp) rfl);subst e2;have HS:Hid (Strs w' R g 5):=hS;clear hS;have hx0:=bR x;have hx1:(x:Int) < 5:=by omega
   clear h12 ho HL;refine wpOp_step rfl (fun K hK=>?_);have HK:Hid (∀ a w,_→K a w):=hK;clear hK;go_simp;exact HK.out _ _ ⟨_,_,_,_,_,_,_,_,_,_,_,_,rfl,HC.out.set3 ⟨g,x,rfl,hx,HS.out⟩,HR.out,HO.out⟩
  ·have h12':=h12 (by omega);obtain rfl:=Option.some.inj ho;obtain ⟨g,x,e1,hx,hS⟩:=HC.out.p3 h12' (HP.out ⟨3,.data⟩ (by simp) rfl);subst e1;obtain ⟨t,ht,hcell⟩:=hS.2.2 x hx;clear hS;clear h12 ho HL;refine wpOp_step rfl (fun K hK=>?_);have HK:Hid (∀ a w,_→K a w):=hK;clear hK;go_simp;exact HK.out _ _ ⟨_,_,_,_,_,_,_,_,_,_,_,_,rfl,HC.out.set4 ⟨t,rfl,ht⟩,HR.out,HO.out⟩
  ·have h12':=h12 (by omega);obtain rfl:=Option.some.inj ho;clear h12 ho HL;refine wpOp_step rfl (fun K hK=>?_);have HK:Hid (∀ a w,_→K a w):=hK;clear hK;go_simp;exact HK.out _ _ ⟨_,_,_,_,_,_,_,_,_,_,_,_,rfl,(HC.out.only (KAL.out _)).set5 ⟨_,rfl,gm w' R hRl (xs:=[_,_,_]) (by decide)⟩,HR.out.below (KBL.out _),HO.out.below (KBL.out _)⟩
  ·have h12':=h12 (by omega);obtain rfl:=Option.some.inj ho;clear h12 ho HL;refine wpOp_step rfl (fun K hK=>?_);have HK:Hid (∀ a w,_→K a w):=hK;clear hK;go_simp;exact HK.out _ _ ⟨_,_,_,_,_,_,_,_,_,_,_,_,rfl,HC.out.set6 rfl,HR.out,HO.out⟩
  ·have h12':=h12 (by omega);obtain rfl:=Option.some.inj ho;have e1:=HC.out.p6 h12' (HP.out ⟨6,.data⟩ (by simp) rfl);subst e1;clear h12 ho HL;refine wpOp_step rfl (fun K hK=>?_);have HK:Hid (∀ a w,_→K a w):=hK;clear hK;go_simp;refine (bD R ad len cap 3 _ HR.out (by omega) (by omega)).mono ?_;rintro e w1 ⟨⟨x,rfl,hx0,hx1⟩,hR1,hO1⟩;have HR1:Hid (Rd w1 R ad len cap):=hR1;have HO1:Hid (Only R w' w1):=hO1;clear hR1 hO1;go_wp2_with fail;exact HK.out _ _ ⟨_,_,_,_,_,_,_,_,_,_,_,_,rfl,(HC.out.only HO1.out).set7 ⟨x.toNat,by rw [Int.toNat_of_nonneg hx0],by omega⟩,HR1.out,HO.out.trans HO1.out⟩
  ·have h12':=h12 (by omega);obtain rfl:=Option.some.inj ho;obtain ⟨g,e1,hS⟩:=HC.out.p5 h12' (HP.out ⟨5,.data⟩ (by simp) rfl);subst e1;obtain ⟨x,e2,hx⟩:=HC.out.p7 h12' (HP.out ⟨7,.data⟩ (by simp) rfl);subst e2;have HS:Hid (Strs w' R g 3):=hS;clear hS;have hx0:=bR x;have hx1:(x:Int) < 3:=by omega
   clear h12 ho HL;refine wpOp_step rfl (fun K hK=>?_);have HK:Hid (∀ a w,_→K a w):=hK;clear hK;go_simp;exact HK.out _ _ ⟨_,_,_,_,_,_,_,_,_,_,_,_,rfl,HC.out.set8 ⟨g,x,rfl,hx,HS.out⟩,HR.out,HO.out⟩
  ·have h12':=h12 (by omega);obtain rfl:=Option.some.inj ho;obtain ⟨g,x,e1,hx,hS⟩:=HC.out.p8 h12' (HP.out ⟨8,.data⟩ (by simp) rfl);subst e1;obtain ⟨t,ht,hcell⟩:=hS.2.2 x hx;clear hS;clear h12 ho HL;refine wpOp_step rfl (fun K hK=>?_);have HK:Hid (∀ a w,_→K a w):=hK;clear hK;go_simp;exact HK.out _ _ ⟨_,_,_,_,_,_,_,_,_,_,_,_,rfl,HC.out.set9 ⟨t,rfl,ht⟩,HR.out,HO.out⟩
  ·have h12':=h12 (by omega);obtain rfl:=Option.some.inj ho;obtain ⟨t,e1,ht⟩:=HC.out.p4 h12' (HP.out ⟨4,.data⟩ (by simp) rfl);subst e1;obtain ⟨u,e2,hu⟩:=HC.out.p9 h12' (HP.out ⟨9,.data⟩ (by simp) rfl);subst e2;clear h12 ho HL;refine wpOp_step rfl (fun K hK=>?_);have HK:Hid (∀ a w,_→K a w):=hK;clear hK;go_simp;exact HK.out _ _ ⟨_,_,_,_,_,_,_,_,_,_,_,_,rfl,HC.out.set10 ⟨t,u,rfl,ht,hu⟩,HR.out,HO.out⟩
  ·have h12':=h12 (by omega);obtain rfl:=Option.some.inj ho;clear h12 ho HL;refine wpOp_step rfl (fun K hK=>?_);have HK:Hid (∀ a w,_→K a w):=hK;clear hK;go_simp;exact HK.out _ _ ⟨_,_,_,_,_,_,_,_,_,_,_,_,rfl,(HC.out.only (KAL.out _)).set11 ⟨_,rfl,Fz hRl hsz⟩,HR.out.below (KBL.out _),HO.out.below (KBL.out _)⟩
  ·have hl12:listed.getD 12 false=false:=by
    have h1:=HL.out;have hs:=HC.out.size;rw [Array.getD_eq_getD_getElem?,Array.getElem?_eq_getElem (by omega)] at h1 ⊢;simpa using h1
   obtain rfl:=Option.some.inj ho;have hall:∀ j,j < 12→listed.getD j false=true:=fun j hj=>by
    have hj12:j=0 ∨ j=1 ∨ j=2 ∨ j=3 ∨ j=4 ∨ j=5 ∨ j=6 ∨ j=7 ∨ j=8 ∨ j=9 ∨ j=10 ∨ j=11:=by omega
    rcases hj12 with rfl | rfl | rfl | rfl | rfl | rfl | rfl | rfl | rfl | rfl | rfl | rfl
    all_goals first | exact HP.out { on:=_,ground:=.phase } (by simp) rfl | exact HP.out { on:=_,ground:=.data } (by simp) rfl
   obtain ⟨g,e1,hg⟩:=HC.out.p11 (hall 11 (by omega));subst e1;obtain ⟨t,u,e2,ht,hu⟩:=HC.out.p10 hl12 (hall 10 (by omega));subst e2;obtain ⟨hgR,hgB,hgl,hgf,ta,tb,_,_,ca,cb⟩:=hg;have HA:Hid (∀ j,j < 12→listed.getD j false=true):=hall;clear h12 ho HL hl12 hall;refine wpOp_step rfl (fun K hK=>?_);have HK:Hid (∀ a w,_→K a w):=hK;clear hK;go_simp;refine HK.out _ _ ⟨_,_,_,_,_,_,_,_,_,_,_,_,rfl,HC.out.set12 HA.out ⟨g,rfl,?_⟩,?_,?_⟩
   ·exact FB hgR hgB hgl hgf ca cb ht hu
   ·exact (HR.out.setFar hgR (fun h0 b off e=>by obtain ⟨b',off',e',-,hb',-⟩:=H.out.bytes h0; rw [e] at e'; injection e' with e'; injection e' with e1 e2; omega)).setFar hgR (fun h0 b off e=>by obtain ⟨b',off',e',-,hb',-⟩:=H.out.bytes h0; rw [e] at e'; injection e' with e'; injection e' with e1 e2; omega)
   ·exact (HO.out.setNew (by simpa using hgB)).setNew (by simpa using hgB)
end Go.Proofs.YteoflgocljfgeaaGreatDoor
