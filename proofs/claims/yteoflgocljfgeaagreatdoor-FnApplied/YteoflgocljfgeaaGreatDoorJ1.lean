/- Plain functions on bytes that the contracts of this seat's texts are stated by: which names and ids are right. Nothing of the program is read here. -/
import Derived.Test.YteoflgocljfgeaaGreatDoorSq
import Derived.WalkKit
import Derived.Test.YteoflgocljfgeaaGreatDoorRows
import Derived.WalkLawsBesides
import Derived.ProofKit
import Derived.Deep.QuietTactic
import Derived.BigQuiet
import Derived.WalkSmall
import Derived.WalkSpells
import Derived.Deep.RegionWith
open Go.Proofs.Tryz
set_option maxHeartbeats 80000000
namespace Go.Proofs.YteoflgocljfgeaaGreatDoor.Pl
def dK (c:UInt8):Bool:=decide (97≤c.toNat) && decide (c.toNat≤122)
def uW (c:UInt8):Bool:=dK c || (decide (48≤c.toNat) && decide (c.toNat≤57)) || decide (c.toNat=95)
def kY (s:ByteArray):Bool:=decide (1≤s.size) && decide (s.size≤12)
def pJ (p:UInt8→Bool) (s:ByteArray):Bool:=s.data.toList.all p
def dh (p:UInt8→Bool) (s:ByteArray):Bool:=kY s && pJ p s
def uX (s:ByteArray):Bool:=!(s.toList == [116,104,105,115])
def aU (s:ByteArray):Bool:=dh dK s && uX s
def mW (s:ByteArray):Bool:=dh uW s
theorem ag {a b:Bool} (h:a=b):Ending.returned (.bool a)=.returned (.bool b):=by rw [h]
theorem yK (s:ByteArray) (k:Nat) (h:k < s.size):s.data.toList.take (k + 1)=s.data.toList.take k ++ [s[k]]:=by
 rw [List.take_succ_eq_append_getElem (by simpa using h)]; rfl
def C9 (p:UInt8→Bool) (s:ByteArray) (k:Nat):Bool:=(s.data.toList.take k).all p
theorem qK (p:UInt8→Bool) (s:ByteArray):C9 p s 0=true:=by simp [C9]
theorem qL (p:UInt8→Bool) (s:ByteArray) (k:Nat) (h:k < s.size):C9 p s (k + 1)=(C9 p s k && p s[k]):=by
 unfold C9; rw [yK s k h]; simp
theorem uY (p:UInt8→Bool) (s:ByteArray) (k:Nat) (h:s.size≤k):C9 p s k=pJ p s:=by
 unfold C9 pJ; rw [List.take_of_length_le (by simpa using h)]
theorem uZ (p:UInt8→Bool) (s:ByteArray) (k:Nat) (h:k < s.size) (hb:p s[k]=false):pJ p s=false:=by
 unfold pJ;rw [List.all_eq_false];exact ⟨s[k],by simp [ByteArray.getElem_eq_getElem_data],by simp [hb]⟩
def fF (t i:ByteArray):Bool:=aU t && mW i
end Go.Proofs.YteoflgocljfgeaaGreatDoor.Pl
namespace Go.Proofs.YteoflgocljfgeaaGreatDoor
open Go.ChangeShapes Go.WideShapes Go.ChangeAt Go.RowKit
open Pl
theorem jK (c:UInt8) (w:World) :
  Calls prog 142 #[.int .u8 c.toNat] w fun e w'=>e=.returned (.bool (dK c))∧w'=w:=by
 go_enter func142,ntmps142;go_wp2
 all_goals go_ret
 all_goals refine ⟨ag ?_,rfl⟩
 all_goals (rw [Bool.eq_iff_iff]; simp [dK]; omega)
theorem aD (s:ByteArray) (w:World) (hs:s.size≤maxLen) :
  Calls prog 78 #[.string s] w fun e w'=>e=.returned (.bool (aU s))∧w'=w:=by
 unfold maxLen at hs;by_cases h1:1≤s.size∧s.size≤12
 ·obtain ⟨ha,hb⟩:=h1;go_enter func78,ntmps78;go_wp2
  go_loop [3] (fun i=>∃ k:Nat,k≤s.size∧i=.int .i64 k∧Hid (C9 dK s k=true)) (fun i=>s.size - (intOf i).toNat)
  case atStart=>exact ⟨0,Nat.zero_le _,rfl,qK _ _⟩
  case round =>
   obtain ⟨k,hk,rfl,hu⟩:=hrel;by_cases hlt:k < s.size
   ·by_cases hc:dK s[k]=true
    ·have hc1:97≤s[k].toNat:=by simp [dK] at hc; omega
     have hc2:s[k].toNat≤122:=by simp [dK] at hc; omega
     have HU:Hid (C9 dK s (k + 1)=true):=by show _=_; rw [qL _ _ _ hlt,hc,hu.out]; rfl
     clear hc;go_wp2;go_round;case rel=>exact ⟨k + 1,by omega,by go_num,HU⟩
     case measure=>simp [intOf]; omega
    ·have hc':dK s[k]=false:=by simpa using hc
     have HB:Hid (pJ dK s=false):=uZ _ _ _ hlt hc';have hd:s[k].toNat < 97 ∨ 122 < s[k].toNat:=by simp [dK] at hc'; omega
     clear hc hc';rcases hd with hd | hd
     all_goals
      go_wp2;go_ret;exact ⟨ag (by simp [aU,dh,HB.out]),rfl⟩
   ·go_wp2;go_ret;refine ⟨ag ?_,rfl⟩;have hall:pJ dK s=true:=by rw [← uY dK s k (by omega)]; exact hu.out
    have hl:kY s=true:=by simp [kY]; omega
    simp [aU,dh,uX,hall,hl]
 ·have hn:kY s=false:=by simp [kY]; omega
  have HN:Hid (aU s=false):=by show _=_; simp [aU,dh,hn]
  clear hn;by_cases ha:1≤s.size
  ·have hb:12 < s.size:=by omega
   clear h1;go_enter func78,ntmps78;go_wp2;go_ret;exact ⟨ag HN.out.symm,rfl⟩
  ·have ha':s.size < 1:=by omega
   clear h1;go_enter func78,ntmps78;go_wp2;go_ret;exact ⟨ag HN.out.symm,rfl⟩
theorem vE (s:ByteArray) (w:World) (hs:s.size≤maxLen) :
  Calls prog 141 #[.string s,.func (Fn.func 142) #[] #[]] w fun e w'=>e=.returned (.bool (dh dK s))∧w'=w:=by
 unfold maxLen at hs;by_cases h1:1≤s.size∧s.size≤12
 ·obtain ⟨ha,hb⟩:=h1;go_enter func141,ntmps141;go_wp2
  go_loop [16] (fun i=>∃ k:Nat,k≤s.size∧i=.int .i64 k∧Hid (C9 dK s k=true)) (fun i=>s.size - (intOf i).toNat)
  case atStart=>exact ⟨0,Nat.zero_le _,rfl,qK _ _⟩
  case round =>
   obtain ⟨k,hk,rfl,hu⟩:=hrel;by_cases hlt:k < s.size
   ·by_cases hc:dK s[k]=true
    ·have HU:Hid (C9 dK s (k + 1)=true):=by show _=_; rw [qL _ _ _ hlt,hc,hu.out]; rfl
     go_wp2_with (go_at_call 142; refine (jK _ _).mono ?_; rintro e w' ⟨rfl,rfl⟩);go_round;case rel=>exact ⟨k + 1,by omega,by go_num,HU⟩
     case measure=>simp [intOf]; omega
    ·have hc':dK s[k]=false:=by simpa using hc
     have HB:Hid (pJ dK s=false):=uZ _ _ _ hlt hc';clear hc;go_wp2_with (go_at_call 142; refine (jK _ _).mono ?_; rintro e w' ⟨rfl,rfl⟩);go_ret;exact ⟨ag (by simp [dh,HB.out]),rfl⟩
   ·go_wp2;go_ret;refine ⟨ag ?_,rfl⟩;have hall:pJ dK s=true:=by rw [← uY dK s k (by omega)]; exact hu.out
    have hl:kY s=true:=by simp [kY]; omega
    simp [dh,hall,hl]
 ·have hn:kY s=false:=by simp [kY]; omega
  have HN:Hid (dh dK s=false):=by show _=_; simp [dh,hn]
  clear hn;by_cases ha:1≤s.size
  ·have hb:12 < s.size:=by omega
   clear h1;go_enter func141,ntmps141;go_wp2;go_ret;exact ⟨ag HN.out.symm,rfl⟩
  ·have ha':s.size < 1:=by omega
   clear h1;go_enter func141,ntmps141;go_wp2;go_ret;exact ⟨ag HN.out.symm,rfl⟩
theorem aF (s:ByteArray) (w:World) (hs:s.size≤maxLen) :
  Calls prog 109 #[.string s] w fun e w'=>e=.returned (.bool (aU s))∧w'=w:=by
 by_cases h:s.toList=[116,104,105,115]
 ·have hb:(s.toList == [116,104,105,115])=true:=by simp [h]
  have HN:Hid (aU s=false):=by show _=_; simp [aU,uX,h]
  clear h;go_enter func109,ntmps109;go_wp2;go_ret;exact ⟨ag HN.out.symm,rfl⟩
 ·have hb:(s.toList == [116,104,105,115])=false:=by simp [h]
  have HN:Hid (aU s=dh dK s):=by show _=_; simp [aU,uX,h]
  clear h;go_enter func109,ntmps109;go_wp2_with (go_at_call 141; refine (vE _ _ hs).mono ?_; rintro e w' ⟨rfl,rfl⟩);go_ret;exact ⟨ag HN.out.symm,rfl⟩
structure Rd (w:World) (R:Nat) (ad:Option Addr) (len cap:Nat):Prop where
 lt:R < w.heap.size
 code:w.cell? ⟨R,0,none⟩=some (.slice ad len cap)
 place:∃ p:Nat,w.cell? ⟨R,1,none⟩=some (.int .i64 p)∧p≤len
 free:w.frozen? ⟨R,1,none⟩=false
 bytes:0 < len→∃ b off,ad=some ⟨b,off,none⟩∧b ≠ R∧b < w.heap.size∧∀ i,i < len→∃ c:Int,0≤c∧c≤255∧w.cell? ⟨b,off + i,none⟩=some (.int .u8 c)
 small:len≤maxLen
theorem Rd.below {w w':World} {R:Nat} {ad:Option Addr} {len cap:Nat} (h:Rd w R ad len cap) (hb:Below w.heap.size w w'):Rd w' R ad len cap where
 lt:=Nat.lt_of_lt_of_le h.lt hb.size
 code:=by rw [hb.cell (p:=⟨R,0,none⟩) h.lt]; exact h.code
 place:=by obtain ⟨p,hp,hl⟩:=h.place; exact ⟨p,by rw [hb.cell (p:=⟨R,1,none⟩) h.lt]; exact hp,hl⟩
 free:=by rw [hb.frozen (p:=⟨R,1,none⟩) h.lt]; exact h.free
 bytes h0:=by
  obtain ⟨b,off,e,hne,hbl,hc⟩:=h.bytes h0;refine ⟨b,off,e,hne,Nat.lt_of_lt_of_le hbl hb.size,fun i hi=>?_⟩;obtain ⟨c,c0,c1,hcc⟩:=hc i hi;exact ⟨c,c0,c1,by rw [hb.cell (p:=⟨b,off + i,none⟩) hbl]; exact hcc⟩
 small:=h.small
theorem Rd.step {w:World} {R p:Nat} {ad:Option Addr} {len cap:Nat} (h:Rd w R ad len cap) (hp:p + 1≤len):Rd (w.setCell ⟨R,1,none⟩ (.int .i64 ((p:Int) + 1))) R ad len cap where
 lt:=by simpa using h.lt
 code:=by
  rw [show (w.setCell ⟨R,1,none⟩ (.int .i64 ((p:Int) + 1))).cell? ⟨R,0,none⟩=w.cell? ⟨R,0,none⟩ from by apply World.cell?_setCell_other; intro e; cases e];exact h.code
 place:=by
  obtain ⟨q,hq,-⟩:=h.place;exact ⟨p + 1,by rw [show (w.setCell ⟨R,1,none⟩ (.int .i64 ((p:Int) + 1))).cell? ⟨R,1,none⟩=some (.int .i64 ((p:Int) + 1)) from by apply World.cell?_setCell_same; exact hq]; simp,hp⟩
 free:=by simpa using h.free
 bytes h0:=by
  obtain ⟨b,off,e,hne,hbl,hc⟩:=h.bytes h0;refine ⟨b,off,e,hne,by simpa using hbl,fun i hi=>?_⟩;obtain ⟨c,c0,c1,hcc⟩:=hc i hi;refine ⟨c,c0,c1,?_⟩;rw [show (w.setCell ⟨R,1,none⟩ (.int .i64 ((p:Int) + 1))).cell? ⟨b,off + i,none⟩=w.cell? ⟨b,off + i,none⟩ from by apply World.cell?_setCell_other; intro e; exact hne (congrArg Addr.block e).symm];exact hcc
 small:=h.small
def Only (R:Nat) (w w':World):Prop:=w.grownBy w' (some R)
theorem Only.refl (R:Nat) (w:World):Only R w w:=⟨rfl,rfl,rfl,Nat.le_refl _,fun _ _ _=>rfl⟩
theorem Only.trans {R:Nat} {a b c:World} (h:Only R a b) (k:Only R b c):Only R a c :=
 ⟨k.os.trans h.os,k.tape.trans h.tape,k.output.trans h.output,Nat.le_trans h.size k.size,fun i hi hr=>(k.block i (Nat.lt_of_lt_of_le hi h.size) hr).trans (h.block i hi hr)⟩
theorem Only.drewN {R:Nat} {a b:World} (h:Only R a b) (n:Nat):Only R a (b.drewN n):=⟨h.os,h.tape,h.output,h.size,h.block⟩
theorem Only.set {R:Nat} {a b:World} (h:Only R a b) (o:Nat) (v:Value):Only R a (b.setCell ⟨R,o,none⟩ v) :=
 ⟨h.os,h.tape,h.output,by simpa using h.size,fun i hi hr=>(Below.heap_setCell b ⟨R,o,none⟩ v i (fun e=>hr (by rw [e]))).trans (h.block i hi hr)⟩
theorem Only.below {R:Nat} {a b c:World} (h:Only R a b) (k:Below b.heap.size b c):Only R a c :=
 ⟨k.os.trans h.os,k.tape.trans h.tape,k.output.trans h.output,Nat.le_trans h.size k.size,fun i hi hr=>(k.block i (Nat.lt_of_lt_of_le hi h.size)).trans (h.block i hi hr)⟩
theorem Only.of_below {R:Nat} {b c:World} (k:Below b.heap.size b c):Only R b c:=(Only.refl R b).below k
theorem Only.cell {R:Nat} {w w':World} (h:Only R w w') {b o:Nat} (hb:b < w.heap.size) (hne:b ≠ R):w'.cell? ⟨b,o,none⟩=w.cell? ⟨b,o,none⟩ :=
 World.cell?_of_block (w:=w) (h.block b hb (fun e=>hne (by injection e)))
theorem Only.frozen {R:Nat} {w w':World} (h:Only R w w') {b o:Nat} (hb:b < w.heap.size) (hne:b ≠ R):w'.frozen? ⟨b,o,none⟩=w.frozen? ⟨b,o,none⟩ :=
 World.frozen?_of_block (w:=w) (h.block b hb (fun e=>hne (by injection e)))
theorem Only.toBelow {R B:Nat} {a w w':World} (h:Below B a w) (k:Only R w w') (hB:B≤w.heap.size) (hR:B≤R):Below B a w' :=
 h.grown k hB (fun i hi=>by injection hi with e; omega)
theorem Bg (R:Nat) (ad:Option Addr) (len cap:Nat) (w:World) (h:Rd w R ad len cap) :
  Calls prog 99 #[.pointer (some ⟨R,0,none⟩)] w fun e w'=>(∃ x:Int,e=.returned (.int .i64 x)∧0≤x∧x≤255)∧Rd w' R ad len cap∧Only R w w':=by
 obtain ⟨p,hp,hpl⟩:=h.place;have hc:=h.code;have hsm:=h.small;unfold maxLen at hsm;have H:Hid (Rd w R ad len cap):=h;by_cases hlt:p < len
 ·obtain ⟨b,off,rfl,hne,hbl,hbytes⟩:=h.bytes (by omega);obtain ⟨c,c0,c1,hcc⟩:=hbytes p hlt;have hfz:=h.free;have hnl:decide ((len:Int)≤(p:Int))=false:=by simp; omega
  have HS:Hid (Rd (w.setCell ⟨R,1,none⟩ (.int .i64 ((p:Int) + 1))) R (some ⟨b,off,none⟩) len cap):=h.step (by omega);clear hbytes h;go_enter func99,ntmps99;go_wp2;go_quiet (fail);go_wp2;have e1:(p:Int) + 1 - 1=(p:Int):=by omega
  have e2:=bR p;have e3:(p:Int) < (len:Int):=by omega
  have hw:IntKind.i64.wrap (p:Int)=(p:Int):=by rw [IntKind.wrap_i64]; omega
  have hcw:IntKind.i64.wrap c=c:=by rw [IntKind.wrap_i64]; omega
  have x1:(w.setCell ⟨R,1,none⟩ (.int .i64 ((p:Int) + 1))).cell? ⟨b,off + p,none⟩=some (.int .u8 c):=by
   rw [show (w.setCell ⟨R,1,none⟩ (.int .i64 ((p:Int) + 1))).cell? ⟨b,off + p,none⟩=w.cell? ⟨b,off + p,none⟩ from by apply World.cell?_setCell_other; intro e; exact hne (congrArg Addr.block e).symm];exact hcc
  go_quiet (fail);go_wp2;go_ret;exact ⟨⟨c,rfl,c0,c1⟩,HS.out.below ⟨rfl,rfl,rfl,Nat.le_refl _,fun _ _=>rfl⟩,(((Only.refl _ _).drewN _).set _ _).drewN _⟩
 ·have hge:decide ((len:Int)≤(p:Int))=true:=by simp; omega
  clear h;go_enter func99,ntmps99;go_wp2;go_quiet (fail);go_wp2;go_ret;exact ⟨⟨0,rfl,by omega,by omega⟩,H.out.below ((below_drewN (Below.refl _ _) _)),(Only.refl _ _).drewN _⟩
theorem bD (R:Nat) (ad:Option Addr) (len cap:Nat) (n:Int) (w:World) (h:Rd w R ad len cap) (h1:2≤n) (h2:n≤256) :
  Calls prog 65 #[.pointer (some ⟨R,0,none⟩),.int .i64 n] w fun e w'=>(∃ x:Int,e=.returned (.int .i64 x)∧0≤x∧x < n)∧Rd w' R ad len cap∧Only R w w':=by
 have H:Hid (Rd w R ad len cap):=h;clear h;have hne:(n == 0)=false:=by simp; omega
 go_enter func65,ntmps65;go_wp2_with fail;refine (Bg R ad len cap _ H.out).mono ?_;rintro e w1 ⟨⟨x,rfl,hx0,hx1⟩,hR1,hO1⟩;have HR:Hid (Rd w1 R ad len cap):=hR1;have HO:Hid (Only R w w1):=hO1;clear hR1 hO1;go_wp2;go_ret;exact ⟨⟨_,rfl,Int.emod_nonneg _ (by omega),Int.emod_lt_of_pos _ (by omega)⟩,HR.out,HO.out⟩
theorem dY (R:Nat) (ad:Option Addr) (len cap:Nat) (n:Int) (w:World) (h:Rd w R ad len cap) (h1:2≤n) (h2:n≤256) :
  Calls prog 66 #[.pointer (some ⟨R,0,none⟩),.int .i64 n] w fun e w'=>(∃ x:Bool,e=.returned (.bool x))∧Rd w' R ad len cap∧Only R w w':=by
 have H:Hid (Rd w R ad len cap):=h;clear h;go_enter func66,ntmps66;go_wp2_with fail;refine (bD R ad len cap n _ H.out h1 h2).mono ?_;rintro e w1 ⟨⟨x,rfl,hx0,hx1⟩,hR1,hO1⟩;have HR:Hid (Rd w1 R ad len cap):=hR1;have HO:Hid (Only R w w1):=hO1;clear hR1 hO1;go_wp2;go_ret;exact ⟨⟨_,rfl⟩,HR.out,HO.out⟩
theorem Ht {α:Type} (p q:α→Bool) (l:List α) (h:∀ x ∈ l,q x=true→p x=true) (y:α) (hy:y ∈ l) (hp:p y=true) (hq:q y=false):l.countP q < l.countP p:=by
 induction l with
 | nil=>cases hy
 | cons a l ih =>
  rw [List.countP_cons,List.countP_cons];rcases List.mem_cons.1 hy with rfl | hy
  ·have:=List.countP_mono_left (p:=q) (q:=p) (l:=l) (fun x hx=>h x (List.mem_cons_of_mem _ hx));simp [hp,hq]; omega
  ·have h1:=ih (fun x hx=>h x (List.mem_cons_of_mem _ hx)) hy;have h2:=h a (List.mem_cons_self ..);cases hqa:q a with
   | true=>simp [h2 hqa]; omega
   | false=>simp; omega
section
variable {P:Program} {ops:Array Oper} {Q:Exit→Act→World→Prop} {md:Region.Mode}
theorem aa {i:Nat} {o:Oper} {K:Act→World→Prop} {a:Act} {w:World} (ho:ops[i]?=some o)
  (h:∀ K':Act→World→Prop,Hid (∀ a w,K a w→K' a w)→if Region.wanted o (yielded ops a.tmps)=true then Oper.wp P o a w K' Q else K' (a.put o.dst undef) w):wpOp P ops Q i K a w:=wpOp_step ho h
def left (ops:Array Oper) (listed:Array Bool):Nat:=(List.range ops.size).countP (fun i=>!(listed.getD i true))
theorem Bh (listed:Array Bool) (i j:Nat):(listed.setIfInBounds i true).getD j true=if j=i then true else listed.getD j true:=by
 rw [Array.getD_eq_getD_getElem?,Array.getD_eq_getD_getElem?,Array.getElem?_setIfInBounds];by_cases e:i=j
 ·subst e;by_cases h:i < listed.size <;> simp [h]
 ·simp [e,Ne.symm e]
theorem Bi {listed:Array Bool} {i:Nat} (hi:i < ops.size) (hl:listed.getD i true=false):left ops (listed.setIfInBounds i true) < left ops listed:=by
 refine Ht _ _ _ ?_ i (by simpa using hi) (by simp [hl]) (by rw [Bh]; simp);intro x _ hx;simp only [Bh,Bool.not_eq_true'] at hx ⊢;by_cases e:x=i
 ·simp [e] at hx
 ·simpa [e] using hx
theorem Fy (Inv:Array Bool→Act→World→Prop)
  (hstep:∀ listed a w,Inv listed a w→∀ i ∈ Region.ready md ops listed,wpOp P ops Q i (Inv (listed.setIfInBounds i true)) a w)
  (hend:∀ listed a w,Inv listed a w→Region.ready md ops listed=[]→Q .normal a w) :
  ∀ (fuel:Nat) (listed:Array Bool) (a:Act) (w:World),left ops listed≤fuel→Inv listed a w→wpAny P md ops Q fuel listed a w:=by
 intro fuel
 induction fuel with
 | zero =>
  intro listed a w hc hI;have hr:Region.ready md ops listed=[]:=by
   rw [List.eq_nil_iff_forall_not_mem];intro i hi;obtain ⟨h1,o,h2,-⟩:=mem_ready.1 hi;have:=Bi (ops:=ops) (Array.getElem?_eq_some_iff.1 h2).1 h1;omega
  exact ⟨hr,hend _ _ _ hI hr⟩
 | succ n ih =>
  intro listed a w hc hI;refine ⟨fun hr=>hend _ _ _ hI hr,fun i hi=>wpOp_mono (fun a' w' h=>ih _ _ _ ?_ h) (hstep _ _ _ hI i hi)⟩;obtain ⟨h1,o,h2,-⟩:=mem_ready.1 hi;have:=Bi (ops:=ops) (Array.getElem?_eq_some_iff.1 h2).1 h1;omega
theorem Kr (ops:Array Oper) (listed:Array Bool):left ops listed≤ops.size:=by
 unfold left;exact Nat.le_trans List.countP_le_length (by simp)
theorem eZ {id:Nat} {a:Act} {w:World} (Inv:Array Bool→Act→World→Prop) (hm:P.follows .mixedOrders=true)
  (h0:Inv (Array.replicate ops.size false) a w.drew)
  (hstep:∀ listed a w,Inv listed a w→∀ i ∈ Region.ready .any ops listed,wpOp P ops Q i (Inv (listed.setIfInBounds i true)) a w)
  (hend:∀ listed a w,Inv listed a w→Region.ready .any ops listed=[]→Q .normal a w):(Code.region id ops true).wp P Q a w :=
 wp_region_any hm (Fy Inv hstep hend _ _ _ _ (Kr _ _) h0)
theorem vF {listed:Array Bool} {n:Nat} (hr:Region.ready md ops listed=[]) (hs:ops.size=n) (hord:∀ (i:Nat) (o:Oper),ops[i]?=some o→∀ e ∈ o.after,e.on < i) (hsz:listed.size=n):∀ i,i < n→listed.getD i true=true:=by
 intro i
 induction i using Nat.strongRecOn with
 | ind i ih =>
  intro hi;cases hl:listed.getD i true with
  | true=>rfl
  | false =>
   exfalso;have hmem:i ∈ Region.ready md ops listed:=by
    refine mem_ready.2 ⟨hl,ops[i]'(by omega),Array.getElem?_eq_getElem (by omega),fun e he _=>?_⟩;have hlt:=hord i _ (Array.getElem?_eq_getElem (by omega)) e he;have:=ih e.on hlt (by omega);rw [Array.getD_eq_getD_getElem?,Array.getElem?_eq_getElem (by omega)] at this ⊢;simpa using this
   rw [hr] at hmem;cases hmem
end
end Go.Proofs.YteoflgocljfgeaaGreatDoor
