/- Plain functions on bytes that the contracts of this seat's texts are stated by: which names and ids are right. Nothing of the program is read here. -/
import Derived.Test.YtajkkeikihhejaaGreatSq
import Derived.WalkKit
import Derived.Test.YtajkkeikihhejaaGreatRows
import Derived.WalkLawsBesides
import Derived.ProofKit
import Derived.Deep.QuietTactic
import Derived.BigQuiet
import Derived.WalkSmall
import Derived.WalkSpells
import Derived.Deep.RegionWith
open Go.Proofs.Tryz
set_option maxHeartbeats 80000000
namespace Go.Proofs.YtajkkeikihhejaaGreat.Pl
def eH (c:UInt8):Bool:=decide (97≤c.toNat) && decide (c.toNat≤122)
def yD (c:UInt8):Bool:=eH c || (decide (48≤c.toNat) && decide (c.toNat≤57)) || decide (c.toNat=95)
def nG (s:ByteArray):Bool:=decide (1≤s.size) && decide (s.size≤12)
def rT (p:UInt8→Bool) (s:ByteArray):Bool:=s.data.toList.all p
def dL (p:UInt8→Bool) (s:ByteArray):Bool:=nG s && rT p s
def yE (s:ByteArray):Bool:=!(s.toList == [116,104,105,115])
def aP (s:ByteArray):Bool:=dL eH s && yE s
def pM (s:ByteArray):Bool:=dL yD s
theorem ah {a b:Bool} (h:a=b):Ending.returned (.bool a)=.returned (.bool b):=by rw [h]
theorem Ce (s:bH) (k:Nat) (h:k < s.size):s.data.toList.take (k + 1)=s.data.toList.take k ++ [s[k]]:=by
 rw [TV (by simpa using h)]; rfl
def Hy (p:UInt8→Bool) (s:ByteArray) (k:Nat):Bool:=(s.data.toList.take k).all p
theorem ui (p:UInt8→Bool) (s:bH):Hy p s 0=true:=by simp [Hy]
theorem uj (p:UInt8→Bool) (s:bH) (k:Nat) (h:k < s.size):Hy p s (k + 1)=(Hy p s k && p s[k]):=by
 unfold Hy; rw [Ce s k h]; simp
theorem yF (p:UInt8→Bool) (s:bH) (k:Nat) (h:s.size≤k):Hy p s k=rT p s:=by
 unfold Hy rT; rw [List.take_of_length_le (by simpa using h)]
theorem yG (p:UInt8→Bool) (s:bH) (k:Nat) (h:k < s.size) (hb:p s[k]=false):rT p s=false:=by
 unfold rT;rw [List.all_eq_false];exact ⟨s[k],by simp [ByteArray.getElem_eq_getElem_data],by simp [hb]⟩
def eT (t i:ByteArray):Bool:=aP t && pM i
end Go.Proofs.YtajkkeikihhejaaGreat.Pl
namespace Go.Proofs.YtajkkeikihhejaaGreat
open Go.ChangeShapes Go.WideShapes Go.ChangeAt Go.RowKit
open Pl
theorem kW (c:UInt8) (w:af) :
  Calls prog 210 #[.int .u8 c.toNat] w fun e w'=>e=.returned (.bool (eH c))∧w'=w:=by
 go_enter func210,ntmps210;go_wp2
 all_goals go_ret
 all_goals refine ⟨ah ?_,rfl⟩
 all_goals (rw [Bool.eq_iff_iff]; simp [eH]; omega)
theorem aS (s:bH) (w:af) (hs:s.size≤maxLen) :
  Calls prog 111 #[.string s] w fun e w'=>e=.returned (.bool (aP s))∧w'=w:=by
 unfold maxLen at hs;by_cases h1:1≤s.size∧s.size≤12
 ·obtain ⟨ha,hb⟩:=h1;go_enter func111,ntmps111;go_wp2
  go_loop [3] (fun i=>∃ k:Nat,k≤s.size∧i=.int .i64 k∧Hid (Hy eH s k=true)) (fun i=>s.size - (intOf i).toNat)
  case atStart=>exact ⟨0,TW _,rfl,ui _ _⟩
  obtain ⟨k,hk,rfl,hu⟩:=hrel;by_cases hlt:k < s.size
  ·by_cases hc:eH s[k]=true
   ·have hc1:97≤s[k].toNat:=by simp [eH] at hc; omega
    have hc2:s[k].toNat≤122:=by simp [eH] at hc; omega
    have HU:Hid (Hy eH s (k + 1)=true):=by show _=_; rw [uj _ _ _ hlt,hc,hu.out]; rfl
    clear hc;go_wp2;go_round;case rel=>exact ⟨k + 1,by omega,by go_num,HU⟩
    simp [intOf]; omega
   have hc':eH s[k]=false:=by simpa using hc
   have HB:Hid (rT eH s=false):=yG _ _ _ hlt hc';have hd:s[k].toNat < 97 ∨ 122 < s[k].toNat:=by simp [eH] at hc'; omega
   clear hc hc';rcases hd with hd | hd
   all_goals
    go_wp2;go_ret;exact ⟨ah (by simp [aP,dL,HB.out]),rfl⟩
  go_wp2;go_ret;refine ⟨ah ?_,rfl⟩;have hall:rT eH s=true:=by rw [← yF eH s k (by omega)]; exact hu.out
  have hl:nG s=true:=by simp [nG]; omega
  simp [aP,dL,yE,hall,hl]
 have hn:nG s=false:=by simp [nG]; omega
 have HN:Hid (aP s=false):=by show _=_; simp [aP,dL,hn]
 clear hn;by_cases ha:1≤s.size
 ·have hb:12 < s.size:=by omega
  clear h1;go_enter func111,ntmps111;go_wp2;go_ret;exact ⟨ah HN.out.symm,rfl⟩
 have ha':s.size < 1:=by omega
 clear h1;go_enter func111,ntmps111;go_wp2;go_ret;exact ⟨ah HN.out.symm,rfl⟩
theorem yQ (s:bH) (w:af) (hs:s.size≤maxLen) :
  Calls prog 209 #[.string s,.func (Fn.func 210) #[] #[]] w fun e w'=>e=.returned (.bool (dL eH s))∧w'=w:=by
 unfold maxLen at hs;by_cases h1:1≤s.size∧s.size≤12
 ·obtain ⟨ha,hb⟩:=h1;go_enter func209,ntmps209;go_wp2
  go_loop [16] (fun i=>∃ k:Nat,k≤s.size∧i=.int .i64 k∧Hid (Hy eH s k=true)) (fun i=>s.size - (intOf i).toNat)
  case atStart=>exact ⟨0,TW _,rfl,ui _ _⟩
  obtain ⟨k,hk,rfl,hu⟩:=hrel;by_cases hlt:k < s.size
  ·by_cases hc:eH s[k]=true
   ·have HU:Hid (Hy eH s (k + 1)=true):=by show _=_; rw [uj _ _ _ hlt,hc,hu.out]; rfl
    go_wp2_with (go_at_call 210; refine (kW _ _).mono ?_; rintro e w' ⟨rfl,rfl⟩);go_round;case rel=>exact ⟨k + 1,by omega,by go_num,HU⟩
    simp [intOf]; omega
   have hc':eH s[k]=false:=by simpa using hc
   have HB:Hid (rT eH s=false):=yG _ _ _ hlt hc';clear hc;go_wp2_with (go_at_call 210; refine (kW _ _).mono ?_; rintro e w' ⟨rfl,rfl⟩);go_ret;exact ⟨ah (by simp [dL,HB.out]),rfl⟩
  go_wp2;go_ret;refine ⟨ah ?_,rfl⟩;have hall:rT eH s=true:=by rw [← yF eH s k (by omega)]; exact hu.out
  have hl:nG s=true:=by simp [nG]; omega
  simp [dL,hall,hl]
 have hn:nG s=false:=by simp [nG]; omega
 have HN:Hid (dL eH s=false):=by show _=_; simp [dL,hn]
 clear hn;by_cases ha:1≤s.size
 ·have hb:12 < s.size:=by omega
  clear h1;go_enter func209,ntmps209;go_wp2;go_ret;exact ⟨ah HN.out.symm,rfl⟩
 have ha':s.size < 1:=by omega
 clear h1;go_enter func209,ntmps209;go_wp2;go_ret;exact ⟨ah HN.out.symm,rfl⟩
theorem aL (s:bH) (w:af) (hs:s.size≤maxLen) :
  Calls prog 162 #[.string s] w fun e w'=>e=.returned (.bool (aP s))∧w'=w:=by
 by_cases h:s.toList=[116,104,105,115]
 ·have hb:(s.toList == [116,104,105,115])=true:=by simp [h]
  have HN:Hid (aP s=false):=by show _=_; simp [aP,yE,h]
  clear h;go_enter func162,ntmps162;go_wp2;go_ret;exact ⟨ah HN.out.symm,rfl⟩
 have hb:(s.toList == [116,104,105,115])=false:=by simp [h]
 have HN:Hid (aP s=dL eH s):=by show _=_; simp [aP,yE,h]
 clear h;go_enter func162,ntmps162;go_wp2_with (go_at_call 209; refine (yQ _ _ hs).mono ?_; rintro e w' ⟨rfl,rfl⟩);go_ret;exact ⟨ah HN.out.symm,rfl⟩
structure Rd (w:World) (R:Nat) (ad:Option Addr) (len cap:Nat):Prop where
 lt:R < w.heap.size
 code:w.cell? ⟨R,0,none⟩=some (.slice ad len cap)
 place:∃ p:Nat,w.cell? ⟨R,1,none⟩=some (.int .i64 p)∧p≤len
 free:w.frozen? ⟨R,1,none⟩=false
 bytes:0 < len→∃ b off,ad=some ⟨b,off,none⟩∧b ≠ R∧b < w.heap.size∧∀ i,i < len→∃ c:Int,0≤c∧c≤255∧w.cell? ⟨b,off + i,none⟩=some (.int .u8 c)
 small:len≤maxLen
theorem Rd.below {w w':af} {R:Nat} {ad:Option Addr} {len cap:Nat} (h:Rd w R ad len cap) (hb:ag w w'):Rd w' R ad len cap where
 lt:=TP h.lt hb.size
 code:=by rw [hb.cell (p:=⟨R,0,none⟩) h.lt]; exact h.code
 place:=by obtain ⟨p,hp,hl⟩:=h.place; exact ⟨p,by rw [hb.cell (p:=⟨R,1,none⟩) h.lt]; exact hp,hl⟩
 free:=by rw [hb.frozen (p:=⟨R,1,none⟩) h.lt]; exact h.free
 bytes h0:=by
  obtain ⟨b,off,e,hne,hbl,hc⟩:=h.bytes h0;refine ⟨b,off,e,hne,TP hbl hb.size,fun i hi=>?_⟩;obtain ⟨c,c0,c1,hcc⟩:=hc i hi;exact ⟨c,c0,c1,by rw [hb.cell (p:=⟨b,off + i,none⟩) hbl]; exact hcc⟩
 small:=h.small
theorem Rd.step {w:af} {R p:Nat} {ad:Option Addr} {len cap:Nat} (h:Rd w R ad len cap) (hp:p + 1≤len):Rd (w.setCell ⟨R,1,none⟩ (.int .i64 ((p:Int) + 1))) R ad len cap where
 lt:=by simpa using h.lt
 code:=by
  rw [show (w.setCell ⟨R,1,none⟩ (.int .i64 ((p:Int) + 1))).cell? ⟨R,0,none⟩=w.cell? ⟨R,0,none⟩ from by apply World.cell?_setCell_other; intro e; cases e];exact h.code
 place:=by
  obtain ⟨q,hq,-⟩:=h.place;exact ⟨p + 1,by rw [show (w.setCell ⟨R,1,none⟩ (.int .i64 ((p:Int) + 1))).cell? ⟨R,1,none⟩=some (.int .i64 ((p:Int) + 1)) from by apply World.cell?_setCell_same; exact hq]; simp,hp⟩
 free:=by simpa using h.free
 bytes h0:=by
  obtain ⟨b,off,e,hne,hbl,hc⟩:=h.bytes h0;refine ⟨b,off,e,hne,by simpa using hbl,fun i hi=>?_⟩;obtain ⟨c,c0,c1,hcc⟩:=hc i hi;refine ⟨c,c0,c1,?_⟩;rw [show (w.setCell ⟨R,1,none⟩ (.int .i64 ((p:Int) + 1))).cell? ⟨b,off + i,none⟩=w.cell? ⟨b,off + i,none⟩ from by apply World.cell?_setCell_other; intro e; exact hne (congrArg Addr.block e).symm];exact hcc
 small:=h.small
def Only (R:Nat) (w w':World):Prop:=w.grownBy w' (some R)
theorem Only.refl (R:Nat) (w:af):Only R w w:=⟨rfl,rfl,rfl,TS _,fun _ _ _=>rfl⟩
theorem Only.trans {R:Nat} {a b c:af} (h:Only R a b) (k:Only R b c):Only R a c :=
 ⟨k.os.trans h.os,k.tape.trans h.tape,k.output.trans h.output,TZ h.size k.size,fun i hi hr=>(k.block i (TP hi h.size) hr).trans (h.block i hi hr)⟩
theorem Only.drewN {R:Nat} {a b:af} (h:Only R a b) (n:Nat):Only R a (b.drewN n):=⟨h.os,h.tape,h.output,h.size,h.block⟩
theorem Only.set {R:Nat} {a b:af} (h:Only R a b) (o:Nat) (v:Value):Only R a (b.setCell ⟨R,o,none⟩ v) :=
 ⟨h.os,h.tape,h.output,by simpa using h.size,fun i hi hr=>(Below.heap_setCell b ⟨R,o,none⟩ v i (fun e=>hr (by rw [e]))).trans (h.block i hi hr)⟩
theorem Only.below {R:Nat} {a b c:af} (h:Only R a b) (k:ag b c):Only R a c :=
 ⟨k.os.trans h.os,k.tape.trans h.tape,k.output.trans h.output,TZ h.size k.size,fun i hi hr=>(k.block i (TP hi h.size)).trans (h.block i hi hr)⟩
theorem Only.of_below {R:Nat} {b c:af} (k:ag b c):Only R b c:=(Only.refl R b).below k
theorem Only.cell {R:Nat} {w w':af} (h:Only R w w') {b o:Nat} (hb:b < w.heap.size) (hne:b ≠ R):w'.cell? ⟨b,o,none⟩=w.cell? ⟨b,o,none⟩ :=
 Ul (w:=w) (h.block b hb (fun e=>hne (by injection e)))
theorem Only.frozen {R:Nat} {w w':af} (h:Only R w w') {b o:Nat} (hb:b < w.heap.size) (hne:b ≠ R):w'.frozen? ⟨b,o,none⟩=w.frozen? ⟨b,o,none⟩ :=
 World.frozen?_of_block (w:=w) (h.block b hb (fun e=>hne (by injection e)))
theorem Only.toBelow {R B:Nat} {a w w':af} (h:Below B a w) (k:Only R w w') (hB:B≤w.heap.size) (hR:B≤R):Below B a w' :=
 h.grown k hB (fun i hi=>by injection hi with e; omega)
theorem uk (R:Nat) (ad:Option Addr) (len cap:Nat) (w:af) (h:Rd w R ad len cap) :
  Calls prog 90 #[.pointer (some ⟨R,0,none⟩)] w fun e w'=>(∃ x:Int,e=.returned (.int .i64 x)∧0≤x∧x≤255)∧Rd w' R ad len cap∧Only R w w':=by
 obtain ⟨p,hp,hpl⟩:=h.place;have hc:=h.code;have hsm:=h.small;unfold maxLen at hsm;have H:=az h;by_cases hlt:p < len
 ·obtain ⟨b,off,rfl,hne,hbl,hbytes⟩:=h.bytes (by omega);obtain ⟨c,c0,c1,hcc⟩:=hbytes p hlt;have hfz:=h.free;have hnl:decide ((len:Int)≤(p:Int))=false:=by simp; omega
  have HS:Hid (Rd (w.setCell ⟨R,1,none⟩ (.int .i64 ((p:Int) + 1))) R (some ⟨b,off,none⟩) len cap):=h.step (by omega);clear hbytes h;go_enter func90,ntmps90;go_wp2;go_quiet (fail);go_wp2;have e1:(p:Int) + 1 - 1=(p:Int):=by omega
  have e2:=bB p;have e3:(p:Int) < (len:Int):=by omega
  have hw:IntKind.i64.wrap (p:Int)=(p:Int):=by rw [IntKind.wrap_i64]; omega
  have hcw:IntKind.i64.wrap c=c:=by rw [IntKind.wrap_i64]; omega
  have x1:(w.setCell ⟨R,1,none⟩ (.int .i64 ((p:Int) + 1))).cell? ⟨b,off + p,none⟩=some (.int .u8 c):=by
   rw [show (w.setCell ⟨R,1,none⟩ (.int .i64 ((p:Int) + 1))).cell? ⟨b,off + p,none⟩=w.cell? ⟨b,off + p,none⟩ from by apply World.cell?_setCell_other; intro e; exact hne (congrArg Addr.block e).symm];exact hcc
  go_quiet (fail);go_wp2;go_ret;exact ⟨⟨c,rfl,c0,c1⟩,HS.out.below ⟨rfl,rfl,rfl,TS _,fun _ _=>rfl⟩,(((Only.refl _ _).drewN _).set _ _).drewN _⟩
 have hge:decide ((len:Int)≤(p:Int))=true:=by simp; omega
 clear h;go_enter func90,ntmps90;go_wp2;go_quiet (fail);go_wp2;go_ret;exact ⟨⟨0,rfl,by omega,by omega⟩,H.out.below ((below_drewN (TT _ _) _)),(Only.refl _ _).drewN _⟩
theorem bW (R:Nat) (ad:Option Addr) (len cap:Nat) (n:Int) (w:af) (h:Rd w R ad len cap) (h1:2≤n) (h2:n≤256) :
  Calls prog 49 #[.pointer (some ⟨R,0,none⟩),.int .i64 n] w fun e w'=>(∃ x:Int,e=.returned (.int .i64 x)∧0≤x∧x < n)∧Rd w' R ad len cap∧Only R w w':=by
 have H:=az h;clear h;have hne:(n == 0)=false:=by simp; omega
 go_enter func49,ntmps49;go_wp2_with fail;refine (uk R ad len cap _ H.out).mono ?_;rintro e w1 ⟨⟨x,rfl,hx0,hx1⟩,U5,UX⟩;have HR:=az U5;have HO:=az UX;clear U5 UX;go_wp2;go_ret;exact ⟨⟨_,rfl,Int.emod_nonneg _ (by omega),Int.emod_lt_of_pos _ (by omega)⟩,HR.out,HO.out⟩
theorem iN (R:Nat) (ad:Option Addr) (len cap:Nat) (n:Int) (w:af) (h:Rd w R ad len cap) (h1:2≤n) (h2:n≤256) :
  Calls prog 48 #[.pointer (some ⟨R,0,none⟩),.int .i64 n] w fun e w'=>(∃ x:Bool,e=.returned (.bool x))∧Rd w' R ad len cap∧Only R w w':=by
 have H:=az h;clear h;go_enter func48,ntmps48;go_wp2_with fail;refine (bW R ad len cap n _ H.out h1 h2).mono ?_;rintro e w1 ⟨⟨x,rfl,hx0,hx1⟩,U5,UX⟩;have HR:=az U5;have HO:=az UX;clear U5 UX;go_wp2;go_ret;exact ⟨⟨_,rfl⟩,HR.out,HO.out⟩
theorem Na {α:Type} (p q:α→Bool) (l:List α) (h:∀ x ∈ l,q x=true→p x=true) (y:α) (hy:y ∈ l) (hp:p y=true) (hq:q y=false):l.countP q < l.countP p:=by
 induction l with
 | nil=>cases hy
 | cons a l ih =>
  rw [List.countP_cons,List.countP_cons];rcases List.mem_cons.1 hy with rfl | hy
  ·have:=List.countP_mono_left (p:=q) (q:=p) (l:=l) (fun x hx=>h x (Uq _ hx));simp [hp,hq]; omega
  have h1:=ih (fun x hx=>h x (Uq _ hx)) hy;have h2:=h a (Us ..);cases hqa:q a;case true=>simp [h2 hqa]; omega
  simp; omega
section
variable {P:Program} {ops:Array Oper} {Q:Exit→Act→World→Prop} {md:Region.Mode}
theorem aa {i:Nat} {o:Oper} {K:Act→World→Prop} {a:Act} {w:af} (ho:ops[i]?=some o)
  (h:∀ K':Act→World→Prop,Hid (∀ a w,K a w→K' a w)→if Region.wanted o (yielded ops a.tmps)=true then Oper.wp P o a w K' Q else K' (a.put o.dst undef) w):wpOp P ops Q i K a w:=wpOp_step ho h
def left (ops:Array Oper) (listed:Array Bool):Nat:=(List.range ops.size).countP (fun i=>!(listed.getD i true))
theorem Fp (listed:Array Bool) (i j:Nat):(listed.setIfInBounds i true).getD j true=if j=i then true else listed.getD j true:=by
 rw [Uj,Uj,Array.getElem?_setIfInBounds];by_cases e:i=j
 ·subst e;by_cases h:i < listed.size <;> simp [h]
 simp [e,Ne.symm e]
theorem Fq {listed:Array Bool} {i:Nat} (hi:i < ops.size) (hl:listed.getD i true=false):left ops (listed.setIfInBounds i true) < left ops listed:=by
 refine Na _ _ _ ?_ i (by simpa using hi) (by simp [hl]) (by rw [Fp]; simp);intro x _ hx;simp only [Fp,Bool.not_eq_true'] at hx ⊢;by_cases e:x=i
 ·simp [e] at hx
 simpa [e] using hx
theorem KQ (Inv:Array Bool→Act→World→Prop)
  (hstep:∀ listed a w,Inv listed a w→∀ i ∈ Region.ready md ops listed,wpOp P ops Q i (Inv (listed.setIfInBounds i true)) a w)
  (hend:∀ listed a w,Inv listed a w→Region.ready md ops listed=[]→Q .normal a w) :
  ∀ (fuel:Nat) (listed:Array Bool) (a:Act) (w:World),left ops listed≤fuel→Inv listed a w→wpAny P md ops Q fuel listed a w:=by
 intro fuel
 induction fuel with
 | zero =>
  intro listed a w hc hI;have hr:Region.ready md ops listed=[]:=by
   rw [List.eq_nil_iff_forall_not_mem];intro i hi;obtain ⟨h1,o,h2,-⟩:=mem_ready.1 hi;have:=Fq (ops:=ops) (Array.getElem?_eq_some_iff.1 h2).1 h1;omega
  exact ⟨hr,hend _ _ _ hI hr⟩
 | succ n ih =>
  intro listed a w hc hI;refine ⟨fun hr=>hend _ _ _ hI hr,fun i hi=>wpOp_mono (fun a' w' h=>ih _ _ _ ?_ h) (hstep _ _ _ hI i hi)⟩;obtain ⟨h1,o,h2,-⟩:=mem_ready.1 hi;have:=Fq (ops:=ops) (Array.getElem?_eq_some_iff.1 h2).1 h1;omega
theorem Qa (ops:Array Oper) (listed:Array Bool):left ops listed≤ops.size:=by
 unfold left;exact TZ List.countP_le_length (by simp)
theorem gM {id:Nat} {a:Act} {w:af} (Inv:Array Bool→Act→World→Prop) (hm:P.follows .mixedOrders=true)
  (h0:Inv (Array.replicate ops.size false) a w.drew)
  (hstep:∀ listed a w,Inv listed a w→∀ i ∈ Region.ready .any ops listed,wpOp P ops Q i (Inv (listed.setIfInBounds i true)) a w)
  (hend:∀ listed a w,Inv listed a w→Region.ready .any ops listed=[]→Q .normal a w):(Code.region id ops true).wp P Q a w :=
 wp_region_any hm (KQ Inv hstep hend _ _ _ _ (Qa _ _) h0)
theorem sM {listed:Array Bool} {n:Nat} (hr:Region.ready md ops listed=[]) (hs:ops.size=n) (Vg:∀ (i:Nat) (o:Oper),ops[i]?=some o→∀ e ∈ o.after,e.on < i) (hsz:listed.size=n):∀ i,i < n→listed.getD i true=true:=by
 intro i
 induction i using Nat.strongRecOn with
 | ind i ih =>
  intro hi;cases hl:listed.getD i true;case true=>rfl
  exfalso;have hmem:i ∈ Region.ready md ops listed:=by
   refine mem_ready.2 ⟨hl,ops[i]'(by omega),Uv (by omega),fun e he _=>?_⟩;have hlt:=Vg i _ (Uv (by omega)) e he;have:=ih e.on hlt (by omega);rw [Uj,Uv (by omega)] at this ⊢;simpa using this
  rw [hr] at hmem;cases hmem
end
def upd (f:Nat→Value) (i:Nat) (v:Value):Nat→Value:=fun k=>if k=i then v else f k
section
variable {P:Program} {ops:Array Oper} {Q:Exit→Act→World→Prop}
theorem aO (listed:Array Bool) (i j:Nat) (hi:i < listed.size):(listed.setIfInBounds i true).getD j false=if j=i then true else listed.getD j false:=by
 rw [Uj,Uj,Array.getElem?_setIfInBounds];by_cases e:i=j
 ·subst e; simp [hi]
 simp [e,Ne.symm e]
theorem j6 {listed:Array Bool} {i:Nat} (hi:i < listed.size):listed.getD i true=listed.getD i false:=by
 rw [Uj,Uj,Uv hi]; rfl
def Cf (ops:Array Oper):Bool:=(List.range ops.size).all (fun i=>(ops[i]?.map (fun o=>o.after.all (fun e=>decide (e.on < i)))).getD true)
def yR (ops:Array Oper) (L:Nat):Bool:=(List.range L).all (fun j=>(ops[L]?.map (fun o=>o.after.any (fun e=>e.on == j && Region.binds .any e))).getD false)
theorem pX {ops:Array Oper} (h:Cf ops=true):∀ (i:Nat) (o:Oper),ops[i]?=some o→∀ e ∈ o.after,e.on < i:=by
 intro i o ho e he;rw [Cf,Ub] at h;have h1:=h i (by simpa using (Array.getElem?_eq_some_iff.1 ho).1);rw [ho] at h1;simp only [Option.map_some,Option.getD_some,Array.all_eq_true_iff_forall_mem] at h1;simpa using h1 e he
theorem Cg {ops:Array Oper} {L:Nat} (h:yR ops L=true):∀ (o:Oper),ops[L]?=some o→∀ j,j < L→∃ e ∈ o.after,e.on=j∧Region.binds .any e=true:=by
 intro o ho j hj;rw [yR,Ub] at h;have h1:=h j (by simpa using hj);rw [ho] at h1;simp only [Option.map_some,Option.getD_some] at h1;rw [Array.any_eq_true'] at h1;obtain ⟨e,he,h2⟩:=h1;simp only [TU,beq_iff_eq] at h2;exact ⟨e,he,h2.1,h2.2⟩
theorem lQ {id:Nat} {a:Act} {w:af} (L:Nat) (f0:Nat→Value) (F:(Nat→Value)→Act) (V:Nat→Value→World→Prop) (G:World→Prop)
  (hm:P.follows .mixedOrders=true) (hsz:ops.size=L + 1) (Vg:Cf ops=true) (hlo:yR ops L=true)
  (h0:a=F f0) (hG0:G w.drew)
  (hstep:∀ i,i < L→∀ o,ops[i]?=some o→∀ f w',G w'→(∀ e ∈ o.after,Region.binds .any e=true→V e.on (f e.on) w') →
   wpOp P ops Q i (fun a' w''=>∃ v,a'=F (upd f i v)∧G w''∧V i v w''∧∀ k u,V k u w'→V k u w'') (F f) w')
  (hfin:∀ o,ops[L]?=some o→∀ f w',G w'→(∀ k,k < L→V k (f k) w')→wpOp P ops Q L (fun a' w''=>Q .normal a' w'') (F f) w') :
  (Code.region id ops true).wp P Q a w:=by
 refine gM (fun listed a' w'=>listed.size=L + 1∧((listed.getD L false=false∧∃ f,a'=F f∧G w'∧∀ k,k < L→listed.getD k false=true→V k (f k) w') ∨ ((∀ j,j≤L→listed.getD j true=true)∧Q .normal a' w'))) hm ?_ ?_ ?_
 ·refine ⟨by simpa using hsz,Or.inl ⟨?_,_,h0,hG0,fun k _ h=>?_⟩⟩
  ·rw [Uj,Array.getElem?_replicate]; split <;> rfl
  rw [Uj,Array.getElem?_replicate] at h; split at h <;> cases h
 ·rintro listed a' w' ⟨hs,h⟩ i hi;obtain ⟨hl,o,ho,hpre⟩:=mem_ready.1 hi;have hiL:i < L + 1:=by have:=(Array.getElem?_eq_some_iff.1 ho).1; omega
  rcases h with ⟨hn,f,rfl,hG,hV⟩ | ⟨hall,-⟩
  ·by_cases e:i=L
   ·subst e;have hall:∀ k,k < i→listed.getD k false=true:=fun k hk=>by
     obtain ⟨e,he,rfl,hb⟩:=Cg hlo o ho k hk;exact hpre e he hb
    refine wpOp_mono (fun a'' w'' hq=>⟨by simpa using hs,Or.inr ⟨fun j hj=>?_,hq⟩⟩) (hfin o ho f w' hG (fun k hk=>hV k hk (hall k hk)));rw [j6 (by simp; omega),aO _ _ _ (by omega)];by_cases e:j=i
    ·simp [e]
    rw [if_neg e]; exact hall j (by omega)
   refine wpOp_mono ?_ (hstep i (by omega) o ho f w' hG (fun e he hb=>hV e.on (by have:=pX Vg i o ho e he; omega) (hpre e he hb)));rintro a'' w'' ⟨v,rfl,hG',hv,hmono⟩;refine ⟨by simpa using hs,Or.inl ⟨?_,_,rfl,hG',fun k hk hkl=>?_⟩⟩
   ·rw [aO _ _ _ (by omega),if_neg (Ne.symm e)]; exact hn
   rw [aO _ _ _ (by omega)] at hkl;by_cases ek:k=i
   ·subst ek; simpa [upd] using hv
   rw [if_neg ek] at hkl;simp only [upd,if_neg ek];exact hmono _ _ (hV k hk hkl)
  rw [hall i (by omega)] at hl; cases hl
 rintro listed a' w' ⟨hs,h⟩ hr;rcases h with ⟨hn,-⟩ | ⟨-,hq⟩
 ·have:=sM hr hsz (pX Vg) hs L (by omega);rw [j6 (by omega)] at this;rw [this] at hn; cases hn
 exact hq
theorem fF {id:Nat} {a:Act} {w:af} (L:Nat) (F:(Nat→Value)→Act) (V:Nat→Value→World→Prop) (G:World→Prop)
  (hm:P.follows .mixedOrders=true) (hsz:ops.size=L + 1) (Vg:Cf ops=true) (hlo:yR ops L=true)
  (h0:a=F (fun _=>undef)) (hG0:G w.drew)
  (hstep:∀ i,i < L→∀ o,ops[i]?=some o→∀ f w',G w'→(∀ e ∈ o.after,Region.binds .any e=true→V e.on (f e.on) w') →
   wpOp P ops Q i (fun a' w''=>∃ v,a'=F (upd f i v)∧G w''∧V i v w''∧∀ k u,V k u w'→V k u w'') (F f) w')
  (hfin:∀ o,ops[L]?=some o→∀ f w',G w'→(∀ k,k < L→V k (f k) w')→wpOp P ops Q L (fun a' w''=>Q .normal a' w'') (F f) w') :
  (Code.region id ops true).wp P Q a w :=
 lQ L (fun _=>undef) F V G hm hsz Vg hlo h0 hG0 hstep hfin
theorem nz {id:Nat} {a:Act} {w:af} (N:Nat) (f0:Nat→Value) (F:(Nat→Value)→Act) (V:Nat→Value→World→Prop) (G:World→Prop)
  (hm:P.follows .mixedOrders=true) (hsz:ops.size=N) (Vg:Cf ops=true)
  (h0:a=F f0) (hG0:G w.drew)
  (hstep:∀ i,i < N→∀ o,ops[i]?=some o→∀ f w',G w'→(∀ e ∈ o.after,Region.binds .any e=true→V e.on (f e.on) w') →
   wpOp P ops Q i (fun a' w''=>∃ v,a'=F (upd f i v)∧G w''∧V i v w''∧∀ k u,V k u w'→V k u w'') (F f) w')
  (hend:∀ f w',G w'→(∀ k,k < N→V k (f k) w')→Q .normal (F f) w') :
  (Code.region id ops true).wp P Q a w:=by
 refine gM (fun listed a' w'=>listed.size=N∧∃ f,a'=F f∧G w'∧∀ k,k < N→listed.getD k false=true→V k (f k) w') hm ?_ ?_ ?_
 ·refine ⟨by simpa using hsz,_,h0,hG0,fun k _ h=>?_⟩;rw [Uj,Array.getElem?_replicate] at h; split at h <;> cases h
 ·rintro listed a' w' ⟨hs,f,rfl,hG,hV⟩ i hi;obtain ⟨hl,o,ho,hpre⟩:=mem_ready.1 hi;have hiN:i < N:=by have:=(Array.getElem?_eq_some_iff.1 ho).1; omega
  refine wpOp_mono ?_ (hstep i hiN o ho f w' hG (fun e he hb=>hV e.on (by have:=pX Vg i o ho e he; omega) (hpre e he hb)));rintro a'' w'' ⟨v,rfl,hG',hv,hmono⟩;refine ⟨by simpa using hs,_,rfl,hG',fun k hk hkl=>?_⟩;rw [aO _ _ _ (by omega)] at hkl;by_cases ek:k=i
  ·subst ek; simpa [upd] using hv
  rw [if_neg ek] at hkl;simp only [upd,if_neg ek];exact hmono _ _ (hV k hk hkl)
 rintro listed a' w' ⟨hs,f,rfl,hG,hV⟩ hr;refine hend f w' hG fun k hk=>hV k hk ?_;have:=sM hr hsz (pX Vg) hs k hk;rwa [j6 (by omega)] at this
end
def Strs (w:World) (R g n:Nat):Prop:=g ≠ R∧g < w.heap.size∧∀ i,i < n→∃ s:ByteArray,s.size≤20∧w.cell? ⟨g,i,none⟩=some (.string s)
theorem Strs.only {w w':af} {R g n:Nat} (h:Strs w R g n) (k:Only R w w'):Strs w' R g n :=
 ⟨h.1,TP h.2.1 k.size,fun i hi=>by obtain ⟨s,hs,hc⟩:=h.2.2 i hi; exact ⟨s,hs,by rw [k.cell h.2.1 h.1]; exact hc⟩⟩
def yS (w:World) (R B g:Nat):Prop:=g ≠ R∧B≤g∧g < w.heap.size∧(∀ o,w.frozen? ⟨g,o,none⟩=false)∧∃ a b:ByteArray,a.size≤20∧b.size≤20∧w.cell? ⟨g,0,none⟩=some (.string a)∧w.cell? ⟨g,1,none⟩=some (.string b)
theorem yS.only {w w':af} {R B g:Nat} (h:yS w R B g) (k:Only R w w'):yS w' R B g:=by
 obtain ⟨h1,h2,h3,h4,a,b,ha,hb,ca,cb⟩:=h;exact ⟨h1,h2,TP h3 k.size,fun o=>by rw [k.frozen h3 h1]; exact h4 o,a,b,ha,hb,by rw [k.cell h3 h1]; exact ca,by rw [k.cell h3 h1]; exact cb⟩
theorem fu (w:af) (R:Nat) (hR:R < w.heap.size) {t:TypeId} {xs:List ByteArray} (h:xs.all (fun x=>decide (x.size≤20))=true):Strs (w.alloc (.cells (xs.map Value.string).toArray t)) R w.heap.size xs.length:=by
 refine ⟨by omega,by simp,fun i hi=>⟨xs[i],?_,?_⟩⟩
 ·rw [Ub] at h;simpa using h xs[i] (TQ hi)
 simp [hi]
theorem KR {w:af} {R B:Nat} {t:TypeId} (hR:R < w.heap.size) (hB:B≤w.heap.size):yS (w.alloc (.cells #[.string ⟨#[]⟩,.string ⟨#[]⟩] t)) R B w.heap.size :=
 ⟨by omega,hB,by simp,fun o=>by simp,⟨#[]⟩,⟨#[]⟩,by decide,by decide,by simp,by simp⟩
theorem KS {w:af} {R B g:Nat} {x y:Value} {a b:ByteArray} (h1:g ≠ R) (h2:B≤g) (h3:g < w.heap.size) (h4:∀ o,w.frozen? ⟨g,o,none⟩=false) (hx:w.cell? ⟨g,0,none⟩=some x) (hy:w.cell? ⟨g,1,none⟩=some y) (ha:a.size≤20) (hb:b.size≤20) :
  yS ((w.setCell ⟨g,0,none⟩ (.string a)).setCell ⟨g,1,none⟩ (.string b)) R B g:=by
 have n01:(⟨g,0,none⟩:Addr) ≠ ⟨g,1,none⟩:=by intro e; cases e
 have e1:(w.setCell ⟨g,0,none⟩ (.string a)).cell? ⟨g,1,none⟩=some y:=by
  rw [show (w.setCell ⟨g,0,none⟩ (.string a)).cell? ⟨g,1,none⟩=w.cell? ⟨g,1,none⟩ from by apply World.cell?_setCell_other; exact n01]; exact hy
 refine ⟨h1,h2,by simpa using h3,fun o=>by simpa using h4 o,a,b,ha,hb,?_,?_⟩
 ·rw [show ((w.setCell ⟨g,0,none⟩ (.string a)).setCell ⟨g,1,none⟩ (.string b)).cell? ⟨g,0,none⟩=(w.setCell ⟨g,0,none⟩ (.string a)).cell? ⟨g,0,none⟩ from by apply World.cell?_setCell_other; exact n01.symm];apply World.cell?_setCell_same; exact hx
 apply World.cell?_setCell_same; exact e1
theorem Rd.setFar {w:af} {R g o:Nat} {ad:Option Addr} {len cap:Nat} {v:Value} (h:Rd w R ad len cap) (hg:g ≠ R) (hb:0 < len→∀ b off,ad=some ⟨b,off,none⟩→b ≠ g):Rd (w.setCell ⟨g,o,none⟩ v) R ad len cap where
 lt:=by simpa using h.lt
 code:=by
  rw [show (w.setCell ⟨g,o,none⟩ v).cell? ⟨R,0,none⟩=w.cell? ⟨R,0,none⟩ from by apply World.cell?_setCell_other; intro e; exact hg (congrArg Addr.block e)]; exact h.code
 place:=by
  obtain ⟨p,hp,hl⟩:=h.place;exact ⟨p,by rw [show (w.setCell ⟨g,o,none⟩ v).cell? ⟨R,1,none⟩=w.cell? ⟨R,1,none⟩ from by apply World.cell?_setCell_other; intro e; exact hg (congrArg Addr.block e)]; exact hp,hl⟩
 free:=by simpa using h.free
 bytes h0:=by
  obtain ⟨b,off,e,hne,hbl,hc⟩:=h.bytes h0;refine ⟨b,off,e,hne,by simpa using hbl,fun i hi=>?_⟩;obtain ⟨c,c0,c1,hcc⟩:=hc i hi;exact ⟨c,c0,c1,by rw [show (w.setCell ⟨g,o,none⟩ v).cell? ⟨b,off + i,none⟩=w.cell? ⟨b,off + i,none⟩ from by apply World.cell?_setCell_other; intro e2; exact hb h0 b off e (congrArg Addr.block e2).symm]; exact hcc⟩
 small:=h.small
theorem Only.setNew {R g o:Nat} {a b:af} {v:Value} (h:Only R a b) (hg:a.heap.size≤g):Only R a (b.setCell ⟨g,o,none⟩ v) :=
 ⟨h.os,h.tape,h.output,by simpa using h.size,fun i hi hr=>(Below.heap_setCell b ⟨g,o,none⟩ v i (by simp; omega)).trans (h.block i hi hr)⟩
theorem Only.alloc {R:Nat} {a b:af} (h:Only R a b) (o:Obj):Only R a (b.alloc o):=h.below ((TT _ _).alloc (TS _) _)
theorem Rd.alloc {w:af} {R:Nat} {ad:Option Addr} {len cap:Nat} (h:Rd w R ad len cap) (o:Obj):Rd (w.alloc o) R ad len cap:=h.below ((TT _ _).alloc (TS _) _)
theorem Qb {w:af} {a:Addr} {v:Value} (h:w.cell? a=some v) (o:Obj):(w.alloc o).cell? a=some v:=cell_later ((TT _ _).alloc (TS _) _) h
def Ob (w:World) (R g:Nat) (a b:ByteArray):Prop:=g ≠ R∧g < w.heap.size∧w.cell? ⟨g,0,none⟩=some (.string a)∧w.cell? ⟨g,1,none⟩=some (.string b)
theorem Ob.only {w w':af} {R g:Nat} {a b:ByteArray} (h:Ob w R g a b) (k:Only R w w'):Ob w' R g a b :=
 ⟨h.1,TP h.2.1 k.size,by rw [k.cell h.2.1 h.1]; exact h.2.2.1,by rw [k.cell h.2.1 h.1]; exact h.2.2.2⟩
theorem Ob.alloc {w:af} {R g:Nat} {a b:ByteArray} (h:Ob w R g a b) (o:Obj):Ob (w.alloc o) R g a b:=h.only ((Only.refl R w).alloc o)
theorem DW {w:af} {R:Nat} (hR:R < w.heap.size) (t:TypeId) (a b:bH):Ob (w.alloc (.cells #[.string a,.string b] t)) R w.heap.size a b :=
 ⟨by omega,by simp,by simp,by simp⟩
def RQ (w:World) (R n:Nat):Prop:=n ≠ R∧n < w.heap.size∧(∀ o,w.frozen? ⟨n,o,none⟩=false)∧∀ o,o < 6→w.cell? ⟨n,o,none⟩=some (.string ⟨#[]⟩)
theorem RQ.only {w w':af} {R n:Nat} (h:RQ w R n) (k:Only R w w'):RQ w' R n :=
 ⟨h.1,TP h.2.1 k.size,fun o=>by rw [k.frozen h.2.1 h.1]; exact h.2.2.1 o,fun o ho=>by rw [k.cell h.2.1 h.1]; exact h.2.2.2 o ho⟩
theorem Qc {w:af} {R:Nat} (hR:R < w.heap.size) (t:TypeId):RQ (w.alloc (.cells #[.string ⟨#[]⟩,.string ⟨#[]⟩,.string ⟨#[]⟩,.string ⟨#[]⟩,.string ⟨#[]⟩,.string ⟨#[]⟩] t)) R w.heap.size:=by
 refine ⟨by omega,by simp,fun o=>by simp,fun o ho=>?_⟩;have h6:o=0 ∨ o=1 ∨ o=2 ∨ o=3 ∨ o=4 ∨ o=5:=by omega
 rcases h6 with rfl | rfl | rfl | rfl | rfl | rfl <;> simp
structure Kd where
 s:Value ⊕ Nat ⊕ Nat ⊕ Nat ⊕ Unit ⊕ Unit ⊕ Unit
abbrev Kd.eq (v:Value):Kd:=⟨.inl v⟩
abbrev Kd.strs (n:Nat):Kd:=⟨.inr (.inl n)⟩
abbrev Kd.idx (n:Nat):Kd:=⟨.inr (.inr (.inl n))⟩
abbrev Kd.elt (n:Nat):Kd:=⟨.inr (.inr (.inr (.inl n)))⟩
abbrev Kd.str:Kd:=⟨.inr (.inr (.inr (.inr (.inl ()))))⟩
abbrev Kd.obj:Kd:=⟨.inr (.inr (.inr (.inr (.inr (.inl ())))))⟩
abbrev Kd.tup:Kd:=⟨.inr (.inr (.inr (.inr (.inr (.inr ())))))⟩
def Kd.ok (R:Nat) (w:World) (v:Value):Kd→Prop
 | ⟨.inl u⟩=>v=u
 | ⟨.inr (.inl n)⟩=>∃ g,v=.slice (some ⟨g,0,none⟩) n n∧Strs w R g n
 | ⟨.inr (.inr (.inl n))⟩=>∃ x:Nat,v=.int .i64 (x:Int)∧x < n
 | ⟨.inr (.inr (.inr (.inl n)))⟩=>∃ g x,v=.pointer (some ⟨g,x,none⟩)∧x < n∧Strs w R g n
 | ⟨.inr (.inr (.inr (.inr (.inl _))))⟩=>∃ t:ByteArray,v=.string t∧t.size≤20
 | ⟨.inr (.inr (.inr (.inr (.inr (.inl _)))))⟩=>∃ a b:ByteArray,v=.agg #[.string a,.string b]∧a.size≤20∧b.size≤20
 | ⟨.inr (.inr (.inr (.inr (.inr (.inr _)))))⟩=>∃ a b r c d s:ByteArray,v=.agg #[.string a,.string b,.string r,.string c,.string d,.string s]∧a.size≤20∧b.size≤20∧r.size≤20∧c.size≤20∧d.size≤20∧s.size≤20
theorem Kd.only {R:Nat} {w w':af} {v:Value} (h:Only R w w') (k:Kd) (hk:k.ok R w v):k.ok R w' v:=by
 match k,hk with
 | ⟨.inl _⟩,hk=>exact hk
 | ⟨.inr (.inl _)⟩,hk=>obtain ⟨g,e,hs⟩:=hk; exact ⟨g,e,hs.only h⟩
 | ⟨.inr (.inr (.inl _))⟩,hk=>exact hk
 | ⟨.inr (.inr (.inr (.inl _)))⟩,hk=>obtain ⟨g,x,e,hx,hs⟩:=hk; exact ⟨g,x,e,hx,hs.only h⟩
 | ⟨.inr (.inr (.inr (.inr (.inl _))))⟩,hk=>exact hk
 | ⟨.inr (.inr (.inr (.inr (.inr (.inl _)))))⟩,hk=>exact hk
 | ⟨.inr (.inr (.inr (.inr (.inr (.inr _)))))⟩,hk=>exact hk
def Fs (ks:List Kd) (k:Nat):Kd:=ks.getD k .tup
set_option maxRecDepth 100000
theorem jK {p:Prop} (h:p):Hid p:=h
theorem Hz (R:Nat) (w:af) (n:Int) (h:n≤1) :
  Calls prog 49 #[.pointer (some ⟨R,0,none⟩),.int .i64 n] w fun e w'=>e=.returned (.int .i64 0)∧w'=w:=by
 go_enter func49,ntmps49;go_wp2;go_ret;exact ⟨rfl,rfl⟩
theorem fQ (R:Nat) (ad:Option Addr) (len cap:Nat) (n:Nat) (w:af) (h:Rd w R ad len cap) (h1:1≤n) (h2:n≤256) :
  Calls prog 49 #[.pointer (some ⟨R,0,none⟩),.int .i64 (n:Int)] w fun e w'=>(∃ x:Nat,e=.returned (.int .i64 (x:Int))∧x < n)∧Rd w' R ad len cap∧Only R w w':=by
 by_cases hn:n=1
 ·subst hn;exact (Hz R w 1 (by omega)).mono fun e w' ⟨he,hw⟩=>⟨⟨0,by rw [he]; rfl,by omega⟩,by rw [hw]; exact h,by rw [hw]; exact Only.refl _ _⟩
 exact (bW R ad len cap n w h (by omega) (by omega)).mono fun e w' ⟨⟨x,he,h0,h3⟩,hR,hO⟩=>⟨⟨x.toNat,by rw [he,Int.toNat_of_nonneg h0],by omega⟩,hR,hO⟩
def rU (w:World) (R g n m:Nat):Prop:=g ≠ R∧g < w.heap.size∧∀ o,o < n→∃ s:ByteArray,w.cell? ⟨g,o,none⟩=some (.string s)∧s.size≤m
theorem rU.only {w w':af} {R g n m:Nat} (h:rU w R g n m) (k:Only R w w'):rU w' R g n m :=
 ⟨h.1,TP h.2.1 k.size,fun o ho=>by obtain ⟨s,e,hs⟩:=h.2.2 o ho; exact ⟨s,by rw [k.cell h.2.1 h.1]; exact e,hs⟩⟩
theorem lT (w:af) (R m:Nat) (hR:R < w.heap.size) {t:TypeId} {xs:List ByteArray} (h:xs.all (fun x=>decide (x.size≤m))=true):rU (w.alloc (.cells (xs.map Value.string).toArray t)) R w.heap.size xs.length m:=by
 refine ⟨by omega,by simp,fun o ho=>⟨xs[o],?_,?_⟩⟩
 ·have:=World.cell?_alloc_mark w (xs.map Value.string).toArray t (0,0) o;rw [this]; simp [ho]
 have:=Ub.1 h _ (TQ ho);simpa using this
def tB:Nat→Nat
 | 0=>14
 | d + 1=>3 * tB d + 8
theorem rZ (R:Nat) (ad:Option Addr) (len cap:Nat) (d:Int) (w:af) (h:Rd w R ad len cap) :
  Calls prog 123 #[.pointer (some ⟨R,0,none⟩),.int .i64 d,.bool true] w fun e w'=>(∃ t:ByteArray,e=.returned (.string t)∧t.size≤24)∧Rd w' R ad len cap∧Only R w w':=by
 have Xo:=h.lt;have Zc:=jK h;obtain ⟨xs,hxs⟩:∃ xs:List ByteArray,xs=[⟨#[116,104,105,115,40,117,115,101,114,41]⟩,⟨#[116,104,105,115,40,117,115,101,114,44,103,114,111,117,112,35,109,101,109,98,101,114,41]⟩,⟨#[116,104,105,115,40,117,115,101,114,44,100,111,99,35,101,100,105,116,111,114,41]⟩]:=⟨_,rfl⟩;obtain ⟨W0,hW0⟩:∃ W0,W0=w.alloc (.cells (xs.map Value.string).toArray 9):=⟨_,rfl⟩;have Xj:Hid (rU W0 R w.heap.size 3 24):=by
  show rU _ _ _ _ _;rw [hW0];have:=lT w R 24 Xo (t:=9) (xs:=xs) (by rw [hxs]; decide);rwa [show xs.length=3 by rw [hxs]; rfl] at this
 have VD:Hid (Rd W0 R ad len cap):=by show Rd _ _ _ _ _; rw [hW0]; exact h.alloc _
 have V7:Hid (Only R w W0):=by show Only _ _ _; rw [hW0]; exact (Only.refl _ _).alloc _
 have hW1:W0=w.alloc (.cells #[.string ⟨#[116,104,105,115,40,117,115,101,114,41]⟩,.string ⟨#[116,104,105,115,40,117,115,101,114,44,103,114,111,117,112,35,109,101,109,98,101,114,41]⟩,.string ⟨#[116,104,105,115,40,117,115,101,114,44,100,111,99,35,101,100,105,116,111,114,41]⟩] 9):=by rw [hW0,hxs]; rfl
 clear h hW0 hxs;go_enter func123,ntmps123;go_wp2_with fail;rw [← hW1]; clear hW1;refine (fQ R ad len cap 3 _ VD.out (by omega) (by omega)).mono ?_;rintro e w1 ⟨⟨x,rfl,hx⟩,U5,UX⟩;obtain ⟨-,hlt,hcells⟩:=Xj.out.only UX;obtain ⟨t,ht,hts⟩:=hcells x hx;have HR1:=jK U5;have UV:Hid (Only R w w1):=V7.out.trans UX;have hx0:=bB x;have hx1:(x:Int) < 3:=by omega
 clear U5 UX hcells Xj VD V7;go_wp2;go_ret;exact ⟨⟨t,rfl,hts⟩,HR1.out,UV.out⟩
theorem DX (R:Nat) (ad:Option Addr) (len cap:Nat):∀ (d:Nat) (w:af),d≤2→Rd w R ad len cap →
  Calls prog 123 #[.pointer (some ⟨R,0,none⟩),.int .i64 (d:Int),.bool false] w fun e w'=>(∃ t:ByteArray,e=.returned (.string t)∧t.size≤tB d)∧Rd w' R ad len cap∧Only R w w':=by
 intro d
 induction d with
 | zero =>
  intro w _ h;have Xo:=h.lt;have hz:(0:Nat)≤256:=by omega
  obtain ⟨xs,hxs⟩:∃ xs:List ByteArray,xs=[⟨#[101,100,105,116,111,114]⟩,⟨#[118,105,101,119,101,114]⟩,⟨#[98,97,110,110,101,100]⟩,⟨#[112,97,114,101,110,116,45,62,118,105,101,119,101,114]⟩,⟨#[112,97,114,101,110,116,45,62,101,100,105,116,111,114]⟩,⟨#[111,119,110,101,114]⟩,⟨#[112,97,114,101,110,116,45,62,111,119,110,101,114]⟩]:=⟨_,rfl⟩;obtain ⟨W0,hW0⟩:∃ W0,W0=w.alloc (.cells (xs.map Value.string).toArray 9):=⟨_,rfl⟩;have Xj:Hid (rU W0 R w.heap.size 7 14):=by
   show rU _ _ _ _ _;rw [hW0];have:=lT w R 14 Xo (t:=9) (xs:=xs) (by rw [hxs]; decide);rwa [show xs.length=7 by rw [hxs]; rfl] at this
  have VD:Hid (Rd W0 R ad len cap):=by show Rd _ _ _ _ _; rw [hW0]; exact h.alloc _
  have V7:Hid (Only R w W0):=by show Only _ _ _; rw [hW0]; exact (Only.refl _ _).alloc _
  have hW1:W0=w.alloc (.cells #[.string ⟨#[101,100,105,116,111,114]⟩,.string ⟨#[118,105,101,119,101,114]⟩,.string ⟨#[98,97,110,110,101,100]⟩,.string ⟨#[112,97,114,101,110,116,45,62,118,105,101,119,101,114]⟩,.string ⟨#[112,97,114,101,110,116,45,62,101,100,105,116,111,114]⟩,.string ⟨#[111,119,110,101,114]⟩,.string ⟨#[112,97,114,101,110,116,45,62,111,119,110,101,114]⟩] 9):=by rw [hW0,hxs]; rfl
  clear h hW0 hxs;go_enter func123,ntmps123;go_wp2_with fail;rw [← hW1]; clear hW1;refine (fQ R ad len cap 7 _ VD.out (by omega) (by omega)).mono ?_;rintro e w1 ⟨⟨x,rfl,hx⟩,U5,UX⟩;obtain ⟨-,hlt,hcells⟩:=Xj.out.only UX;obtain ⟨t,ht,hts⟩:=hcells x hx;have HR1:=jK U5;have UV:Hid (Only R w w1):=V7.out.trans UX;have hx0:=bB x;have hx1:(x:Int) < 7:=by omega
  clear U5 UX hcells Xj VD V7;go_wp2;go_ret;exact ⟨⟨t,rfl,hts⟩,HR1.out,UV.out⟩
 | succ d ih =>
  intro w hd h;have Xo:=h.lt;have IH:=jK ih;have hd0:(((d + 1:Nat):Int) == 0)=false:=by simp; omega
  have hdm:((d + 1:Nat):Int) - 1=(d:Int):=by omega
  have HTB:Hid (tB (d + 1)=3 * tB d + 8):=rfl;have hb0:tB d≤82:=by
   have:d=0 ∨ d=1:=by omega
   rcases this with rfl | rfl <;> decide
  obtain ⟨bd,hbd⟩:∃ bd,bd=tB d:=⟨_,rfl⟩;rw [← hbd] at hb0 HTB;have HBD:=jK hbd;clear ih hbd;go_enter func123,ntmps123;go_wp2_with fail;refine (iN R ad len cap 2 _ h (by omega) (by omega)).mono ?_;rintro e w1 ⟨⟨q,rfl⟩,U5,UX⟩;have HR1:=jK U5;have UV:=jK UX;have hRw1:R < w1.heap.size:=U5.lt;clear U5 UX h;cases q;case true=>
   obtain ⟨xs,hxs⟩:∃ xs:List ByteArray,xs=[⟨#[101,100,105,116,111,114]⟩,⟨#[118,105,101,119,101,114]⟩,⟨#[98,97,110,110,101,100]⟩,⟨#[112,97,114,101,110,116,45,62,118,105,101,119,101,114]⟩,⟨#[112,97,114,101,110,116,45,62,101,100,105,116,111,114]⟩,⟨#[111,119,110,101,114]⟩,⟨#[112,97,114,101,110,116,45,62,111,119,110,101,114]⟩]:=⟨_,rfl⟩;obtain ⟨W0,hW0⟩:∃ W0,W0=w1.alloc (.cells (xs.map Value.string).toArray 9):=⟨_,rfl⟩;have Xj:Hid (rU W0 R w1.heap.size 7 14):=by
    show rU _ _ _ _ _;rw [hW0];have:=lT w1 R 14 hRw1 (t:=9) (xs:=xs) (by rw [hxs]; decide);rwa [show xs.length=7 by rw [hxs]; rfl] at this
   have VD:Hid (Rd W0 R ad len cap):=by show Rd _ _ _ _ _; rw [hW0]; exact HR1.out.alloc _
   have V7:Hid (Only R w W0):=by show Only _ _ _; rw [hW0]; exact UV.out.alloc _
   have hW1:W0=w1.alloc (.cells #[.string ⟨#[101,100,105,116,111,114]⟩,.string ⟨#[118,105,101,119,101,114]⟩,.string ⟨#[98,97,110,110,101,100]⟩,.string ⟨#[112,97,114,101,110,116,45,62,118,105,101,119,101,114]⟩,.string ⟨#[112,97,114,101,110,116,45,62,101,100,105,116,111,114]⟩,.string ⟨#[111,119,110,101,114]⟩,.string ⟨#[112,97,114,101,110,116,45,62,111,119,110,101,114]⟩] 9):=by rw [hW0,hxs]; rfl
   clear hW0 hxs HR1 UV;go_wp2_with fail;rw [← hW1]; clear hW1;refine (fQ R ad len cap 7 _ VD.out (by omega) (by omega)).mono ?_;rintro e w2 ⟨⟨x,rfl,hx⟩,hR2,hO2⟩;obtain ⟨-,hlt,hcells⟩:=Xj.out.only hO2;obtain ⟨t,ht,hts⟩:=hcells x hx;have HR2:=jK hR2;have UB:Hid (Only R w w2):=V7.out.trans hO2;have hx0:=bB x;have hx1:(x:Int) < 7:=by omega
   have hfin:t.size≤tB (d + 1):=by rw [HTB.out,HBD.out]; cases d <;> simp [tB] <;> omega
   have U7:=jK hfin;clear hR2 hO2 hcells Xj VD V7 hfin;go_wp2;go_ret;exact ⟨⟨t,rfl,U7.out⟩,HR2.out,UB.out⟩
  obtain ⟨xs,hxs⟩:∃ xs:List ByteArray,xs=[⟨#[32,124,32]⟩,⟨#[32,38,32]⟩,⟨#[32,45,32]⟩,⟨#[32,124,32]⟩]:=⟨_,rfl⟩;obtain ⟨W0,hW0⟩:∃ W0,W0=w1.alloc (.cells (xs.map Value.string).toArray 9):=⟨_,rfl⟩;have Xj:Hid (rU W0 R w1.heap.size 4 3):=by
   show rU _ _ _ _ _;rw [hW0];have:=lT w1 R 3 hRw1 (t:=9) (xs:=xs) (by rw [hxs]; decide);rwa [show xs.length=4 by rw [hxs]; rfl] at this
  have VD:Hid (Rd W0 R ad len cap):=by show Rd _ _ _ _ _; rw [hW0]; exact HR1.out.alloc _
  have V7:Hid (Only R w W0):=by show Only _ _ _; rw [hW0]; exact UV.out.alloc _
  have hW1:W0=w1.alloc (.cells #[.string ⟨#[32,124,32]⟩,.string ⟨#[32,38,32]⟩,.string ⟨#[32,45,32]⟩,.string ⟨#[32,124,32]⟩] 9):=by rw [hW0,hxs]; rfl
  clear hW0 hxs HR1 UV;go_wp2_with fail;rw [← hW1]; clear hW1;refine (fQ R ad len cap 4 _ VD.out (by omega) (by omega)).mono ?_;rintro e w2 ⟨⟨x,rfl,hx⟩,hR2,hO2⟩;obtain ⟨-,hlt,hcells⟩:=Xj.out.only hO2;obtain ⟨op,hop,hops⟩:=hcells x hx;have HR2:=jK hR2;have UB:Hid (Only R w w2):=V7.out.trans hO2;have hx0:=bB x;have hx1:(x:Int) < 4:=by omega
  clear hR2 hO2 hcells Xj VD V7;go_wp2_with fail;refine (IH.out w2 (by omega) HR2.out).mono ?_;rintro e w3 ⟨⟨t1,rfl,ht1⟩,Wt,hO3⟩;rw [← HBD.out] at ht1;have HR3:=jK Wt;have UY:Hid (Only R w w3):=UB.out.trans hO3;clear Wt hO3 HR2 UB hop hlt;go_wp2_with fail;refine (IH.out w3 (by omega) HR3.out).mono ?_;rintro e w4 ⟨⟨t2,rfl,ht2⟩,Xp,hO4⟩;rw [← HBD.out] at ht2;have HR4:=jK Xp;have UT:Hid (Only R w w4):=UY.out.trans hO4;clear Xp hO4 HR3 UY;have e1:(⟨#[40]⟩:ByteArray).size=1:=rfl;have e2:(⟨#[41]⟩:ByteArray).size=1:=rfl;cases hm:op.toList == [32,45,32];case true=>
   have hm2:(!op.toList == [32,45,32])=false:=by rw [hm]; rfl
   have U7:Hid ((((((⟨#[40]⟩:ByteArray) ++ t1) ++ op) ++ t2) ++ ⟨#[41]⟩).size≤tB (d + 1)):=by show _≤_; rw [HTB.out]; simp only [Uh,e1,e2]; omega
   go_wp2_with fail;go_ret;exact ⟨⟨_,rfl,U7.out⟩,HR4.out,UT.out⟩
  have hm2:(!op.toList == [32,45,32])=true:=by rw [hm]; rfl
  go_wp2_with fail;refine (iN R ad len cap 3 _ HR4.out (by omega) (by omega)).mono ?_;rintro e w5 ⟨⟨q,rfl⟩,UW,UZ⟩;have UU:=jK UW;have UK:Hid (Only R w w5):=UT.out.trans UZ;clear UW UZ HR4 UT;cases q;case false=>
   have U7:Hid ((((((⟨#[40]⟩:ByteArray) ++ t1) ++ op) ++ t2) ++ ⟨#[41]⟩).size≤tB (d + 1)):=by show _≤_; rw [HTB.out]; simp only [Uh,e1,e2]; omega
   go_wp2_with fail;go_ret;exact ⟨⟨_,rfl,U7.out⟩,UU.out,UK.out⟩
  go_wp2_with fail;refine (IH.out w5 (by omega) UU.out).mono ?_;rintro e w6 ⟨⟨t3,rfl,ht3⟩,hR6,WW⟩;rw [← HBD.out] at ht3;have We:=jK hR6;have Vj:Hid (Only R w w6):=UK.out.trans WW;clear hR6 WW UU UK;have U7:Hid ((((((((⟨#[40]⟩:ByteArray) ++ t1) ++ op) ++ t2) ++ op) ++ t3) ++ ⟨#[41]⟩).size≤tB (d + 1)):=by show _≤_; rw [HTB.out]; simp only [Uh,e1,e2]; omega
  go_wp2_with fail;go_ret;exact ⟨⟨_,rfl,U7.out⟩,We.out,Vj.out⟩
theorem Fu (R:Nat) (ad:Option Addr) (len cap d:Nat) (w:af) (hd:d≤2) (h:Rd w R ad len cap) :
  Calls prog 83 #[.pointer (some ⟨R,0,none⟩),.int .i64 (d:Int)] w fun e w'=>(∃ t:ByteArray,e=.returned (.string t)∧t.size≤190)∧Rd w' R ad len cap∧Only R w w':=by
 have Xo:=h.lt;have hb0:tB d≤158:=by
  have:d=0 ∨ d=1 ∨ d=2:=by omega
  rcases this with rfl | rfl | rfl <;> decide
 obtain ⟨xs,hxs⟩:∃ xs:List ByteArray,xs=[⟨#[32,124,32]⟩,⟨#[32,38,32]⟩,⟨#[32,45,32]⟩,⟨#[32,124,32]⟩]:=⟨_,rfl⟩;obtain ⟨W0,hW0⟩:∃ W0,W0=w.alloc (.cells (xs.map Value.string).toArray 9):=⟨_,rfl⟩;have Xj:Hid (rU W0 R w.heap.size 4 3):=by
  show rU _ _ _ _ _;rw [hW0];have:=lT w R 3 Xo (t:=9) (xs:=xs) (by rw [hxs]; decide);rwa [show xs.length=4 by rw [hxs]; rfl] at this
 have VD:Hid (Rd W0 R ad len cap):=by show Rd _ _ _ _ _; rw [hW0]; exact h.alloc _
 have V7:Hid (Only R w W0):=by show Only _ _ _; rw [hW0]; exact (Only.refl _ _).alloc _
 have hW1:W0=w.alloc (.cells #[.string ⟨#[32,124,32]⟩,.string ⟨#[32,38,32]⟩,.string ⟨#[32,45,32]⟩,.string ⟨#[32,124,32]⟩] 9):=by rw [hW0,hxs]; rfl
 clear h hW0 hxs;go_enter func83,ntmps83;go_wp2_with fail;rw [← hW1]; clear hW1;refine (fQ R ad len cap 4 _ VD.out (by omega) (by omega)).mono ?_;rintro e w2 ⟨⟨x,rfl,hx⟩,hR2,hO2⟩;obtain ⟨-,hlt,hcells⟩:=Xj.out.only hO2;obtain ⟨op,hop,hops⟩:=hcells x hx;have HR2:=jK hR2;have UB:Hid (Only R w w2):=V7.out.trans hO2;have hx0:=bB x;have hx1:(x:Int) < 4:=by omega
 clear hR2 hO2 hcells Xj VD V7;go_wp2_with fail;refine (iN R ad len cap 3 _ HR2.out (by omega) (by omega)).mono ?_;rintro e w3 ⟨⟨q,rfl⟩,Wt,hO3⟩;have HR3:=jK Wt;have UY:Hid (Only R w w3):=UB.out.trans hO3;clear Wt hO3 HR2 UB hop hlt;cases q;case true=>
  go_wp2_with fail;refine (rZ R ad len cap 0 _ HR3.out).mono ?_;rintro e w4 ⟨⟨t1,rfl,ht1⟩,Xp,hO4⟩;have HR4:=jK Xp;have UT:Hid (Only R w w4):=UY.out.trans hO4;clear Xp hO4;go_wp2;go_ret;exact ⟨⟨t1,rfl,by omega⟩,HR4.out,UT.out⟩
 go_wp2_with fail;refine (rZ R ad len cap 0 _ HR3.out).mono ?_;rintro e w4 ⟨⟨t1,rfl,ht1⟩,Xp,hO4⟩;have HR4:=jK Xp;have UT:Hid (Only R w w4):=UY.out.trans hO4;clear Xp hO4;go_wp2_with fail;refine (DX R ad len cap d _ hd HR4.out).mono ?_;rintro e w5 ⟨⟨t2,rfl,ht2⟩,UW,UZ⟩;have UU:=jK UW;have UK:Hid (Only R w w5):=UT.out.trans UZ;have hf:t2.size≤158:=by omega
 have U7:Hid (((t1 ++ op) ++ t2).size≤190):=by show _≤_; simp only [Uh]; omega
 clear UW UZ ht2 hb0;go_wp2;go_ret;exact ⟨⟨_,rfl,U7.out⟩,UU.out,UK.out⟩
theorem pY (R:Nat) (ad:Option Addr) (len cap d:Nat) (w:af) (hd:d≤2) (h:Rd w R ad len cap) :
  Calls prog 83 #[.pointer (some ⟨R,0,none⟩),.int .i64 (d:Int)] w fun e w'=>(∃ t:ByteArray,e=.returned (.string t)∧t.size≤300)∧Rd w' R ad len cap∧Only R w w' :=
 (Fu R ad len cap d w hd h).mono fun e w' ⟨⟨t,h1,h2⟩,h3⟩=>⟨⟨t,h1,by omega⟩,h3⟩
end Go.Proofs.YtajkkeikihhejaaGreat
