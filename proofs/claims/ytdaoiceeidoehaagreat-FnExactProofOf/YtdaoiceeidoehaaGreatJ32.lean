/- What the program's rules say of facts that are known: each kind's own function, through the interface. -/
import Derived.Test.YtdaoiceeidoehaaGreatJ31
open Go.Proofs.Tryz
set_option maxHeartbeats 80000000
namespace Go.Proofs.YtdaoiceeidoehaaGreat
set_option linter.unusedVariables false
set_option maxRecDepth 100000
open Go.ChangeShapes Go.WideShapes Go.ChangeAt Go.RowKit Go.Maps
open Pl
structure KnF (w:World) (FC:Nat) (rc cp:Array Value) (K:Fc→Bool):Prop where
 run:∀ (ys:Array Value) (u:World),(callFunc FC ys).run prog u=.ok (.enter FC ys) u
 says:∀ x:Fc,x.fits→∀ w1:World,Below w.heap.size w w1→Calls prog FC (rc.push (.agg #[.string x.a,.string x.b,.string x.r,.string x.c,.string x.d]) ++ cp) w1 fun e w'=>e=.returned (.bool (K x))∧Below w1.heap.size w1 w'
theorem KnF.below {w w':World} {FC:Nat} {rc cp:Array Value} {K:Fc→Bool} (h:KnF w FC rc cp K) (hb:Below w.heap.size w w'):KnF w' FC rc cp K :=
 ⟨h.run,fun x hx w1 h1=>h.says x hx w1 (hb.trans (h1.mono hb.size))⟩
theorem BG {ps:List Bool} {k:Nat} (h:k < ps.length):(ps.drop k).any id=(ps[k] || (ps.drop (k + 1)).any id):=by rw [Sr h]; rfl
theorem Im (FC:Nat) (rc cp:Array Value) (ps:List Bool) (ad:Option Addr) (cap:Nat) (w:World) (hlen:ps.length≤1000)
  (hrun:∀ (ys:Array Value) (u:World),(callFunc FC ys).run prog u=.ok (.enter FC ys) u)
  (hs:ps=[] ∨ ∃ g,ad=some ⟨g,0,none⟩∧g < w.heap.size∧∀ (i:Nat) (h:i < ps.length),∃ u,w.cell? ⟨g,i,none⟩=some u∧∀ w1:World,Below w.heap.size w w1→Calls prog FC (rc.push u ++ cp) w1 fun e w'=>e=.returned (.bool ps[i])∧Below w1.heap.size w1 w') :
  Calls prog 202 #[.slice ad ps.length cap,.func (Fn.func FC) rc cp] w fun e w'=>(∃ r:Int,e=.returned (.int .i64 r)∧decide (0≤r)=ps.any id)∧Below w.heap.size w w':=by
 have HS:=ag hs;have Ux:=ag hrun;clear hs hrun;have HD:Hid (∀ k (h:k < ps.length),(ps.drop k).any id=(ps[k] || (ps.drop (k + 1)).any id)):=fun k h=>BG h;go_enter func202,ntmps202;go_wp2_with fail;go_loopw [8] (fun i wr=>∃ k:Nat,k≤ps.length∧i=.int .i64 k∧Hid ((ps.drop k).any id=ps.any id)∧Hid (Below w.heap.size w wr)) (fun i _=>ps.length - (intOf i).toNat);case atStart=>exact ⟨0,R6 _,rfl,rfl,R3 _ _⟩
 case round =>
  obtain ⟨k,hk,rfl,HQ,HB⟩:=hrel;by_cases hlt:k < ps.length
  ·rcases HS.out with hnil | ⟨g,SL,hg,hrow⟩
   ·rw [hnil] at hlt; simp at hlt
   obtain ⟨u,hu,hcall⟩:=hrow k hlt;have HC:=ag (hcall wr HB.out);have t0:=aA HB.out hg hu;have hk1:=bn k;have hk2:(k:Int) < (ps.length:Int):=by omega
   have HD2:=ag (HD.out k hlt);subst SL;clear hrow hu hcall;go_wp2_with fail;rw [Ux.out,Oper.upon_enter];refine HC.out.mono ?_;rintro e w1 ⟨rfl,hb1⟩;have HB1:=gY HB hb1;clear hb1 t0;cases he:ps[k] with
   | true =>
    have HN:Hid (ps.any id=true):=by show _=_; rw [← HQ.out,HD2.out,he]; rfl
    go_wp2;go_ret;exact ⟨⟨k,rfl,by rw [HN.out]; simp⟩,HB1.out⟩
   | false =>
    have XR:Hid ((ps.drop (k + 1)).any id=ps.any id):=by show _=_; rw [← HQ.out,HD2.out,he]; rfl
    go_wp2;go_roundw;case rel=>exact ⟨k + 1,by omega,by go_num,XR,HB1⟩
    case measure=>simp [intOf] <;> omega
  ·have HN:Hid (ps.any id=false):=by show _=_; rw [← HQ.out,List.drop_of_length_le (by omega)]; rfl
   go_wp2;go_ret;exact ⟨⟨-1,rfl,by rw [HN.out]; simp⟩,HB.out⟩
theorem qo (FC:Nat) (rc cp:Array Value) (ps:List Bool) (ad:Option Addr) (cap:Nat) (w:World) (hlen:ps.length≤1000)
  (hrun:∀ (ys:Array Value) (u:World),(callFunc FC ys).run prog u=.ok (.enter FC ys) u)
  (hs:ps=[] ∨ ∃ g,ad=some ⟨g,0,none⟩∧g < w.heap.size∧∀ (i:Nat) (h:i < ps.length),∃ u,w.cell? ⟨g,i,none⟩=some u∧∀ w1:World,Below w.heap.size w w1→Calls prog FC (rc.push u ++ cp) w1 fun e w'=>e=.returned (.bool ps[i])∧Below w1.heap.size w1 w') :
  Calls prog 200 #[.slice ad ps.length cap,.func (Fn.func FC) rc cp] w fun e w'=>e=.returned (.bool (ps.any id))∧Below w.heap.size w w':=by
 have HC:=ag (Im FC rc cp ps ad cap w hlen hrun hs);clear hs hrun;go_enter func200,ntmps200;go_wp2_with fail;refine HC.out.mono ?_;rintro e w' ⟨⟨r,rfl,hr⟩,hbx⟩;have HR:=ag hr;clear hr;go_wp2;go_ret;exact ⟨by rw [← HR.out]; rfl,hbx⟩
theorem Fz (b:Bool) (fv:Value) (w:World) :
  Calls prog 197 #[.agg #[.bool b],fv] w fun e w'=>e=.returned (.bool b)∧Below w.heap.size w w':=by
 have HB:Hid (Below w.heap.size w (w.alloc (.cells #[.bool b] 132))):=(R3 _ _).alloc (R4 _) _;go_enter func197,ntmps197;go_wp2;go_ret;exact ⟨rfl,HB.out⟩
theorem PD {FC:Nat} {rc cp:Array Value} {K:Fc→Bool} {ad:Option Addr} {cap:Nat} {fs:List Fc} {w:World} (hK:KnF w FC rc cp K) (hl:fs.length≤1000) (hs:gX w ad fs) (hf:∀ x ∈ fs,x.fits) :
  Calls prog 198 #[.agg #[.slice ad fs.length cap],.func (Fn.func FC) rc cp] w fun e w'=>e=.returned (.bool (fs.any K))∧Below w.heap.size w w':=by
 obtain ⟨W0,hW0⟩:∃ W0,W0=w.alloc (.cells #[.slice ad fs.length cap] 185):=⟨_,rfl⟩;have HB0:=pu hW0;have HC:=ag (oW FC rc cp K ad cap fs W0 (by omega) (hs.below HB0.out) hK.run (fun x hx w1 hb=>hK.says x (hf x hx) w1 (HB0.out.trans (hb.mono HB0.out.size))));clear hK hs hf;go_enter func198,ntmps198;go_wp2_with fail;rw [← hW0];clear hW0;refine HC.out.mono ?_;rintro e w1 ⟨rfl,hb1⟩;have HB1:=gY HB0 hb1;clear hb1;go_wp2;go_ret;exact ⟨rfl,HB1.out⟩
def Io (T:TypeId):Nat:=if T=132 then 197 else if T=185 then 198 else if T=190 then 199 else 203
def Ip (w:World) (FC:Nat) (rc cp:Array Value) (u:Value) (b:Bool):Prop :=
 ∃ (T:TypeId) (a:Value),u=.iface T a∧(T=132∧(∃ c,a=.agg #[.bool c]) ∨ (T=185 ∨ T=190 ∨ T=191)∧∃ ad n cap,a=.agg #[.slice ad n cap])∧∀ w1:World,Below w.heap.size w w1→Calls prog (Io T) #[a,.func (Fn.func FC) rc cp] w1 fun e w'=>e=.returned (.bool b)∧Below w1.heap.size w1 w'
theorem zl {T : TypeId} {a : Value} (h : T = 132 ∧ (∃ c, a = .agg #[.bool c]) ∨ (T = 185 ∨ T = 190 ∨ T = 191) ∧ ∃ ad n cap, a = .agg #[.slice ad n cap]) (m : Nat) (w : World) : (method (m + 1) T a "loop.example/g00297/impl.follows").run Tryz.prog w = .ok (Io T, a) w := by
 rcases h with ⟨rfl,c,rfl⟩ | ⟨rfl | rfl | rfl,ad,n,cap,rfl⟩ <;> kernel_rfl
theorem NJ {T : TypeId} {a : Value} (h : T = 132 ∧ (∃ c, a = .agg #[.bool c]) ∨ (T = 185 ∨ T = 190 ∨ T = 191) ∧ ∃ ad n cap, a = .agg #[.slice ad n cap]) (m : Nat) (w : World) : (nilAhead (m + 1) T a "loop.example/g00297/impl.follows").run Tryz.prog w = .ok (some false) w := by
 rcases h with ⟨rfl,c,rfl⟩ | ⟨rfl | rfl | rfl,ad,n,cap,rfl⟩ <;> kernel_rfl
def Qd (T:TypeId) (a:Value):Prop:=T=132∧(∃ c,a=.agg #[.bool c]) ∨ (T=185 ∨ T=190 ∨ T=191)∧∃ ad n cap,a=.agg #[.slice ad n cap]
theorem Df {T:TypeId} {a:Value} (h:Qd T a) (ys:Array Value) (u:World):(callFunc (Io T) ys).run prog u=.ok (.enter (Io T) ys) u:=by
 rcases h with ⟨rfl,-⟩ | ⟨rfl | rfl | rfl,-⟩ <;> kernel_rfl
theorem NK {w:World} {FC:Nat} {rc cp:Array Value} {u:Value} {b:Bool} (h:Ip w FC rc cp u b) {w1:World} (hb:Below w.heap.size w w1) {g:Nat} (hc:w1.cell? ⟨g,0,none⟩=some (.func (Fn.func FC) rc cp)) :
  Calls prog 201 #[u,.pointer (some ⟨g,0,none⟩)] w1 fun e w'=>e=.returned (.bool b)∧Below w1.heap.size w1 w':=by
 obtain ⟨T,a,rfl,hk,hcall⟩:=h;have hm : ∀ (m : Nat) (x : World), (method (m + 1) T a "loop.example/g00297/impl.follows").run Tryz.prog x = .ok (Io T, a) x := fun m x => zl hk m x;have Ux:=ag (Df hk);have HC:=ag (hcall w1 hb);clear hk hcall hb;go_enter func201,ntmps201;go_wp2_with fail;rw [Ux.out,Oper.upon_enter];refine HC.out.mono ?_;rintro e w2 ⟨rfl,hb2⟩;have HB2:=ag hb2;clear hb2 hc hm;go_wp2;go_ret;exact ⟨rfl,HB2.out⟩
theorem KP {w:World} {FC:Nat} {rc cp:Array Value} {u:Value} {b:Bool} (h:Ip w FC rc cp u b) {w1:World} (hb:Below w.heap.size w w1) {g:Nat} (hc:w1.cell? ⟨g,0,none⟩=some (.func (Fn.func FC) rc cp)) :
  Calls prog 204 #[u,.pointer (some ⟨g,0,none⟩)] w1 fun e w'=>e=.returned (.bool (!b))∧Below w1.heap.size w1 w':=by
 obtain ⟨T,a,rfl,hk,hcall⟩:=h;have hm : ∀ (m : Nat) (x : World), (method (m + 1) T a "loop.example/g00297/impl.follows").run Tryz.prog x = .ok (Io T, a) x := fun m x => zl hk m x;have Ux:=ag (Df hk);have HC:=ag (hcall w1 hb);clear hk hcall hb;go_enter func204,ntmps204;go_wp2_with fail;rw [Ux.out,Oper.upon_enter];refine HC.out.mono ?_;rintro e w2 ⟨rfl,hb2⟩;have HB2:=ag hb2;clear hb2 hc hm;go_wp2;go_ret;exact ⟨rfl,HB2.out⟩
theorem QH (xs:Array Value) (u:World):(callFunc 201 xs).run prog u=.ok (.enter 201 xs) u:=by kernel_rfl
theorem QI (xs:Array Value) (u:World):(callFunc 204 xs).run prog u=.ok (.enter 204 xs) u:=by kernel_rfl
def QJ (w:World) (FC:Nat) (rc cp:Array Value) (ad:Option Addr) (bs:List Bool):Prop:=bs=[] ∨ ∃ g,ad=some ⟨g,0,none⟩∧g < w.heap.size∧∀ (i:Nat) (h:i < bs.length),∃ u,w.cell? ⟨g,i,none⟩=some u∧Ip w FC rc cp u bs[i]
theorem NL {w:World} {FC:Nat} {rc cp:Array Value} {ad:Option Addr} {bs:List Bool} (cap:Nat) (hl:bs.length≤1000) (hs:QJ w FC rc cp ad bs) (w1:World) (hb:Below w.heap.size w w1) :
  Calls prog 199 #[.agg #[.slice ad bs.length cap],.func (Fn.func FC) rc cp] w1 fun e w'=>e=.returned (.bool (bs.any id))∧Below w1.heap.size w1 w':=by
 obtain ⟨W0,hW0⟩:∃ W0,W0=(w1.alloc (.cells #[.slice ad bs.length cap] 190)).alloc (.cells #[.func (Fn.func FC) rc cp] 65):=⟨_,rfl⟩;have HB0:Hid (Below w1.heap.size w1 W0):=by show Below _ _ _; rw [hW0]; exact ((R3 _ _).alloc (R4 _) _).alloc (by simp) _
 have c0:W0.cell? ⟨w1.heap.size + 1,0,none⟩=some (.func (Fn.func FC) rc cp):=by rw [hW0]; simp
 have cl:=ay c0;have S9:Hid (Below w.heap.size w W0):=hb.trans (HB0.out.mono hb.size);have HC:=ag (qo 201 #[] #[.pointer (some ⟨w1.heap.size + 1,0,none⟩)] bs ad cap W0 (by simpa using hl) QH (by
  rcases hs with h | ⟨g,e,h1,h2⟩
  ·exact .inl (by first | exact h | (rw [h]; rfl))
  ·refine .inr ⟨g,e,RZ h1 S9.out.size,fun i hi=>?_⟩;obtain ⟨u,hu,hf⟩:=h2 i (by simpa using hi);refine ⟨u,aA S9.out h1 hu,fun w2 hb2=>?_⟩;have h:=NK hf (S9.out.trans (hb2.mono S9.out.size)) (aA hb2 cl c0);simpa using h))
 clear hs hb;go_enter func199,ntmps199;go_wp2_with fail;rw [← hW0];clear hW0 c0 cl;refine HC.out.mono ?_;rintro e w2 ⟨rfl,hb2⟩;have HB2:=gY HB0 hb2;clear hb2;go_wp2;go_ret;exact ⟨rfl,HB2.out⟩
theorem NM {w:World} {FC:Nat} {rc cp:Array Value} {ad:Option Addr} {bs:List Bool} (cap:Nat) (hl:bs.length≤1000) (hs:QJ w FC rc cp ad bs) (w1:World) (hb:Below w.heap.size w w1) :
  Calls prog 203 #[.agg #[.slice ad bs.length cap],.func (Fn.func FC) rc cp] w1 fun e w'=>e=.returned (.bool (bs.all id))∧Below w1.heap.size w1 w':=by
 obtain ⟨W0,hW0⟩:∃ W0,W0=(w1.alloc (.cells #[.slice ad bs.length cap] 191)).alloc (.cells #[.func (Fn.func FC) rc cp] 65):=⟨_,rfl⟩;have HB0:Hid (Below w1.heap.size w1 W0):=by show Below _ _ _; rw [hW0]; exact ((R3 _ _).alloc (R4 _) _).alloc (by simp) _
 have c0:W0.cell? ⟨w1.heap.size + 1,0,none⟩=some (.func (Fn.func FC) rc cp):=by rw [hW0]; simp
 have cl:=ay c0;have S9:Hid (Below w.heap.size w W0):=hb.trans (HB0.out.mono hb.size);have HC:=ag (qo 204 #[] #[.pointer (some ⟨w1.heap.size + 1,0,none⟩)] (bs.map (!·)) ad cap W0 (by simpa using hl) QI (by
  rcases hs with h | ⟨g,e,h1,h2⟩
  ·exact .inl (by first | exact h | (rw [h]; rfl))
  ·refine .inr ⟨g,e,RZ h1 S9.out.size,fun i hi=>?_⟩;obtain ⟨u,hu,hf⟩:=h2 i (by simpa using hi);refine ⟨u,aA S9.out h1 hu,fun w2 hb2=>?_⟩;have h:=KP hf (S9.out.trans (hb2.mono S9.out.size)) (aA hb2 cl c0);simpa using h))
 have hlm:(bs.map (!·)).length=bs.length:=Sv _;rw [hlm] at HC;have HE:Hid ((bs.map (!·)).any id=!(bs.all id)):=by
  show _=_;clear HC hs hl hlm hW0 c0 cl S9 HB0
  induction bs with
  | nil=>rfl
  | cons b bs ih=>rw [List.map_cons,List.any_cons,ih,List.all_cons]; cases b <;> simp
 clear hs hb;go_enter func203,ntmps203;go_wp2_with fail;rw [← hW0];clear hW0 c0 cl;refine HC.out.mono ?_;rintro e w2 ⟨rfl,hb2⟩;have HB2:=gY HB0 hb2;clear hb2;rw [HE.out];go_wp2;go_ret;exact ⟨by simp,HB2.out⟩
theorem Ip.below {w w':World} {FC:Nat} {rc cp:Array Value} {u:Value} {b:Bool} (h:Ip w FC rc cp u b) (hb:Below w.heap.size w w'):Ip w' FC rc cp u b:=by
 obtain ⟨T,a,e,hk,hc⟩:=h;exact ⟨T,a,e,hk,fun w1 h1=>hc w1 (hb.trans (h1.mono hb.size))⟩
theorem FB {FC:Nat} {rc cp:Array Value} {K:Fc→Bool} {S:Nat→Prop}:∀ (n:Nat) (w:World) (v:Value) (G:Ru),KnF w FC rc cp K→av w S n v G→Ip w FC rc cp v (G K)
 | 0,_,_,_,_,h=>h.elim
 | n + 1,w,v,G,hK,h=>by
  have row:∀ {ad:Option Addr} {Gs:List Ru},nu w S (av w S n) ad Gs→QJ w FC rc cp ad (Gs.map fun H=>H K):=fun {ad Gs} h=>by
   rcases h with h | ⟨g,e,h1,h2,h3⟩
   ·exact .inl (by rw [h]; rfl)
   ·refine .inr ⟨g,e,h2,fun i hi=>?_⟩;obtain ⟨u,hu,hp⟩:=h3 i (by simpa using hi);refine ⟨u,hu,?_⟩;rw [List.getElem_map];exact FB n w u _ hK hp
  rcases h with ⟨b,rfl,rfl⟩ | ⟨ad,cap,fs,rfl,hz,h1,h2,h3,rfl⟩ | ⟨ad,cap,Gs,rfl,h1,h2,rfl⟩ | ⟨ad,cap,Gs,rfl,h1,h2,rfl⟩
  ·exact ⟨_,_,rfl,.inl ⟨rfl,_,rfl⟩,fun w1 hb=>Fz b _ w1⟩
  ·exact ⟨_,_,rfl,.inr ⟨.inl rfl,_,_,_,rfl⟩,fun w1 hb=>PD (hK.below hb) (by have:=h2.1; omega) (h1.below hb) h3⟩
  ·refine ⟨_,_,rfl,.inr ⟨.inr (.inl rfl),_,_,_,rfl⟩,fun w1 hb=>?_⟩;have h:=NL cap (by rw [Sv]; omega) (row h2) w1 hb;rw [Sv,List.any_map] at h;exact h
  ·refine ⟨_,_,rfl,.inr ⟨.inr (.inr rfl),_,_,_,rfl⟩,fun w1 hb=>?_⟩;have h:=NM cap (by rw [Sv]; omega) (row h2) w1 hb;rw [Sv,List.all_map] at h;exact h
set_option linter.unusedSectionVars false
section
variable [DecidableEq Fc]
theorem sD {st:ByteArray × ByteArray→Int} {rs:List TR} {ts:List Tp} (hfr:∀ r ∈ rs,r.fits) (hft:∀ x ∈ ts,x.fits):∀ x ∈ aI st rs ts,x.fits:=fun x hx=>by
 cases hr:aP (fC rs) rs ts with
 | false=>rw [iI hr] at hx; cases hx
 | true =>
  rw [fD hr] at hx;have h1:=(kN st rs ts (fI ts) (dG ts) _).sub x hx;unfold zT at h1;obtain ⟨o,ho,h1⟩:=Sk.1 h1;obtain ⟨k,hk,h1⟩:=Sk.1 h1;unfold iJ at h1;obtain ⟨u,hu,rfl⟩:=Sa.1 h1;exact ⟨(kP hft o ho).1,(kP hft o ho).2,uA hfr k hk,(jJ hft u hu).1,(jJ hft u hu).2⟩
theorem zX (ad:Option Addr) (cap:Nat) (fs:List Fc) (w:World) (hl:fs.length≤1048576) (hs:gX w ad fs) (hf:∀ x ∈ fs,x.fits) :
  Calls prog 40 #[.slice ad fs.length cap] w fun e w'=>(∃ b n,e=.returned (.map (some b))∧aD dH prog 42 w' b n (uw fs))∧Below w.heap.size w w':=by
 have hmm:=@run_makeMap prog;obtain ⟨W0,hW0⟩:∃ W0,W0=w.alloc (.map #[] 0):=⟨_,rfl⟩;have HB0:=pu hW0;have WF:Hid (aD dH prog 42 W0 w.heap.size 0 (uw (fs.take 0))):=by
  have h:=jl dH prog 42 w;show aD _ _ _ _ _ _ _;rw [hW0]; exact h
 have hz0:w.heap.size < W0.heap.size:=by rw [hW0]; simp
 have HS:=ag hs;have HF:=ag hf;clear hs hf;go_enter func40,ntmps40;go_wp2_with fail;rw [← hW0];clear hW0 hmm;go_loopw [9] (fun i wr=>∃ k:Nat,k≤fs.length∧i=.int .i64 k∧Hid (aD dH prog 42 wr w.heap.size k (uw (fs.take k)))∧Hid (Below w.heap.size w wr)∧Hid (w.heap.size < wr.heap.size)) (fun i _=>fs.length - (intOf i).toNat);case atStart=>exact ⟨0,R6 _,rfl,WF,HB0,hz0⟩
 case round =>
  clear WF HB0 hz0;obtain ⟨k,hk,rfl,HV,HB,HZ⟩:=hrel;by_cases hlt:k < fs.length
  ·obtain ⟨b,off,SL,⟨t0,t1,t2,t3,t4⟩,hbl⟩:=gX.at0 (HS.out.below HB.out) hlt;have hi1:=bn k;have hi2:(k:Int) < (fs.length:Int):=by omega
   have HT:Hid (fs.take (k + 1)=fs.take k ++ [fs[k]]):=R5 hlt;obtain ⟨kl,hkl⟩:=kM fs[k] (HF.out _ (RY hlt));obtain ⟨x,hx⟩:∃ x,x=fs[k]:=⟨_,rfl⟩;rw [← hx] at t0 t1 t2 t3 t4 HT hkl;have Ur:=ag hkl;clear hx hkl;obtain ⟨W1,hW1⟩:∃ W1,W1=wr.alloc (.cells #[.string x.a,.string x.b,.string x.r,.string x.c,.string x.d] 42):=⟨_,rfl⟩;have Tu:=pu hW1;have WC:=ag (HV.out.below Tu.out);have HB1:=ag (HB.out.trans (Tu.out.mono HB.out.size));have hz1:w.heap.size < W1.heap.size:=RZ HZ.out Tu.out.size;subst SL;clear HV HB Tu;go_wp2_with (at_mapUpdate; rw [← hW1]; clear hW1; refine jB _ rfl _ _ _ 84 rfl 42 90 mR lY underlying84 w.heap.size k _ rfl WC.out (by unfold maxLen; omega) x kl rfl Ur.out (.agg #[]) rfl ?_);intro w2 hM2 hg2;have Vf:Hid (aD dH prog 42 w2 w.heap.size (k + 1) (uw (fs.take (k + 1)))):=by show aD _ _ _ _ _ _ _; rw [HT.out,← Jm]; exact hM2
   have HB2:Hid (Below w.heap.size w w2):=HB1.out.grown hg2 HB1.out.size (fun g hg=>by injection hg with hg; omega);have HZ2:Hid (w.heap.size < w2.heap.size):=RZ hz1 hg2.size;clear hM2 hg2 t0 t1 t2 t3 t4;go_wp2;go_roundw;case rel=>exact ⟨k + 1,by omega,by go_num,Vf,HB2,HZ2⟩
   case measure=>simp [intOf] <;> omega
  ·have HVE:Hid (aD dH prog 42 wr w.heap.size k (uw fs)):=by
    have h:=HV.out;rw [List.take_of_length_le (by omega)] at h;exact h
   go_wp2;go_ret;exact ⟨⟨_,_,rfl,HVE.out⟩,HB.out⟩
end
def okB (f:Fc):Bool:=df f.a f.b f.r f.c f.d ⟨#[]⟩
def dE (rs:List TR) (ts:List Tp) (out:List Fc) (f:Fc):Ru:=gN ts (ax (ae rs) f.a f.r) out f (ax (ae rs) f.a f.r).length ((ax (ae rs) f.a f.r).length - 1)
section
variable {rs:List TR} {P D br bp bt bK nK:Nat} {n1:Int} {nr:Nat} {Mr:KL→Option Value} {Er:List (KL × RR)} {ts:List Tp} {xo xu:List Al} {np:Nat} {Mp:K3→Option Value} {vo vu:Value} {out:List Fc} {f:Fc} {TF:Option Addr} {Te:Nat}
theorem Iq {w:World} {ad:Option Addr} (hP:PrM w P D TF Te out bK nK) (hD:DatA w rs D br bp bt n1 nr Mr Er (aW ts) xo xu np Mp vo vu) (hf:f.fits) (hts:∀ t ∈ ts,t.fits) (htl:ts.length≤40) (hsh:aV (ae rs)=true) (hs:jd w ad rs) :
  Calls prog 39 #[.pointer (some ⟨P,0,none⟩),.agg #[.string f.a,.string f.b,.string f.r,.string f.c,.string f.d]] w fun e w'=>(∃ v n,e=.returned v∧av w' (ic w.heap.size) n v (dE rs ts out f)∧n≤8)∧Below w.heap.size w w':=by
 obtain ⟨kl,hkl⟩:=ik (f.a,f.r) hf.1 hf.2.2.1;obtain ⟨W0,hW0⟩:∃ W0,W0=w.alloc (.cells #[.string f.a,.string f.b,.string f.r,.string f.c,.string f.d] 42):=⟨_,rfl⟩;have HB0:=pu hW0;have c0:W0.cell? ⟨w.heap.size,0,none⟩=some (.string f.a):=by rw [hW0]; simp
 have c1:W0.cell? ⟨w.heap.size,1,none⟩=some (.string f.b):=by rw [hW0]; simp
 have c2:W0.cell? ⟨w.heap.size,2,none⟩=some (.string f.r):=by rw [hW0]; simp
 have c3:W0.cell? ⟨w.heap.size,3,none⟩=some (.string f.c):=by rw [hW0]; simp
 have c4:W0.cell? ⟨w.heap.size,4,none⟩=some (.string f.d):=by rw [hW0]; simp
 have d0:=HB0.out.cell (p:=⟨D,0,none⟩) hD.dat.lt |>.trans hD.dat.c0;have p0:=aA HB0.out hP.lt hP.c0;have hlk0:∀ m,(Instr.lookup 124 (.map (some bt)) (.agg #[.string f.a,.string f.r]) true).run prog (W0.drewN m)=.ok (.tuple #[(mJ rs (f.a,f.r)).getD (.slice none 0 0),.bool (mJ rs (f.a,f.r)).isSome]) (W0.drewN m):=fun m =>
  ((hD.tab.below HB0.out).below (below_drewN (R3 _ _) m)).look_ok (t:=124) (e:=105) ib underlying124 (lV _) (x:=(f.a,f.r)) hkl
 cases htab:mJ rs (f.a,f.r) with
 | none =>
  have hrel:dX (ae rs) f.a f.r=none:=(mM hsh).no _ htab;have HG:Hid (dE rs ts out f=fun _=>false):=by show _=_; unfold dE ax; rw [hrel]; rfl
  have hlk:=hlk0;rw [htab] at hlk;simp only [Option.getD_none,Option.isSome_none] at hlk;clear hlk0 hD hP hs hkl htab hrel hf;go_enter func39,ntmps39;go_wp2_with fail;rw [← hW0];clear hW0;go_quiet (fail);clear d0 p0 hlk c0 c1 c2 c3 c4;go_wp2;go_ret;exact ⟨⟨_,1,rfl,ny false HG.out,by omega⟩,below_drewN HB0.out _⟩
 | some v0 =>
  obtain ⟨t,Yb,q,hq,-,hv0,hrelp,-⟩:=(mM hsh).yes _ v0 htab;have hsp:aU (ah q.rows)=true:=((bH hsh).2.2 t Yb q hq).1;have hrx:ah q.rows=ax (ae rs) f.a f.r:=by unfold ax; rw [show dX (ae rs) f.a f.r=some (ah q.rows) from hrelp]; rfl
  obtain ⟨hN,hr1⟩:=xe hsp;have hnb:=gp hsp;have htr:=KO hsp;have hr15:q.rows.length≤15:=by
   have h:=hsp;unfold aU at h;simp only [R7,Sj] at h;have:=h.1.1.1.1.2;rw [aJ] at this; exact this
  have TD:lH rs q.ad q.rows:=.inr ⟨t,Yb,q,hq,rfl,rfl⟩;obtain ⟨SN,U7⟩:∃ a,a=q.ad:=⟨_,rfl⟩;obtain ⟨capE,Wy⟩:∃ a,a=q.cap:=⟨_,rfl⟩;obtain ⟨rows,hrows⟩:∃ a,a=q.rows:=⟨_,rfl⟩;have hsl:v0=.slice SN rows.length capE:=by rw [hv0,U7,Wy,hrows]; rfl
  rw [← hrows] at hN hnb hr1 hrx hr15 htr;rw [← hrows,← U7] at TD;have hlk:=hlk0;rw [htab,hsl] at hlk;simp only [Option.getD_some,Option.isSome_some] at hlk;have WS:=hN.len;have hwr:IntKind.i64.wrap ((rows.length:Int) - 1)=((rows.length - 1:Nat):Int):=by rw [IntKind.wrap_i64]; omega
  have HC:Hid (∀ nq,Calls prog 67 #[.pointer (some ⟨P,0,none⟩),.slice SN rows.length capE,.int .i64 ((rows.length - 1:Nat):Int),.agg #[.string f.a,.string f.b,.string f.r,.string f.c,.string f.d]] (W0.drewN nq) fun e w'=>(∃ v,e=.returned v∧av w' (ic w.heap.size) 8 v (dE rs ts out f))∧Below (W0.drewN nq).heap.size (W0.drewN nq) w'):=fun nq=>by
   have hb:Below w.heap.size w (W0.drewN nq):=below_drewN HB0.out nq;have h:=sw (capE:=capE) hN hnb hf hts htl htr rows.length 8 (rows.length - 1) (W0.drewN nq) (by omega) (by omega) (by have:=htr (rows.length - 1) (by rw [aJ]; omega); omega) (hP.below hb) (hD.below hb) (TD.sl (hs.below hb));unfold dE;rw [← hrx,aJ];exact h.mono fun e w' ⟨⟨v,he,hr⟩,hb2⟩=>⟨⟨v,he,hr.old hb.size (R4 _)⟩,hb2⟩
  clear hlk0 hD hP hs hsp hkl htab hsl hN hnb htr hf U7 Wy hrows TD hrx hv0 hrelp;go_enter func39,ntmps39;go_wp2_with fail;rw [← hW0];clear hW0;go_quiet (fail);clear d0 p0 hlk;go_wp2_with fail;refine (HC.out _).mono ?_;rintro e w1 ⟨⟨v,rfl,hr⟩,hb1⟩;have HB1:=ag ((below_drewN HB0.out _).trans (hb1.mono HB0.out.size));have HR:=ag hr;clear hb1 hr c0 c1 c2 c3 c4;go_wp2;go_ret;exact ⟨⟨v,_,rfl,HR.out,R4 _⟩,HB1.out⟩
end
end Go.Proofs.YtdaoiceeidoehaaGreat
