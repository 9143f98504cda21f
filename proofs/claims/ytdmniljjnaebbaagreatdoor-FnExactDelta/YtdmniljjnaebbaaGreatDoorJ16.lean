/- The contract of the program's function that looks at a list of tuples. -/
import Derived.Test.YtdmniljjnaebbaaGreatDoorSq
import Derived.Test.YtdmniljjnaebbaaGreatDoorJ9
import Derived.Test.YtdmniljjnaebbaaGreatDoorJ10
open Go.Proofs.Tryz
set_option maxHeartbeats 80000000
namespace Go.Proofs.YtdmniljjnaebbaaGreatDoor
open Go.Sort
open Go.ChangeShapes Go.WideShapes Go.ChangeAt Go.RowKit
open Pl
attribute [local go_sem ↓] Go.wp_at_zero Go.wp_at_succ
theorem uy (b off cap:Nat) (ts:List Tp) (w:af) (hlen:ts.length≤maxLen) (hr:dF w b off ts) (hb:b < w.heap.size) (hf:∀ t ∈ ts,t.fits) :
    Calls prog 93 #[.slice (some ⟨b,off,none⟩) ts.length cap] w fun e w'=>e=.returned (.bool (dO ts))∧aa w w':=by
  unfold maxLen at hlen;by_cases hbig:40 < ts.length
  · have HT:Hid (dO ts=false):=by show _=_; simp [dO]; omega
    go_enter func93,ntmps93;go_wp2;go_ret;exact ⟨ah HT.out.symm,Si _ _⟩
  · go_enter func93,ntmps93;go_wp2;go_loopw [10] (fun i wr=>∃ k:Nat,k≤ts.length∧i=.int .i64 k∧Hid (rY ts k=true)∧aa w wr) (fun i _=>ts.length - (intOf i).toNat);case atStart=>exact ⟨0,Sm _,rfl,rfl,Si _ _⟩
    obtain ⟨k,hk,rfl,hu,hB⟩:=hrel;by_cases hlt:k < ts.length
    · have Zv:=oG (hr.below hB hb);have Tv:=oG hf;obtain ⟨t0,t1,t2,t3,t4,t5⟩:=Zv.out k hlt;have hk1:=bH k;have hk2:(k:Int) < (ts.length:Int):=by omega
      clear hr hf;obtain ⟨W1,hW1⟩:∃ W1,W1=wr.alloc (.cells #[.string ts[k].a,.string ts[k].b,.string ts[k].r,.string ts[k].c,.string ts[k].d,.string ts[k].s] 42):=⟨_,rfl⟩;have hal:aa wr W1:=by rw [hW1]; exact (Si _ _).alloc (Sj _) _
      have c0:∀ d os,(grow (redrawn W1 d) os).cell? ⟨wr.heap.size,0,none⟩=some (.string ts[k].a):=cell_regrown (by rw [hW1]; simp);have c1:∀ d os,(grow (redrawn W1 d) os).cell? ⟨wr.heap.size,1,none⟩=some (.string ts[k].b):=cell_regrown (by rw [hW1]; simp);have c2:∀ d os,(grow (redrawn W1 d) os).cell? ⟨wr.heap.size,2,none⟩=some (.string ts[k].r):=cell_regrown (by rw [hW1]; simp);have c3:∀ d os,(grow (redrawn W1 d) os).cell? ⟨wr.heap.size,3,none⟩=some (.string ts[k].c):=cell_regrown (by rw [hW1]; simp);have c4:∀ d os,(grow (redrawn W1 d) os).cell? ⟨wr.heap.size,4,none⟩=some (.string ts[k].d):=cell_regrown (by rw [hW1]; simp);have c5:∀ d os,(grow (redrawn W1 d) os).cell? ⟨wr.heap.size,5,none⟩=some (.string ts[k].s):=cell_regrown (by rw [hW1]; simp);have TQ:Hid (∀ d os,aa w (grow (redrawn W1 d) os)):=fun d os=>hB.trans ((hal.mono hB.size).trans ((below_regrown W1 d os).mono (Sq hB.size hal.size)));have HK:Hid (∀ p v,wr.cell? p=some v→W1.cell? p=some v):=fun p v h=>cell_later hal h;clear hal;go_wp2_with fail;rw [← hW1];clear hW1 t0 t1 t2 t3 t4 t5;have Vx:Hid (∀ d os,Calls prog 128 #[.agg #[.string ts[k].a,.string ts[k].b,.string ts[k].r,.string ts[k].c,.string ts[k].d,.string ts[k].s]] (grow (redrawn W1 d) os) fun e w''=>e=.returned (.bool ts[k].ok)∧∃ p:Regrown,w''=grow (redrawn W1 p.d) p.os):=by
        obtain ⟨f0,f1,f2,f3,f4,f5⟩:=Tv.out ts[k] (Sd hlt);exact bP fun W' _=>d9 _ _ _ _ _ _ _ f0 f1 f2 f3 f4 f5
      cases hok:ts[k].ok;case false=>
        have HT:Hid (dO ts=false):=rZ hlt (Jb hlt hok);rw [hok] at Vx;clear hok;refine wp_region_quiet_below (by kernel_rfl) (by kernel_rfl) ?_
        repeat (go_big_quiet_step (exact Vx.out _ _))
        refine wpQuiet_nil ?_;rintro _ ⟨⟨dq,osq⟩,rfl⟩;go_wp2;go_ret;exact ⟨ah HT.out.symm,TQ.out dq osq⟩
      rw [hok] at Vx;by_cases hz:k=0
      · have HU:Hid (rY ts (k + 1)=true):=by show _=_; rw [pU,hu.out]; subst hz; rw [uf hlt,hok]; rfl
        have hk8:decide ((0:Int) < (k:Int))=false:=by simp; omega
        have Zw:decide (0 < k)=false:=by simp; omega
        clear hok hz;refine wp_region_quiet_below (by kernel_rfl) (by kernel_rfl) ?_
        repeat (go_big_quiet_step (exact Vx.out _ _))
        refine wpQuiet_nil ?_;rintro _ ⟨⟨dq,osq⟩,rfl⟩;go_wp2;go_roundw;case rel=>exact ⟨k + 1,by omega,by go_num,HU,TQ.out dq osq⟩
        simp [intOf]; omega
      · obtain ⟨m,hm⟩:∃ m:Nat,k=m + 1:=⟨k - 1,by omega⟩;have TF:m < ts.length:=by omega
        obtain ⟨q0,q1,q2,q3,q4,q5⟩:=Zv.out m TF;replace q0:=cell_regrown (HK.out _ _ q0);replace q1:=cell_regrown (HK.out _ _ q1);replace q2:=cell_regrown (HK.out _ _ q2);replace q3:=cell_regrown (HK.out _ _ q3);replace q4:=cell_regrown (HK.out _ _ q4);replace q5:=cell_regrown (HK.out _ _ q5);have hkm:(k:Int) - 1=(m:Int):=by omega
        have hm1:=bH m;have hm2:(m:Int) < (ts.length:Int):=by omega
        have hpos:(0:Int) < (k:Int):=by omega
        have hposN:0 < k:=by omega
        have hwm:IntKind.i64.wrap (m:Int)=(m:Int):=by rw [IntKind.wrap_i64]; omega
        have HA:Hid (tZ ts k=ts[m].ahead ts[k]):=by show _=_; subst hm; rw [pV hlt,hok]; rfl
        have Wv:Hid (∀ d os,Calls prog 129 #[.agg #[.string ts[m].a,.string ts[m].b,.string ts[m].r,.string ts[m].c,.string ts[m].d,.string ts[m].s],.agg #[.string ts[k].a,.string ts[k].b,.string ts[k].r,.string ts[k].c,.string ts[k].d,.string ts[k].s]] (grow (redrawn W1 d) os) fun e w''=>e=.returned (.bool (ts[m].ahead ts[k]))∧∃ p:Regrown,w''=grow (redrawn W1 p.d) p.os):=by
          obtain ⟨f0,f1,f2,f3,f4,f5⟩:=Tv.out ts[k] (Sd hlt);obtain ⟨g0,g1,g2,g3,g4,g5⟩:=Tv.out ts[m] (Sd TF);exact bP fun W' _=>zS _ _ _ _ _ _ _ _ _ _ _ _ _ g0 g1 g2 g3 g4 g5 f0 f1 f2 f3 f4 f5
        clear hm hz hok;cases ha:ts[m].ahead ts[k];case false=>
          have HT:Hid (dO ts=false):=rZ hlt (by rw [HA.out,ha]);rw [ha] at Wv;clear ha HA;refine wp_region_quiet_below (by kernel_rfl) (by kernel_rfl) ?_
          repeat (go_big_quiet_step (first | exact Vx.out _ _ | exact Wv.out _ _))
          refine wpQuiet_nil ?_;rintro _ ⟨⟨dq,osq⟩,rfl⟩;go_wp2;go_ret;exact ⟨ah HT.out.symm,TQ.out dq osq⟩
        have HU:Hid (rY ts (k + 1)=true):=by show _=_; rw [pU,hu.out,HA.out,ha]; rfl
        rw [ha] at Wv;clear ha HA;refine wp_region_quiet_below (by kernel_rfl) (by kernel_rfl) ?_
        repeat (go_big_quiet_step (first | exact Vx.out _ _ | exact Wv.out _ _))
        refine wpQuiet_nil ?_;rintro _ ⟨⟨dq,osq⟩,rfl⟩;go_wp2;go_roundw;case rel=>exact ⟨k + 1,by omega,by go_num,HU,TQ.out dq osq⟩
        simp [intOf]; omega
    · go_wp2;go_ret;exact ⟨ah (by have e:k=ts.length:=(by omega);subst e;simp [dO,hu.out]; omega),hB⟩
end Go.Proofs.YtdmniljjnaebbaaGreatDoor
namespace Go.Proofs.YtdmniljjnaebbaaGreatDoor
open Go.Sort
open Go.ChangeShapes Go.WideShapes Go.ChangeAt Go.RowKit
open Pl
attribute [local go_sem ↓] Go.wp_at_zero Go.wp_at_succ
theorem uz (ad:Option Addr) (cap:Nat) (w:af) :
  Calls prog 75 #[.slice ad 0 cap] w fun e w'=>e=.returned (.bool (dO []))∧aa w w':=by
 go_enter func75,ntmps75;go_wp2;go_loopw [3] (fun i wr=>∃ k:Nat,k=0∧i=.int .i64 k∧aa w wr) (fun i _=>(intOf i).toNat);case atStart=>exact ⟨0,rfl,rfl,Si _ _⟩
 obtain ⟨k,rfl,rfl,hB⟩:=hrel;go_wp2;go_ret;exact ⟨rfl,hB⟩
theorem uA (ad:Option Addr) (cap:Nat) (w:af) :
  Calls prog 93 #[.slice ad 0 cap] w fun e w'=>e=.returned (.bool (dO []))∧aa w w':=by
 go_enter func93,ntmps93;go_wp2;go_loopw [10] (fun i wr=>∃ k:Nat,k=0∧i=.int .i64 k∧aa w wr) (fun i _=>(intOf i).toNat);case atStart=>exact ⟨0,rfl,rfl,Si _ _⟩
 obtain ⟨k,rfl,rfl,hB⟩:=hrel;go_wp2;go_ret;exact ⟨rfl,hB⟩
theorem mD (ad:Option Addr) (cap:Nat) (ts:List Tp) (w:af) (hlen:ts.length≤maxLen) (hs:Sl w ad ts) (hf:∀ t ∈ ts,t.fits) :
  Calls prog 75 #[.slice ad ts.length cap] w fun e w'=>e=.returned (.bool (dO ts))∧aa w w':=by
 rcases hs with rfl | ⟨b,off,rfl,hb,hr⟩
 ·exact uz ad cap w
 exact ug b off cap ts w hlen hr hb hf
theorem uC (ad:Option Addr) (cap:Nat) (ts:List Tp) (w:af) (hlen:ts.length≤maxLen) (hs:Sl w ad ts) (hf:∀ t ∈ ts,t.fits) :
  Calls prog 93 #[.slice ad ts.length cap] w fun e w'=>e=.returned (.bool (dO ts))∧aa w w':=by
 rcases hs with rfl | ⟨b,off,rfl,hb,hr⟩
 ·exact uA ad cap w
 exact uy b off cap ts w hlen hr hb hf
theorem iW (a b:dB) (w:af) :
  Calls prog 65 #[.agg #[.string a,.string b],.agg #[.string a,.string b]] w fun e w'=>e=.returned (.bool true)∧aa w w':=by
 go_enter func65,ntmps65;go_wp2;go_ret;exact ⟨rfl,((Si _ _).alloc (Sj _) _).alloc (by simp) _⟩
theorem Aa (a b r c d s:dB) (w:af) :
  Calls prog 39 #[.agg #[.string a,.string b,.string r,.string c,.string d,.string s],.agg #[.string a,.string b,.string r,.string c,.string d,.string s]] w fun e w'=>e=.returned (.bool true)∧aa w w':=by
 go_enter func39,ntmps39;go_wp2_with fail;refine (iW _ _ _).mono ?_;rintro e w1 ⟨rfl,hb1⟩;obtain ⟨hc1,hf1⟩:=eO hb1;have hz1:w.heap.size + 1 < w1.heap.size:=by have:=hb1.size; simp at this; omega
 have hy1:w.heap.size < w1.heap.size:=by omega
 have HB1:aa w w1:=(((Si _ _).alloc (Sj _) _).alloc (by simp) _).trans (hb1.mono (by simp; omega));go_wp2_with fail;refine (iW _ _ _).mono ?_;rintro e w2 ⟨rfl,hb2⟩;obtain ⟨hc2,hf2⟩:=eO hb2;have hz2:w.heap.size + 1 < w2.heap.size:=by have:=hb2.size; omega
 have hy2:w.heap.size < w2.heap.size:=by omega
 go_wp2;go_ret;exact ⟨rfl,HB1.trans (hb2.mono (by omega))⟩
theorem Ab (b b' off off' cap cap':Nat) (ts:List Tp) (w:af) (hlen:ts.length≤maxLen) (hr:dF w b off ts) (hb:b < w.heap.size) (hr':dF w b' off' ts) (hb':b' < w.heap.size) :
  Calls prog 15 #[.slice (some ⟨b,off,none⟩) ts.length cap,.slice (some ⟨b',off',none⟩) ts.length cap'] w fun e w'=>e=.returned (.bool true)∧aa w w':=by
 unfold maxLen at hlen;go_enter func15,ntmps15;go_wp2;go_loopw [5] (fun i wr=>∃ k:Nat,k≤ts.length∧i=.int .i64 k∧aa w wr) (fun i _=>ts.length - (intOf i).toNat);case atStart=>exact ⟨0,Sm _,rfl,Si _ _⟩
 obtain ⟨k,hk,rfl,hB⟩:=hrel;by_cases hlt:k < ts.length
 ·obtain ⟨t0,t1,t2,t3,t4,t5⟩:=(hr.below hB hb) k hlt;obtain ⟨q0,q1,q2,q3,q4,q5⟩:=(hr'.below hB hb') k hlt;have hk1:=bH k;have hk2:(k:Int) < (ts.length:Int):=by omega
  clear hr hr';replace t0:=cell_regrown t0;replace q0:=cell_regrown q0;replace t1:=cell_regrown t1;replace q1:=cell_regrown q1;replace t2:=cell_regrown t2;replace q2:=cell_regrown q2;replace t3:=cell_regrown t3;replace q3:=cell_regrown q3;replace t4:=cell_regrown t4;replace q4:=cell_regrown q4;replace t5:=cell_regrown t5;replace q5:=cell_regrown q5;have Vp:Hid (∀ d os,Calls prog 39 #[.agg #[.string ts[k].a,.string ts[k].b,.string ts[k].r,.string ts[k].c,.string ts[k].d,.string ts[k].s],.agg #[.string ts[k].a,.string ts[k].b,.string ts[k].r,.string ts[k].c,.string ts[k].d,.string ts[k].s]] (grow (redrawn wr d) os) fun e w''=>e=.returned (.bool true)∧∃ p:Regrown,w''=grow (redrawn wr p.d) p.os):=bP fun W' _=>Aa _ _ _ _ _ _ _;go_wp2_with fail;refine wp_region_quiet_below (by kernel_rfl) (by kernel_rfl) ?_
  repeat (go_big_quiet_step (exact Vp.out _ _))
  refine wpQuiet_nil ?_;rintro _ ⟨⟨dq,osq⟩,rfl⟩;have HB:=hB.trans ((below_regrown wr dq osq).mono hB.size);go_wp2;go_roundw;case rel=>exact ⟨k + 1,by omega,by go_num,HB⟩
  simp [intOf]; omega
 go_wp2;go_ret;exact ⟨rfl,hB⟩
end Go.Proofs.YtdmniljjnaebbaaGreatDoor
namespace Go.Proofs.YtdmniljjnaebbaaGreatDoor
set_option linter.unusedVariables false
open Pl
def Jf (es:List Ex):Prop:=∀ (i:Nat) (h:i < es.length),∀ x ∈ es[i].kids,0≤x∧x < (i:Int)
theorem He {es:List Ex} (h:aY es=true):Jf es:=by
 intro i hi x hx;unfold aY at h;simp only [Sn,SE] at h;have h1:=h.1.1.2;unfold iJ at h1;rw [SC] at h1;have h2:=h1 i (by simpa using hi);unfold lw oH at h2;rw [Sw hi] at h2;simp only [Option.map_some,Option.getD_some,SC,Sn,SE] at h2;have:=h2 x hx;omega
theorem Hf {ts:List Ty} (h:bq ts=true) {t:Ty} (ht:t ∈ ts) {r:Rl} (hr:r ∈ t.rels):aR r.name=true∧aY r.expr=true:=by
 unfold bq at h;simp only [Sn] at h;obtain ⟨j,hj,rfl⟩:=List.getElem_of_mem ht;have h1:=nM h.2 j hj;unfold jF at h1;rw [Sw hj] at h1;simp only [Sn] at h1;obtain ⟨k,hk,rfl⟩:=List.getElem_of_mem hr;have h2:=nJ h1.2 k hk;unfold kG at h2;rw [Sw hk] at h2;simp only [Sn] at h2;exact ⟨h2.1.1,h2.2⟩
structure Fc where
 a:ByteArray
 b:ByteArray
 r:ByteArray
 c:ByteArray
 d:ByteArray
def Fc.u (f:Fc):ByteArray × ByteArray:=(f.c,f.d)
def CX (x y:Fc):Bool:=x.a.toList == y.a.toList && x.b.toList == y.b.toList && x.r.toList == y.r.toList && x.c.toList == y.c.toList && x.d.toList == y.d.toList
theorem EF {x y:Fc}:CX x y=true ↔ x=y:=by
 constructor
 ·intro h;unfold CX at h;simp only [Sn,beq_iff_eq] at h;obtain ⟨⟨⟨⟨h1,h2⟩,h3⟩,h4⟩,h5⟩:=h;cases x; cases y;simp only at h1 h2 h3 h4 h5;rw [ui h1,ui h2,ui h3,ui h4,ui h5]
 rintro rfl; unfold CX; simp
def dG (out:List Fc) (f:Fc):Bool:=out.any fun g=>CX g f
theorem jI {out:List Fc} {f:Fc}:dG out f=true ↔ f ∈ out:=by
 unfold dG;rw [SY];constructor
 ·rintro ⟨g,hg,h⟩; rw [← EF.1 h]; exact hg
 intro h; exact ⟨f,h,EF.2 rfl⟩
def EG (u:ByteArray × ByteArray) (x y:List Fc):Prop:=∀ g:Fc,g.u=u→(g ∈ x ↔ g ∈ y)
theorem uD {x y:List Fc} {f:Fc} (h:EG f.u x y):dG x f=dG y f:=by
 rw [Bool.eq_iff_iff,jI,jI]; exact h f rfl
def eu (l:List Tp) (known:List Fc) (f:Fc):Bool:=l.any fun t=>(t.a.toList == f.a.toList && t.b.toList == f.b.toList && t.r.toList == f.r.toList) && (if t.s.toList.isEmpty then t.c.toList == f.c.toList && t.d.toList == f.d.toList else dG known ⟨t.c,t.d,t.s,f.c,f.d⟩)
def fI (l:List Tp) (known:List Fc) (over name:ByteArray) (f:Fc):Bool:=l.any fun t=>(t.a.toList == f.a.toList && t.b.toList == f.b.toList && t.r.toList == over.toList) && dG known ⟨t.c,t.d,name,f.c,f.d⟩
def iX (l:List Tp) (es:List Ex) (truth:List Fc) (f:Fc):Nat→List Fc→Nat→Bool
 | 0,_,_=>false
 | k + 1,known,n=>match es[n]? with
  | none=>false
  | some x =>
   if x.kind=1 then eu l known f
   else if x.kind=2 then dG known ⟨f.a,f.b,x.name,f.c,f.d⟩
   else if x.kind=3 then fI l known x.over x.name f
   else if x.kind=4 then x.kids.any fun i=>iX l es truth f k known i.toNat
   else if x.kind=5 then x.kids.all fun i=>iX l es truth f k known i.toNat
   else if x.kind=6 then iX l es truth f k known (x.kids.getD 0 0).toNat && !iX l es truth f k truth (x.kids.getD 1 0).toNat
   else false
theorem Hg {l:List Tp} {x y:List Fc} {f:Fc} (h:EG f.u x y):eu l x f=eu l y f:=by
 unfold eu;congr 1
 funext t
 rw [uD (x:=x) (y:=y) (f:=⟨t.c,t.d,t.s,f.c,f.d⟩) h]
theorem Hl {l:List Tp} {x y:List Fc} {ov nm:ByteArray} {f:Fc} (h:EG f.u x y):fI l x ov nm f=fI l y ov nm f:=by
 unfold fI;congr 1
 funext t
 rw [uD (x:=x) (y:=y) (f:=⟨t.c,t.d,nm,f.c,f.d⟩) h]
theorem rq {l:List Tp} {es:List Ex} {f:Fc} {t1 t2:List Fc} (ht:EG f.u t1 t2):∀ (k:Nat) (x y:List Fc) (n:Nat),EG f.u x y→iX l es t1 f k x n=iX l es t2 f k y n
 | 0,_,_,_,_=>rfl
 | k + 1,x,y,n,h=>by
  unfold iX;cases es[n]? with
  | none=>rfl
  | some e =>
   simp only [Hg h,uD (x:=x) (y:=y) (f:=⟨f.a,f.b,e.name,f.c,f.d⟩) h,Hl h,rq ht k x y _ h,rq ht k t1 t2 _ ht]
def ib (ts:List Ty) (l:List Tp) (out:List Fc) (f:Fc):Bool:=iX l (aH ts f.a f.r) out f (aH ts f.a f.r).length out ((aH ts f.a f.r).length - 1)
theorem Bv (ts:List Ty) (l:List Tp):Loc Fc.u (ib ts l):=fun x y f h=>rq h _ x y _ h
def CY (ts:List Ty) (st:ByteArray × ByteArray→Int) (n:Int) (o:Al):List (ByteArray × ByteArray):=(ak ts).filter fun k=>k.1.toList == o.t.toList && decide (st k=n)
def ja (o:Al) (rel:ByteArray) (xu:List Al):List Fc:=xu.map fun u=>⟨o.t,o.s,rel,u.t,u.s⟩
def wC (ts:List Ty) (st:ByteArray × ByteArray→Int) (xu:List Al) (n:Int) (o:Al):List Fc:=(CY ts st n o).flatMap fun k=>ja o k.2 xu
def cB (ts:List Ty) (st:ByteArray × ByteArray→Int) (xo xu:List Al) (n:Int):List Fc:=xo.flatMap (wC ts st xu n)
theorem Hm {ts:List Ty} {st:ByteArray × ByteArray→Int} {xo xu:List Al} {n:Int} {f:Fc} (h:f ∈ cB ts st xo xu n):f.u ∈ xu.map fun u=>(u.t,u.s):=by
 unfold cB wC ja at h;obtain ⟨o,-,h⟩:=SB.1 h;obtain ⟨k,-,h⟩:=SB.1 h;obtain ⟨u,hu,rfl⟩:=Sy.1 h;exact Sy.2 ⟨u,hu,rfl⟩
theorem EH (ts:List Ty) (st:ByteArray × ByteArray→Int) (xo xu:List Al) (n:Int) (p:ByteArray × ByteArray→Bool):(cB ts st xo xu n).filter (fun f=>p f.u)=cB ts st xo (xu.filter fun u=>p (u.t,u.s)) n:=by
 unfold cB wC ja;rw [List.filter_flatMap];congr 1
 funext o
 rw [List.filter_flatMap];congr 1
 funext k
 rw [List.filter_map];rfl
theorem Ho {ts:List Ty} {st:ByteArray × ByteArray→Int} {xo xu:List Al} {n:Int} (h:∀ k ∈ ak ts,st k ≠ n):cB ts st xo xu n=[]:=by
 have:∀ o,CY ts st n o=[]:=fun o=>by
  unfold CY;rw [List.filter_eq_nil_iff];intro k hk;simp [h k hk]
 unfold cB wC;simp [this]
section
variable [DecidableEq Fc]
def kR (ts:List Ty) (l:List Tp) (st:ByteArray × ByteArray→Int) (xo xu:List Al) (N:Nat):List Fc:=(List.range N).foldl (fun out (n:Nat)=>ny (ib ts l) (cB ts st xo xu (n:Int)) out) []
theorem jl (ts:List Ty) (l:List Tp) (st:ByteArray × ByteArray→Int) (xo xu:List Al) (N:Nat):kR ts l st xo xu (N + 1)=ny (ib ts l) (cB ts st xo xu (N:Int)) (kR ts l st xo xu N):=by
 unfold kR; rw [List.range_succ,List.foldl_append]; rfl
theorem Kj {ts:List Ty} {l:List Tp} {st:ByteArray × ByteArray→Int} {xo xu:List Al} {N:Nat} (h:∀ k ∈ ak ts,st k < (N:Int)):∀ M,N≤M→kR ts l st xo xu M=kR ts l st xo xu N:=by
 intro M hM;obtain ⟨d,rfl⟩:∃ d,M=N + d:=⟨M - N,by omega⟩
 induction d with
 | zero=>rfl
 | succ d ih =>
  rw [Nat.add_succ,jl,ih (by omega),Ho fun k hk=>by have:=h k hk; omega];exact Mj _
theorem Bw (ts:List Ty) (l:List Tp) (st:ByteArray × ByteArray→Int) (xo xu:List Al):∀ N,(kR ts l st xo xu N).Nodup
 | 0=>List.nodup_nil
 | N + 1=>by rw [jl]; exact JP _ (Bw ts l st xo xu N)
end
open Go.ChangeAt Go.ChangeShapes Go.Maps Go.RowKit Go.WideShapes
def EJ (w:World) (b off:Nat) (t:Fc):Prop :=
 w.cell? ⟨b,off,none⟩=some (.string t.a)∧w.cell? ⟨b,off + 1,none⟩=some (.string t.b)∧w.cell? ⟨b,off + 2,none⟩=some (.string t.r)∧w.cell? ⟨b,off + 3,none⟩=some (.string t.c)∧w.cell? ⟨b,off + 4,none⟩=some (.string t.d)
def QE (w:World) (b off:Nat) (ts:List Fc):Prop:=∀ (i:Nat) (h:i < ts.length),EJ w b (off + i * 5) ts[i]
def jP (w:World) (ad:Option Addr) (ts:List Fc):Prop:=ts=[] ∨ ∃ b off,ad=some ⟨b,off,none⟩∧b < w.heap.size∧QE w b off ts
theorem EJ.same {w w':af} {b off:Nat} {t:Fc} (h:EJ w b off t) (hc:∀ o,w'.cell? ⟨b,o,none⟩=w.cell? ⟨b,o,none⟩):EJ w' b off t:=by
 obtain ⟨h0,h1,h2,h3,h4⟩:=h;exact ⟨(hc _).trans h0,(hc _).trans h1,(hc _).trans h2,(hc _).trans h3,(hc _).trans h4⟩
theorem jP.below {w w':af} {ad:Option Addr} {ts:List Fc} (h:jP w ad ts) (hB:aa w w'):jP w' ad ts:=by
 rcases h with h | ⟨b,off,e,hb,hr⟩
 ·exact .inl h
 exact .inr ⟨b,off,e,Sg hb hB.size,fun i hi=>(hr i hi).same fun o=>hB.cell (p:=⟨b,o,none⟩) hb⟩
def Fc.row (t:Fc):List Value:=[.string t.a,.string t.b,.string t.r,.string t.c,.string t.d]
theorem M5 (x y:Fc) {v:Bool} (h:CX x y=v) (w:af) :
  (binOp .eql 63 (.agg #[.string x.a,.string x.b,.string x.r,.string x.c,.string x.d]) (.agg #[.string y.a,.string y.b,.string y.r,.string y.c,.string y.d])).run prog w=.ok (.bool v) w:=by
 subst h;go_simp;unfold CX
 (repeat' split) <;> simp_all
theorem Kk {ts:List Fc} {k:Nat} (h:k < ts.length) {t:Fc}:dG (ts.drop k) t=(CX ts[k] t || dG (ts.drop (k + 1)) t):=by
 unfold dG; rw [SH h]; rfl
def Fc.fits (t:Fc):Prop:=t.a.size≤maxLen∧t.b.size≤maxLen∧t.r.size≤maxLen∧t.c.size≤maxLen∧t.d.size≤maxLen
def jJ (k:Fc):Value:=.agg #[.string k.a,.string k.b,.string k.r,.string k.c,.string k.d]
theorem EK (x y:Fc) (h:jJ x=jJ y):x=y:=by
 unfold jJ at h;injection h with h;have h1:=congrArg Array.toList h;simp at h1;obtain ⟨xa,xb,xr,xc,xd⟩:=x;obtain ⟨ya,yb,yr,yc,yd⟩:=y;simp only at h1;obtain ⟨rfl,rfl,rfl,rfl,rfl⟩:=h1;rfl
theorem M7:laidOutB prog=true:=by kernel_rfl
theorem QF:(63:TypeId) < prog.types.size:=of_decide_eq_true (by kernel_rfl)
theorem OY:(match prog.underlying 63 with | some (.array _ _) | some (.struct _)=>true | _=>false)=true:=by rw [underlying63]
set_option maxRecDepth 100000 in
theorem OZ:WideMaps.KeyLaw prog 63:=deep_law_laid M7 (m:=3) (by omega) QF (by kernel_rfl) OY
theorem Hq:Keyed prog 63:=Keyed.of_law OZ
theorem O5:prog.keyType 63=true:=by kernel_rfl
theorem EL:prog.cellsOf 63=5:=by kernel_rfl
theorem Kl:prog.cellsOf 40=2:=by kernel_rfl
theorem Km:prog.cellsOf 9=1:=by kernel_rfl
theorem Kn:2≤prog.types.size:=of_decide_eq_true (by kernel_rfl)
theorem Hr:∃ n,prog.types.size=n + 2:=⟨prog.types.size - 2,by have:=Kn; omega⟩
set_option maxRecDepth 100000 in
theorem yQ (k:Fc) (h:k.fits):∃ kl,keyOf prog 63 (jJ k)=some kl:=by
 obtain ⟨n,hn⟩:=Hr;obtain ⟨h0,h1,h2,h3,h4⟩:=h;refine ⟨.string (keyBytes [.string k.a.data.toList,.string k.b.data.toList,.string k.r.data.toList,.string k.c.data.toList,.string k.d.data.toList]),?_⟩;unfold keyOf;rw [underlying63];simp only [O5,jJ,Value.formed,underlying63,EL,hn,Value.cells];simp +decide [Program.keyLits,underlying63,underlying40,underlying9,EL,Kl,Km,h0,h1,h2,h3,h4]
theorem M8 (w:af):(zeroValue 178).run prog w=.ok (.agg #[]) w:=by kernel_rfl
theorem EM (b n:Nat) (M:Fc→Option Value) (f:Fc) (w:af) (hf:f.fits) (hV:aJ jJ prog 63 w b n M) (hM:∀ v,M f=some v→v=.agg #[]) :
  Calls prog 64 #[.map (some b),.agg #[.string f.a,.string f.b,.string f.r,.string f.c,.string f.d]] w fun e w'=>e=.returned (.bool (M f).isSome)∧aa w w':=by
 obtain ⟨kl,hkl⟩:=yQ f hf;have UY:Hid (keyOf prog 63 (jJ f)=some kl):=hkl;have HM:Hid ((M f).getD (.agg #[])=.agg #[]):=by
  show _=_;cases e:M f with
  | none=>rfl
  | some v=>exact hM v e
 obtain ⟨W,hW⟩:∃ W,W=w.alloc (.cells #[.string f.a,.string f.b,.string f.r,.string f.c,.string f.d] 63):=⟨_,rfl⟩;have HB:=mY hW;have HV:=ay (hV.below HB.out);have HB2:Hid (aa w (W.alloc (.cells #[] 178))):=HB.out.alloc HB.out.size _;clear hkl hV hM;go_enter func64,ntmps64;go_wp2_with (at_lookup; rw [← hW]; clear hW; refine dz _ rfl _ _ 114 rfl 63 178 Hq underlying114 (M8 _) b n M rfl HV.out f kl rfl UY.out ?_; rw [HM.out]);go_ret;exact ⟨rfl,HB2.out⟩
set_option maxRecDepth 8000 in
theorem mE (ad:Option Addr) (cap:Nat) (ts:List Fc) (t:Fc) (w:af) (hlen:ts.length≤1048576) (hs:jP w ad ts) :
  Calls prog 54 #[.slice ad ts.length cap,.agg #[.string t.a,.string t.b,.string t.r,.string t.c,.string t.d]] w fun e w'=>e=.returned (.bool (dG ts t))∧aa w w':=by
 have HS:=ay hs;clear hs;obtain ⟨W0,hW0⟩:∃ W0,W0=w.alloc (.cells #[.string t.a,.string t.b,.string t.r,.string t.c,.string t.d] 63):=⟨_,rfl⟩;have HB0:=mY hW0;have HX0:Hid (W0.cell? ⟨w.heap.size,0,none⟩=some (.string t.a)∧W0.cell? ⟨w.heap.size,1,none⟩=some (.string t.b)∧W0.cell? ⟨w.heap.size,2,none⟩=some (.string t.r)∧W0.cell? ⟨w.heap.size,3,none⟩=some (.string t.c)∧W0.cell? ⟨w.heap.size,4,none⟩=some (.string t.d)∧w.heap.size < W0.heap.size):=by show _∧_; rw [hW0]; refine ⟨?_,?_,?_,?_,?_,?_⟩ <;> simp
 go_enter func54,ntmps54;go_wp2;rw [← hW0];clear hW0;go_loopw [5] (fun i wr=>∃ k:Nat,k≤ts.length∧i=.int .i64 k∧Hid (dG (ts.drop k) t=dG ts t)∧Hid (aa W0 wr)) (fun i _=>ts.length - (intOf i).toNat);case atStart=>exact ⟨0,Sm _,rfl,rfl,Si _ _⟩
 obtain ⟨k,hk,rfl,HP,HB⟩:=hrel;have Tt:Hid (aa w wr):=HB0.out.trans (HB.out.mono HB0.out.size);by_cases hlt:k < ts.length
 ·rcases HS.out.below Tt.out with hnil | ⟨b,off,rfl,hb,hr⟩
  ·rw [hnil] at hlt; simp at hlt
  obtain ⟨t0,t1,t2,t3,t4⟩:=hr k hlt;have x0:=mK HB.out HX0.out.2.2.2.2.2 HX0.out.1;have x1:=mK HB.out HX0.out.2.2.2.2.2 HX0.out.2.1;have x2:=mK HB.out HX0.out.2.2.2.2.2 HX0.out.2.2.1;have x3:=mK HB.out HX0.out.2.2.2.2.2 HX0.out.2.2.2.1;have x4:=mK HB.out HX0.out.2.2.2.2.2 HX0.out.2.2.2.2.1;have hk1:=bH k;have hk2:(k:Int) < (ts.length:Int):=by omega
  have HD:Hid (dG ts t=(CX ts[k] t || dG (ts.drop (k + 1)) t)):=by show _=_; rw [← HP.out]; exact Kk hlt
  clear hr;cases hq:CX ts[k] t;case true=>
   have heq:=M5 ts[k] t hq;have HN:Hid (dG ts t=true):=by show _=_; rw [HD.out,hq]; rfl
   clear hq;go_wp2_with fail;go_region_held3 (fun w'=>w'.cell? ⟨b,off + k * 5,none⟩=some (.string ts[k].a)∧w'.cell? ⟨b,off + k * 5 + 1,none⟩=some (.string ts[k].b)∧w'.cell? ⟨b,off + k * 5 + 2,none⟩=some (.string ts[k].r)∧w'.cell? ⟨b,off + k * 5 + 3,none⟩=some (.string ts[k].c)∧w'.cell? ⟨b,off + k * 5 + 4,none⟩=some (.string ts[k].d)∧w'.cell? ⟨w.heap.size,0,none⟩=some (.string t.a)∧w'.cell? ⟨w.heap.size,1,none⟩=some (.string t.b)∧w'.cell? ⟨w.heap.size,2,none⟩=some (.string t.r)∧w'.cell? ⟨w.heap.size,3,none⟩=some (.string t.c)∧w'.cell? ⟨w.heap.size,4,none⟩=some (.string t.d)∧aa wr w') (first | assumption | exact ⟨t0,t1,t2,t3,t4,x0,x1,x2,x3,x4,(Si _ _).drew⟩) (fail);rename_i hH;have HG:Hid (aa wr _):=hH.2.2.2.2.2.2.2.2.2.2;clear hH t0 t1 t2 t3 t4 x0 x1 x2 x3 x4 heq;go_wp2;go_ret;exact ⟨by rw [HN.out]; rfl,Tt.out.trans (HG.out.mono Tt.out.size)⟩
  have heq:=M5 ts[k] t hq;have Tu:Hid (dG (ts.drop (k + 1)) t=dG ts t):=by show _=_; rw [HD.out,hq]; rfl
  clear hq;go_wp2_with fail;go_region_held3 (fun w'=>w'.cell? ⟨b,off + k * 5,none⟩=some (.string ts[k].a)∧w'.cell? ⟨b,off + k * 5 + 1,none⟩=some (.string ts[k].b)∧w'.cell? ⟨b,off + k * 5 + 2,none⟩=some (.string ts[k].r)∧w'.cell? ⟨b,off + k * 5 + 3,none⟩=some (.string ts[k].c)∧w'.cell? ⟨b,off + k * 5 + 4,none⟩=some (.string ts[k].d)∧w'.cell? ⟨w.heap.size,0,none⟩=some (.string t.a)∧w'.cell? ⟨w.heap.size,1,none⟩=some (.string t.b)∧w'.cell? ⟨w.heap.size,2,none⟩=some (.string t.r)∧w'.cell? ⟨w.heap.size,3,none⟩=some (.string t.c)∧w'.cell? ⟨w.heap.size,4,none⟩=some (.string t.d)∧aa wr w') (first | assumption | exact ⟨t0,t1,t2,t3,t4,x0,x1,x2,x3,x4,(Si _ _).drew⟩) (fail);rename_i hH;have HG:Hid (aa W0 _):=HB.out.trans (hH.2.2.2.2.2.2.2.2.2.2.mono HB.out.size);clear hH t0 t1 t2 t3 t4 x0 x1 x2 x3 x4 heq;go_wp2;go_roundw;case rel=>exact ⟨k + 1,by omega,by go_num,Tu,HG⟩
  simp [intOf] <;> omega
 have HN:Hid (dG ts t=false):=by show _=_; rw [← HP.out,List.drop_of_length_le (by omega)]; rfl
 go_wp2;go_ret;exact ⟨by rw [HN.out]; rfl,Tt.out⟩
theorem aj {p:Prop} (h:p):Hid p:=h
structure HW (w:World) (U2:Option Addr) (ts:List Tp) (Tm:Option Addr) (rows:List ER) (adK:Option Addr) (known:List Fc) (UI:Option Addr) (truth:List Fc):Prop where
 tup:Sl w U2 ts
 ex:fQ w Tm rows
 kn:jP w adK known
 tr:jP w UI truth
theorem HW.below {w w':af} {U2:Option Addr} {ts:List Tp} {Tm:Option Addr} {rows:List ER} {adK:Option Addr} {known:List Fc} {UI:Option Addr} {truth:List Fc} (h:HW w U2 ts Tm rows adK known UI truth) (hB:aa w w'):HW w' U2 ts Tm rows adK known UI truth :=
 ⟨h.tup.below hB,h.ex.below hB,h.kn.below hB,h.tr.below hB⟩
def yR (a b c d:ByteArray):Bool:=a.toList == c.toList && b.toList == d.toList
theorem iY (a b c d:dB) {v:Bool} (h:yR a b c d=v) (w:af) :
  (binOp .eql 40 (.agg #[.string a,.string b]) (.agg #[.string c,.string d])).run prog w=.ok (.bool v) w:=by
 subst h;go_simp;unfold yR
 (repeat' split) <;> simp_all
theorem EN (a b c d:dB) {v:Bool} (h:yR a b c d=v) (w:af) :
  (binOp .neq 40 (.agg #[.string a,.string b]) (.agg #[.string c,.string d])).run prog w=.ok (.bool (!v)) w:=by
 subst h;go_simp;unfold yR
 (repeat' split) <;> simp_all
theorem fQ.at0 {w:af} {ad:Option Addr} {rs:List ER} (h:fQ w ad rs) {k:Nat} (hk:k < rs.length):∃ b off,ad=some ⟨b,off,none⟩∧tK w b (off + k * 5) rs[k]∧b < w.heap.size∧rs[k].ok w:=by
 rcases h with h | ⟨b',off',e,hb,hr,hok⟩
 ·rw [h] at hk; simp at hk
 exact ⟨b',off',e,hr k hk,hb,hok _ (Sd hk)⟩
theorem Sl.at0 {w:af} {ad:Option Addr} {ts:List Tp} (h:Sl w ad ts) {k:Nat} (hk:k < ts.length):∃ b off,ad=some ⟨b,off,none⟩∧Mm w b (off + k * 6) ts[k]∧b < w.heap.size:=by
 rcases h with h | ⟨b',off',e,hb,hr⟩
 ·rw [h] at hk; simp at hk
 exact ⟨b',off',e,hr k hk,hb⟩
theorem mZ.at0 {w:af} {ad:Option Addr} {zs:List Int} (h:mZ w ad zs) {k:Nat} (hk:k < zs.length):∃ b off,ad=some ⟨b,off,none⟩∧w.cell? ⟨b,off + k,none⟩=some (.int .i64 zs[k])∧b < w.heap.size:=by
 rcases h with h | ⟨b',off',e,hb,hr⟩
 ·rw [h] at hk; simp at hk
 exact ⟨b',off',e,hr k hk,hb⟩
def EO (w:World) (f:Fc) (x:ER):World:=(w.alloc (.cells #[.string f.a,.string f.b,.string f.r,.string f.c,.string f.d] 63)).alloc (.cells #[.int .i64 x.e.kind,.slice x.adA x.e.allow.length x.capA,.string x.e.over,.string x.e.name,.slice x.adK x.e.kids.length x.capK] 190)
theorem jm (w:af) (f:Fc) (x:ER):aa w (EO w f x):=by
 unfold EO;exact ((Si _ _).alloc (Sj _) _).alloc (by simp) _
structure EnB (w:World) (B:Nat) (f:Fc) (x:ER):Prop where
 lt:B + 1 < w.heap.size
 f0:w.cell? ⟨B,0,none⟩=some (.string f.a)
 f1:w.cell? ⟨B,1,none⟩=some (.string f.b)
 f2:w.cell? ⟨B,2,none⟩=some (.string f.r)
 f3:w.cell? ⟨B,3,none⟩=some (.string f.c)
 f4:w.cell? ⟨B,4,none⟩=some (.string f.d)
 x0:w.cell? ⟨B + 1,0,none⟩=some (.int .i64 x.e.kind)
 x1:w.cell? ⟨B + 1,1,none⟩=some (.slice x.adA x.e.allow.length x.capA)
 x2:w.cell? ⟨B + 1,2,none⟩=some (.string x.e.over)
 x3:w.cell? ⟨B + 1,3,none⟩=some (.string x.e.name)
 x4:w.cell? ⟨B + 1,4,none⟩=some (.slice x.adK x.e.kids.length x.capK)
theorem EnB.below {w w':af} {B:Nat} {f:Fc} {x:ER} (h:EnB w B f x) (hB:aa w w'):EnB w' B f x:=by
 have h0:B < w.heap.size:=by have:=h.lt; omega
 have c0:∀ o,w'.cell? ⟨B,o,none⟩=w.cell? ⟨B,o,none⟩:=fun o=>hB.cell (p:=⟨B,o,none⟩) h0;have c1:∀ o,w'.cell? ⟨B + 1,o,none⟩=w.cell? ⟨B + 1,o,none⟩:=fun o=>hB.cell (p:=⟨B + 1,o,none⟩) h.lt;exact ⟨Sg h.lt hB.size,(c0 _).trans h.f0,(c0 _).trans h.f1,(c0 _).trans h.f2,(c0 _).trans h.f3,(c0 _).trans h.f4,(c1 _).trans h.x0,(c1 _).trans h.x1,(c1 _).trans h.x2,(c1 _).trans h.x3,(c1 _).trans h.x4⟩
theorem mG (w:af) (f:Fc) (x:ER):EnB (EO w f x) w.heap.size f x:=by
 unfold EO;constructor <;> simp
def yS (known:List Fc) (f:Fc) (t:Tp):Bool:=(t.a.toList == f.a.toList && t.b.toList == f.b.toList && t.r.toList == f.r.toList) && (if t.s.toList.isEmpty then t.c.toList == f.c.toList && t.d.toList == f.d.toList else dG known ⟨t.c,t.d,t.s,f.c,f.d⟩)
theorem Ht {ts:List Tp} {k:Nat} (h:k < ts.length) (known:List Fc) (f:Fc):eu (ts.drop k) known f=(yS known f ts[k] || eu (ts.drop (k + 1)) known f):=by
 unfold eu; rw [SH h]; rfl
def Bz (known:List Fc) (over name:ByteArray) (f:Fc) (t:Tp):Bool:=(t.a.toList == f.a.toList && t.b.toList == f.b.toList && t.r.toList == over.toList) && dG known ⟨t.c,t.d,name,f.c,f.d⟩
theorem Hu {ts:List Tp} {k:Nat} (h:k < ts.length) (known:List Fc) (over name:dB) (f:Fc):fI (ts.drop k) known over name f=(Bz known over name f ts[k] || fI (ts.drop (k + 1)) known over name f):=by
 unfold fI; rw [SH h]; rfl
theorem qa {s:ByteArray}:(s.toList == [])=s.toList.isEmpty:=by cases s.toList <;> rfl
end Go.Proofs.YtdmniljjnaebbaaGreatDoor
