/- What a right schema says of its expressions and their nodes. -/
import Derived.Test.YtajkkeikihhejaaGreatSq
import Derived.Test.YtajkkeikihhejaaGreatJ29
open Go.Proofs.Tryz
set_option maxHeartbeats 80000000
namespace Go.Proofs.YtajkkeikihhejaaGreat
set_option linter.unusedVariables false
open Pl
def Jz (es:List Ex):Prop:=∀ (i:Nat) (h:i < es.length),∀ x ∈ es[i].kids,0≤x∧x < (i:Int)
theorem Iu {es:List Ex} (h:aN es=true):Jz es:=by
 intro i hi x hx;unfold aN at h;simp only [SB,SN] at h;have h1:=h.1.1.2;unfold iZ at h1;rw [SQ] at h1;have h2:=h1 i (by simpa using hi);unfold kM lN at h2;rw [SH hi] at h2;simp only [Option.map_some,Option.getD_some,SQ,SB,SN] at h2;have:=h2 x hx;omega
theorem Iw {ts:List Ty} (h:bz ts=true) {t:Ty} (ht:t ∈ ts) {r:Rl} (hr:r ∈ t.rels):aQ r.name=true∧aN r.expr=true:=by
 unfold bz at h;simp only [SB] at h;obtain ⟨j,hj,rfl⟩:=Tv ht;have h1:=oP h.2 j hj;unfold kF at h1;rw [SH hj] at h1;simp only [SB] at h1;obtain ⟨k,hk,rfl⟩:=Tv hr;have h2:=oO h1.2 k hk;unfold l5 at h2;rw [SH hk] at h2;simp only [SB] at h2;exact ⟨h2.1.1,h2.2⟩
structure Fc where
 a:ByteArray
 b:ByteArray
 r:ByteArray
 c:ByteArray
 d:ByteArray
def Fc.u (f:Fc):ByteArray × ByteArray:=(f.c,f.d)
def wH (x y:Fc):Bool:=x.a.toList == y.a.toList && x.b.toList == y.b.toList && x.r.toList == y.r.toList && x.c.toList == y.c.toList && x.d.toList == y.d.toList
theorem uY {x y:Fc}:wH x y=true ↔ x=y:=by
 constructor
 ·intro h;unfold wH at h;simp only [SB,beq_iff_eq] at h;obtain ⟨⟨⟨⟨h1,h2⟩,h3⟩,h4⟩,h5⟩:=h;cases x; cases y;simp only at h1 h2 h3 h4 h5;rw [jT h1,jT h2,jT h3,jT h4,jT h5]
 rintro rfl; unfold wH; simp
def cZ (out:List Fc) (f:Fc):Bool:=out.any fun g=>wH g f
theorem gJ {out:List Fc} {f:Fc}:cZ out f=true ↔ f ∈ out:=by
 unfold cZ;rw [Tq];constructor
 ·rintro ⟨g,hg,h⟩; rw [← uY.1 h]; exact hg
 intro h; exact ⟨f,h,uY.2 rfl⟩
def FP (u:ByteArray × ByteArray) (x y:List Fc):Prop:=∀ g:Fc,g.u=u→(g ∈ x ↔ g ∈ y)
theorem wI {x y:List Fc} {f:Fc} (h:FP f.u x y):cZ x f=cZ y f:=by
 rw [Bool.eq_iff_iff,gJ,gJ]; exact h f rfl
def fB (l:List Tp) (known:List Fc) (f:Fc):Bool:=l.any fun t=>(t.a.toList == f.a.toList && t.b.toList == f.b.toList && t.r.toList == f.r.toList) && (if t.s.toList.isEmpty then t.c.toList == f.c.toList && t.d.toList == f.d.toList else cZ known ⟨t.c,t.d,t.s,f.c,f.d⟩)
def gM (l:List Tp) (known:List Fc) (over name:ByteArray) (f:Fc):Bool:=l.any fun t=>(t.a.toList == f.a.toList && t.b.toList == f.b.toList && t.r.toList == over.toList) && cZ known ⟨t.c,t.d,name,f.c,f.d⟩
def jB (l:List Tp) (es:List Ex) (truth:List Fc) (f:Fc):Nat→List Fc→Nat→Bool
 | 0,_,_=>false
 | k + 1,known,n=>match es[n]? with
  | none=>false
  | some x =>
   if x.kind=1 then fB l known f
   else if x.kind=2 then cZ known ⟨f.a,f.b,x.name,f.c,f.d⟩
   else if x.kind=3 then gM l known x.over x.name f
   else if x.kind=4 then x.kids.any fun i=>jB l es truth f k known i.toNat
   else if x.kind=5 then x.kids.all fun i=>jB l es truth f k known i.toNat
   else if x.kind=6 then jB l es truth f k known (x.kids.getD 0 0).toNat && !jB l es truth f k truth (x.kids.getD 1 0).toNat
   else false
theorem Iy {l:List Tp} {x y:List Fc} {f:Fc} (h:FP f.u x y):fB l x f=fB l y f:=by
 unfold fB;congr 1
 funext t
 rw [wI (x:=x) (y:=y) (f:=⟨t.c,t.d,t.s,f.c,f.d⟩) h]
theorem Iz {l:List Tp} {x y:List Fc} {ov nm:ByteArray} {f:Fc} (h:FP f.u x y):gM l x ov nm f=gM l y ov nm f:=by
 unfold gM;congr 1
 funext t
 rw [wI (x:=x) (y:=y) (f:=⟨t.c,t.d,nm,f.c,f.d⟩) h]
theorem tK {l:List Tp} {es:List Ex} {f:Fc} {t1 t2:List Fc} (ht:FP f.u t1 t2):∀ (k:Nat) (x y:List Fc) (n:Nat),FP f.u x y→jB l es t1 f k x n=jB l es t2 f k y n
 | 0,_,_,_,_=>rfl
 | k + 1,x,y,n,h=>by
  unfold jB;cases es[n]? with
  | none=>rfl
  | some e =>
   simp only [Iy h,wI (x:=x) (y:=y) (f:=⟨f.a,f.b,e.name,f.c,f.d⟩) h,Iz h,tK ht k x y _ h,tK ht k t1 t2 _ ht]
def iX (ts:List Ty) (l:List Tp) (out:List Fc) (f:Fc):Bool:=jB l (aL ts f.a f.r) out f (aL ts f.a f.r).length out ((aL ts f.a f.r).length - 1)
theorem CQ (ts:List Ty) (l:List Tp):Loc Fc.u (iX ts l):=fun x y f h=>tK h _ x y _ h
def D9 (ts:List Ty) (st:ByteArray × ByteArray→Int) (n:Int) (o:Al):List (ByteArray × ByteArray):=(au ts).filter fun k=>k.1.toList == o.t.toList && decide (st k=n)
def jG (o:Al) (rel:ByteArray) (xu:List Al):List Fc:=xu.map fun u=>⟨o.t,o.s,rel,u.t,u.s⟩
def x9 (ts:List Ty) (st:ByteArray × ByteArray→Int) (xu:List Al) (n:Int) (o:Al):List Fc:=(D9 ts st n o).flatMap fun k=>jG o k.2 xu
def dx (ts:List Ty) (st:ByteArray × ByteArray→Int) (xo xu:List Al) (n:Int):List Fc:=xo.flatMap (x9 ts st xu n)
theorem IA {ts:List Ty} {st:ByteArray × ByteArray→Int} {xo xu:List Al} {n:Int} {f:Fc} (h:f ∈ dx ts st xo xu n):f.u ∈ xu.map fun u=>(u.t,u.s):=by
 unfold dx x9 jG at h;obtain ⟨o,-,h⟩:=SY.1 h;obtain ⟨k,-,h⟩:=SY.1 h;obtain ⟨u,hu,rfl⟩:=SK.1 h;exact SK.2 ⟨u,hu,rfl⟩
theorem FQ (ts:List Ty) (st:ByteArray × ByteArray→Int) (xo xu:List Al) (n:Int) (p:ByteArray × ByteArray→Bool):(dx ts st xo xu n).filter (fun f=>p f.u)=dx ts st xo (xu.filter fun u=>p (u.t,u.s)) n:=by
 unfold dx x9 jG;rw [List.filter_flatMap];congr 1
 funext o
 rw [List.filter_flatMap];congr 1
 funext k
 rw [List.filter_map];rfl
theorem IB {ts:List Ty} {st:ByteArray × ByteArray→Int} {xo xu:List Al} {n:Int} (h:∀ k ∈ au ts,st k ≠ n):dx ts st xo xu n=[]:=by
 have:∀ o,D9 ts st n o=[]:=fun o=>by
  unfold D9;rw [List.filter_eq_nil_iff];intro k hk;simp [h k hk]
 unfold dx x9;simp [this]
section
variable [DecidableEq Fc]
def mG (ts:List Ty) (l:List Tp) (st:ByteArray × ByteArray→Int) (xo xu:List Al) (N:Nat):List Fc:=(List.range N).foldl (fun out (n:Nat)=>o7 (iX ts l) (dx ts st xo xu (n:Int)) out) []
theorem jW (ts:List Ty) (l:List Tp) (st:ByteArray × ByteArray→Int) (xo xu:List Al) (N:Nat):mG ts l st xo xu (N + 1)=o7 (iX ts l) (dx ts st xo xu (N:Int)) (mG ts l st xo xu N):=by
 unfold mG; rw [List.range_succ,List.foldl_append]; rfl
theorem Lh {ts:List Ty} {l:List Tp} {st:ByteArray × ByteArray→Int} {xo xu:List Al} {N:Nat} (h:∀ k ∈ au ts,st k < (N:Int)):∀ M,N≤M→mG ts l st xo xu M=mG ts l st xo xu N:=by
 intro M hM;obtain ⟨d,rfl⟩:∃ d,M=N + d:=⟨M - N,by omega⟩
 induction d with
 | zero=>rfl
 | succ d ih =>
  rw [Nat.add_succ,jW,ih (by omega),IB fun k hk=>by have:=h k hk; omega];exact Od _
theorem CR (ts:List Ty) (l:List Tp) (st:ByteArray × ByteArray→Int) (xo xu:List Al):∀ N,(mG ts l st xo xu N).Nodup
 | 0=>List.nodup_nil
 | N + 1=>by rw [jW]; exact Lg _ (CR ts l st xo xu N)
end
open Go.ChangeAt Go.ChangeShapes Go.Maps Go.RowKit Go.WideShapes
def wJ (w:World) (b off:Nat) (t:Fc):Prop :=
 w.cell? ⟨b,off,none⟩=some (.string t.a)∧w.cell? ⟨b,off + 1,none⟩=some (.string t.b)∧w.cell? ⟨b,off + 2,none⟩=some (.string t.r)∧w.cell? ⟨b,off + 3,none⟩=some (.string t.c)∧w.cell? ⟨b,off + 4,none⟩=some (.string t.d)
def Sq (w:World) (b off:Nat) (ts:List Fc):Prop:=∀ (i:Nat) (h:i < ts.length),wJ w b (off + i * 5) ts[i]
def wK (w:World) (ad:Option Addr) (ts:List Fc):Prop:=ts=[] ∨ ∃ b off,ad=some ⟨b,off,none⟩∧b < w.heap.size∧Sq w b off ts
theorem wJ.same {w w':ae} {b off:Nat} {t:Fc} (h:wJ w b off t) (hc:∀ o,w'.cell? ⟨b,o,none⟩=w.cell? ⟨b,o,none⟩):wJ w' b off t:=by
 obtain ⟨h0,h1,h2,h3,h4⟩:=h;exact ⟨(hc _).trans h0,(hc _).trans h1,(hc _).trans h2,(hc _).trans h3,(hc _).trans h4⟩
theorem wK.below {w w':ae} {ad:Option Addr} {ts:List Fc} (h:wK w ad ts) (hB:af w w'):wK w' ad ts:=by
 rcases h with h | ⟨b,off,e,hb,hr⟩
 ·exact .inl h
 exact .inr ⟨b,off,e,Sv hb hB.size,fun i hi=>(hr i hi).same fun o=>hB.cell (p:=⟨b,o,none⟩) hb⟩
def Fc.row (t:Fc):List Value:=[.string t.a,.string t.b,.string t.r,.string t.c,.string t.d]
theorem Ea (x y:Fc) {v:Bool} (h:wH x y=v) (w:ae) :
  (binOp .eql 29 (.agg #[.string x.a,.string x.b,.string x.r,.string x.c,.string x.d]) (.agg #[.string y.a,.string y.b,.string y.r,.string y.c,.string y.d])).run prog w=.ok (.bool v) w:=by
 subst h;go_simp;unfold wH
 (repeat' split) <;> simp_all
theorem CS {ts:List Fc} {k:Nat} (h:k < ts.length) {t:Fc}:cZ (ts.drop k) t=(wH ts[k] t || cZ (ts.drop (k + 1)) t):=by
 unfold cZ; rw [Te h]; rfl
def Fc.short (f:Fc):Prop:=f.a.size≤20∧f.b.size≤20∧f.r.size≤20∧f.c.size≤20∧f.d.size≤20
def Oe (w:World) (R B g:Nat):Prop:=g ≠ R∧B≤g∧g < w.heap.size∧(∀ o,w.frozen? ⟨g,o,none⟩=false)∧∃ f:Fc,f.short∧wJ w g 0 f
theorem Oe.only {w w':ae} {R B g:Nat} (h:Oe w R B g) (k:Only R w w'):Oe w' R B g:=by
 obtain ⟨h1,h2,h3,h4,f,hf,hc⟩:=h;exact ⟨h1,h2,Sv h3 k.size,fun o=>by rw [k.frozen h3 h1]; exact h4 o,f,hf,hc.same fun o=>k.cell h3 h1⟩
theorem Og {w:ae} {R B:Nat} {t:TypeId} (hR:R < w.heap.size) (hB:B≤w.heap.size):Oe (w.alloc (.cells #[.string ⟨#[]⟩,.string ⟨#[]⟩,.string ⟨#[]⟩,.string ⟨#[]⟩,.string ⟨#[]⟩] t)) R B w.heap.size:=by
 refine ⟨by omega,hB,by simp,fun o=>by simp,⟨⟨#[]⟩,⟨#[]⟩,⟨#[]⟩,⟨#[]⟩,⟨#[]⟩⟩,⟨by decide,by decide,by decide,by decide,by decide⟩,?_⟩;refine ⟨?_,?_,?_,?_,?_⟩ <;> simp
theorem PN {w:ae} {g:Nat} {x0 x1 x2 x3 x4:Value} (y:Fc) (c0:w.cell? ⟨g,0,none⟩=some x0) (c1:w.cell? ⟨g,1,none⟩=some x1) (c2:w.cell? ⟨g,2,none⟩=some x2) (c3:w.cell? ⟨g,3,none⟩=some x3) (c4:w.cell? ⟨g,4,none⟩=some x4) :
  wJ (((((w.setCell ⟨g,0,none⟩ (.string y.a)).setCell ⟨g,1,none⟩ (.string y.b)).setCell ⟨g,2,none⟩ (.string y.r)).setCell ⟨g,3,none⟩ (.string y.c)).setCell ⟨g,4,none⟩ (.string y.d)) g 0 y:=by
 have far:∀ (W:World) (i j:Nat) (v:Value),i ≠ j→(W.setCell ⟨g,i,none⟩ v).cell? ⟨g,j,none⟩=W.cell? ⟨g,j,none⟩:=fun W i j v h=>by apply World.cell?_setCell_other; intro e; exact h (congrArg Addr.off e)
 have same:∀ (W:World) (i:Nat) (x v:Value),W.cell? ⟨g,i,none⟩=some x→(W.setCell ⟨g,i,none⟩ v).cell? ⟨g,i,none⟩=some v:=fun W i x v h=>by apply World.cell?_setCell_same; exact h
 refine ⟨?_,?_,?_,?_,?_⟩
 ·rw [far _ 4 0 _ (by decide),far _ 3 0 _ (by decide),far _ 2 0 _ (by decide),far _ 1 0 _ (by decide)]; exact same _ 0 _ _ c0
 ·show World.cell? _ ⟨g,1,none⟩=_;rw [far _ 4 1 _ (by decide),far _ 3 1 _ (by decide),far _ 2 1 _ (by decide)]; exact same _ 1 _ _ (by rw [far _ 0 1 _ (by decide)]; exact c1)
 ·show World.cell? _ ⟨g,2,none⟩=_;rw [far _ 4 2 _ (by decide),far _ 3 2 _ (by decide)]; exact same _ 2 _ _ (by rw [far _ 1 2 _ (by decide),far _ 0 2 _ (by decide)]; exact c2)
 ·show World.cell? _ ⟨g,3,none⟩=_;rw [far _ 4 3 _ (by decide)]; exact same _ 3 _ _ (by rw [far _ 2 3 _ (by decide),far _ 1 3 _ (by decide),far _ 0 3 _ (by decide)]; exact c3)
 show World.cell? _ ⟨g,4,none⟩=_;exact same _ 4 _ _ (by rw [far _ 3 4 _ (by decide),far _ 2 4 _ (by decide),far _ 1 4 _ (by decide),far _ 0 4 _ (by decide)]; exact c4)
def Q5 (R B k:Nat) (v:Value) (w:World):Prop:=(k=18→∃ g,v=.pointer (some ⟨g,0,none⟩)∧Oe w R B g)∧(k=17→∃ f:Fc,v=.agg #[.string f.a,.string f.b,.string f.r,.string f.c,.string f.d]∧f.short)∧(k < 17→Kd.ok R w v (Ey [.strs 3,.eq (Value.pointer (some ⟨R,0,none⟩)),.idx 3,.elt 3,.str,.obj,.strs 4,.eq (Value.pointer (some ⟨R,0,none⟩)),.idx 4,.elt 4,.str,.strs 3,.eq (Value.pointer (some ⟨R,0,none⟩)),.idx 3,.elt 3,.str,.obj] k))
theorem Q5.only {R B k:Nat} {v:Value} {w w':ae} (h:Q5 R B k v w) (ho:Only R w w'):Q5 R B k v w' :=
 ⟨fun e=>by obtain ⟨g,e1,hg⟩:=h.1 e; exact ⟨g,e1,hg.only ho⟩,h.2.1,fun e=>Kd.only ho _ (h.2.2 e)⟩
theorem Q5.no {R B k:Nat} {v:Value} {w:ae} (hk:k < 17) (h:Kd.ok R w v (Ey [.strs 3,.eq (Value.pointer (some ⟨R,0,none⟩)),.idx 3,.elt 3,.str,.obj,.strs 4,.eq (Value.pointer (some ⟨R,0,none⟩)),.idx 4,.elt 4,.str,.strs 3,.eq (Value.pointer (some ⟨R,0,none⟩)),.idx 3,.elt 3,.str,.obj] k)):Q5 R B k v w:=⟨fun e=>by omega,fun e=>by omega,fun _=>h⟩
set_option maxRecDepth 4000 in
theorem Oh (R:Nat) (ad:Option Addr) (len cap:Nat) (w:ae) (h:Rd w R ad len cap) :
  Calls prog 50 #[.pointer (some ⟨R,0,none⟩)] w fun e w'=>(∃ f:Fc,e=.returned (.agg #[.string f.a,.string f.b,.string f.r,.string f.c,.string f.d])∧f.short)∧Rd w' R ad len cap∧Only R w w':=by
 have H:=az h;have WA:=h.lt;have FAR:Hid (∀ g,w.heap.size≤g→0 < len→∀ b off,ad=some ⟨b,off,none⟩→b ≠ g):=fun g hg h0 b off e=>by
  obtain ⟨b',off',e',-,hb',-⟩:=h.bytes h0;rw [e] at e'; injection e' with e'; injection e' with e1 e2; omega
 clear h;go_enter func50,ntmps50;go_wp2_with fail;refine fD 19 (fun f=>{ tmps:=List.toArray (Value.pointer (some ⟨R,0,none⟩)::undef::.pointer (some ⟨w.heap.size,0,none⟩)::f 18::f 0::f 1::f 2::f 3::f 4::f 5::f 6::f 7::f 8::f 9::f 10::f 11::f 12::f 13::f 14::f 15::f 16::f 17::undef::undef::undef::undef::undef::undef::undef::undef::undef::undef::undef::[]),defers:=[] }) (fun k v w'=>Q5 R (w.heap.size + 1) k v w') (fun w'=>Rd w' R ad len cap∧Only R (w.alloc (.cells #[.string ⟨#[]⟩,.string ⟨#[]⟩,.string ⟨#[]⟩,.string ⟨#[]⟩,.string ⟨#[]⟩] 29)) w') (by kernel_rfl) rfl (by kernel_rfl) (by kernel_rfl) rfl ⟨H.out.below (((Sz _ _).alloc (Sy _) _).drew),(Only.refl _ _).drewN 1⟩ ?step ?fin;case step =>
  rintro i hi o ho f w' ⟨hR',Ud⟩ hpre;have HR:=az hR';have HO:=az Ud;have hsz:w.heap.size + 1≤w'.heap.size:=by have:=Ud.size; simpa using this
  have hRl:R < w'.heap.size:=hR'.lt;have HM:Hid (∀ e ∈ o.after,Region.binds .any e=true→Q5 R (w.heap.size + 1) e.on (f e.on) w'):=hpre;have KAL:Hid (∀ ob:Obj,Only R w' (w'.alloc ob)):=fun ob=>(Only.refl R w').alloc ob;clear hR' Ud hpre;have hc:=Jk (i:=i) (by omega);clear hi
  repeat' rcases hc with rfl | hc
  ·cases ho;refine aa rfl fun K HK=>?_;clear HM;dsimp only;go_simp;exact HK.out _ _ ⟨_,by simp [upd],⟨HR.out.alloc _,HO.out.alloc _⟩,.no (by decide) ⟨_,rfl,fo w' R hRl (xs:=[_,_,_]) (by decide)⟩,fun k u hu=>hu.only (KAL.out _)⟩
  ·cases ho;refine aa rfl fun K HK=>?_;clear HM;dsimp only;go_simp;exact HK.out _ _ ⟨Value.pointer (some ⟨R,0,none⟩),by simp [upd],⟨HR.out,HO.out⟩,.no (by decide) rfl,fun k u hu=>hu⟩
  ·cases ho;have e1:f 1=Value.pointer (some ⟨R,0,none⟩):=(HM.out ⟨1,.data⟩ (by simp) rfl).2.2 (by decide);refine aa rfl fun K HK=>?_;clear HM;simp only [e1];go_simp;refine (bQ R ad len cap 3 _ HR.out (by omega) (by omega)).mono ?_;rintro e w5 ⟨⟨x,rfl,hx0,hx1⟩,TW,TT⟩;obtain ⟨x,rfl⟩:∃ y:Nat,x=(y:Int):=⟨x.toNat,by omega⟩;have TU:Hid (Rd w5 R ad len cap∧Only R w' w5):=⟨TW,TT⟩;clear TW TT;go_wp2_with fail;exact HK.out _ _ ⟨.int .i64 (x:Int),by simp [upd,e1],⟨TU.out.1,HO.out.trans TU.out.2⟩,.no (by decide) ⟨x,rfl,by omega⟩,fun k u hu=>hu.only TU.out.2⟩
  ·cases ho;obtain ⟨g,e1,hS⟩:=(HM.out ⟨0,.data⟩ (by simp) rfl).2.2 (by decide);obtain ⟨x,e2,hx⟩:=(HM.out ⟨2,.data⟩ (by simp) rfl).2.2 (by decide);replace e1:f 0=_:=e1;replace e2:f 2=_:=e2;have HS:=az hS;clear hS;have hx0:=bq x;have hx1:(x:Int) < 3:=by omega
   refine aa rfl fun K HK=>?_;clear HM;simp only [e1,e2];go_simp;exact HK.out _ _ ⟨.pointer (some ⟨g,x,none⟩),by simp [upd,e1,e2],⟨HR.out,HO.out⟩,.no (by decide) ⟨g,x,rfl,hx,HS.out⟩,fun k u hu=>hu⟩
  ·cases ho;obtain ⟨g,x,e1,hx,hS⟩:=(HM.out ⟨3,.data⟩ (by simp) rfl).2.2 (by decide);replace e1:f 3=_:=e1;obtain ⟨t,ht,hcell⟩:=hS.2.2 x hx;clear hS;refine aa rfl fun K HK=>?_;clear HM;simp only [e1];go_simp;exact HK.out _ _ ⟨.string t,by simp [upd,e1],⟨HR.out,HO.out⟩,.no (by decide) ⟨t,rfl,ht⟩,fun k u hu=>hu⟩
  ·cases ho;obtain ⟨t,e1,ht⟩:=(HM.out ⟨4,.data⟩ (by simp) rfl).2.2 (by decide);replace e1:f 4=_:=e1;refine aa rfl fun K HK=>?_;clear HM;simp only [e1];go_simp;exact HK.out _ _ ⟨.agg #[.string ⟨#[100,111,99]⟩,.string t],by simp [upd,e1],⟨HR.out,HO.out⟩,.no (by decide) ⟨_,t,rfl,by decide,ht⟩,fun k u hu=>hu⟩
  ·cases ho;refine aa rfl fun K HK=>?_;clear HM;dsimp only;go_simp;exact HK.out _ _ ⟨_,by simp [upd],⟨HR.out.alloc _,HO.out.alloc _⟩,.no (by decide) ⟨_,rfl,fo w' R hRl (xs:=[_,_,_,_]) (by decide)⟩,fun k u hu=>hu.only (KAL.out _)⟩
  ·cases ho;refine aa rfl fun K HK=>?_;clear HM;dsimp only;go_simp;exact HK.out _ _ ⟨Value.pointer (some ⟨R,0,none⟩),by simp [upd],⟨HR.out,HO.out⟩,.no (by decide) rfl,fun k u hu=>hu⟩
  ·cases ho;have e1:f 7=Value.pointer (some ⟨R,0,none⟩):=(HM.out ⟨7,.data⟩ (by simp) rfl).2.2 (by decide);refine aa rfl fun K HK=>?_;clear HM;simp only [e1];go_simp;refine (bQ R ad len cap 4 _ HR.out (by omega) (by omega)).mono ?_;rintro e w5 ⟨⟨x,rfl,hx0,hx1⟩,TW,TT⟩;obtain ⟨x,rfl⟩:∃ y:Nat,x=(y:Int):=⟨x.toNat,by omega⟩;have TU:Hid (Rd w5 R ad len cap∧Only R w' w5):=⟨TW,TT⟩;clear TW TT;go_wp2_with fail;exact HK.out _ _ ⟨.int .i64 (x:Int),by simp [upd,e1],⟨TU.out.1,HO.out.trans TU.out.2⟩,.no (by decide) ⟨x,rfl,by omega⟩,fun k u hu=>hu.only TU.out.2⟩
  ·cases ho;obtain ⟨g,e1,hS⟩:=(HM.out ⟨6,.data⟩ (by simp) rfl).2.2 (by decide);obtain ⟨x,e2,hx⟩:=(HM.out ⟨8,.data⟩ (by simp) rfl).2.2 (by decide);replace e1:f 6=_:=e1;replace e2:f 8=_:=e2;have HS:=az hS;clear hS;have hx0:=bq x;have hx1:(x:Int) < 4:=by omega
   refine aa rfl fun K HK=>?_;clear HM;simp only [e1,e2];go_simp;exact HK.out _ _ ⟨.pointer (some ⟨g,x,none⟩),by simp [upd,e1,e2],⟨HR.out,HO.out⟩,.no (by decide) ⟨g,x,rfl,hx,HS.out⟩,fun k u hu=>hu⟩
  ·cases ho;obtain ⟨g,x,e1,hx,hS⟩:=(HM.out ⟨9,.data⟩ (by simp) rfl).2.2 (by decide);replace e1:f 9=_:=e1;obtain ⟨t,ht,hcell⟩:=hS.2.2 x hx;clear hS;refine aa rfl fun K HK=>?_;clear HM;simp only [e1];go_simp;exact HK.out _ _ ⟨.string t,by simp [upd,e1],⟨HR.out,HO.out⟩,.no (by decide) ⟨t,rfl,ht⟩,fun k u hu=>hu⟩
  ·cases ho;refine aa rfl fun K HK=>?_;clear HM;dsimp only;go_simp;exact HK.out _ _ ⟨_,by simp [upd],⟨HR.out.alloc _,HO.out.alloc _⟩,.no (by decide) ⟨_,rfl,fo w' R hRl (xs:=[_,_,_]) (by decide)⟩,fun k u hu=>hu.only (KAL.out _)⟩
  ·cases ho;refine aa rfl fun K HK=>?_;clear HM;dsimp only;go_simp;exact HK.out _ _ ⟨Value.pointer (some ⟨R,0,none⟩),by simp [upd],⟨HR.out,HO.out⟩,.no (by decide) rfl,fun k u hu=>hu⟩
  ·cases ho;have e1:f 12=Value.pointer (some ⟨R,0,none⟩):=(HM.out ⟨12,.data⟩ (by simp) rfl).2.2 (by decide);refine aa rfl fun K HK=>?_;clear HM;simp only [e1];go_simp;refine (bQ R ad len cap 3 _ HR.out (by omega) (by omega)).mono ?_;rintro e w5 ⟨⟨x,rfl,hx0,hx1⟩,TW,TT⟩;obtain ⟨x,rfl⟩:∃ y:Nat,x=(y:Int):=⟨x.toNat,by omega⟩;have TU:Hid (Rd w5 R ad len cap∧Only R w' w5):=⟨TW,TT⟩;clear TW TT;go_wp2_with fail;exact HK.out _ _ ⟨.int .i64 (x:Int),by simp [upd,e1],⟨TU.out.1,HO.out.trans TU.out.2⟩,.no (by decide) ⟨x,rfl,by omega⟩,fun k u hu=>hu.only TU.out.2⟩
  ·cases ho;obtain ⟨g,e1,hS⟩:=(HM.out ⟨11,.data⟩ (by simp) rfl).2.2 (by decide);obtain ⟨x,e2,hx⟩:=(HM.out ⟨13,.data⟩ (by simp) rfl).2.2 (by decide);replace e1:f 11=_:=e1;replace e2:f 13=_:=e2;have HS:=az hS;clear hS;have hx0:=bq x;have hx1:(x:Int) < 3:=by omega
   refine aa rfl fun K HK=>?_;clear HM;simp only [e1,e2];go_simp;exact HK.out _ _ ⟨.pointer (some ⟨g,x,none⟩),by simp [upd,e1,e2],⟨HR.out,HO.out⟩,.no (by decide) ⟨g,x,rfl,hx,HS.out⟩,fun k u hu=>hu⟩
  ·cases ho;obtain ⟨g,x,e1,hx,hS⟩:=(HM.out ⟨14,.data⟩ (by simp) rfl).2.2 (by decide);replace e1:f 14=_:=e1;obtain ⟨t,ht,hcell⟩:=hS.2.2 x hx;clear hS;refine aa rfl fun K HK=>?_;clear HM;simp only [e1];go_simp;exact HK.out _ _ ⟨.string t,by simp [upd,e1],⟨HR.out,HO.out⟩,.no (by decide) ⟨t,rfl,ht⟩,fun k u hu=>hu⟩
  ·cases ho;obtain ⟨t,e1,ht⟩:=(HM.out ⟨15,.data⟩ (by simp) rfl).2.2 (by decide);replace e1:f 15=_:=e1;refine aa rfl fun K HK=>?_;clear HM;simp only [e1];go_simp;exact HK.out _ _ ⟨.agg #[.string ⟨#[117,115,101,114]⟩,.string t],by simp [upd,e1],⟨HR.out,HO.out⟩,.no (by decide) ⟨_,t,rfl,by decide,ht⟩,fun k u hu=>hu⟩
  ·cases ho;obtain ⟨t1,t2,e1,h1,h2⟩:=(HM.out ⟨5,.data⟩ (by simp) rfl).2.2 (by decide);obtain ⟨t3,e2,h3⟩:=(HM.out ⟨10,.data⟩ (by simp) rfl).2.2 (by decide);obtain ⟨t4,t5,e3,h4,h5⟩:=(HM.out ⟨16,.data⟩ (by simp) rfl).2.2 (by decide);replace e1:f 5=_:=e1;replace e2:f 10=_:=e2;replace e3:f 16=_:=e3;refine aa rfl fun K HK=>?_;clear HM;simp only [e1,e2,e3];go_simp;exact HK.out _ _ ⟨.agg #[.string t1,.string t2,.string t3,.string t4,.string t5],by simp [upd,e1,e2,e3],⟨HR.out,HO.out⟩,⟨fun e=>absurd e (by decide),fun _=>⟨⟨t1,t2,t3,t4,t5⟩,rfl,h1,h2,h3,h4,h5⟩,fun e=>absurd e (by decide)⟩,fun k u hu=>hu⟩
  cases ho;refine aa rfl fun K HK=>?_;clear HM;dsimp only;go_simp;exact HK.out _ _ ⟨_,by simp [upd],⟨HR.out.alloc _,HO.out.alloc _⟩,⟨fun _=>⟨_,rfl,Og hRl hsz⟩,fun e=>absurd e (by decide),fun e=>absurd e (by decide)⟩,fun k u hu=>hu.only (KAL.out _)⟩
 case fin =>
  rintro o ho f w0 ⟨hR',Ud⟩ hall;obtain ⟨g,e1,hg⟩:=(hall 18 (by omega)).1 rfl;obtain ⟨y,e2,hy⟩:=(hall 17 (by omega)).2.1 rfl;replace e1:f 18=_:=e1;replace e2:f 17=_:=e2;obtain ⟨hgR,hgB,hgl,hgf,z,_,ca,cb,cc,cd,ce⟩:=hg;obtain ⟨w',hw'⟩:∃ w',w'=(((((w0.setCell ⟨g,0,none⟩ (.string y.a)).setCell ⟨g,1,none⟩ (.string y.b)).setCell ⟨g,2,none⟩ (.string y.r)).setCell ⟨g,3,none⟩ (.string y.c)).setCell ⟨g,4,none⟩ (.string y.d)):=⟨_,rfl⟩;have hA:wJ w' g 0 y:=by rw [hw']; exact PN y ca cb cc cd ce
  have hR:Rd w' R ad len cap:=by rw [hw']; exact ((((hR'.setFar hgR (FAR.out _ (by omega))).setFar hgR (FAR.out _ (by omega))).setFar hgR (FAR.out _ (by omega))).setFar hgR (FAR.out _ (by omega))).setFar hgR (FAR.out _ (by omega))
  have hO:Only R (w.alloc (.cells #[.string ⟨#[]⟩,.string ⟨#[]⟩,.string ⟨#[]⟩,.string ⟨#[]⟩,.string ⟨#[]⟩] 29)) w':=by rw [hw']; exact ((((Ud.setNew (by simpa using hgB)).setNew (by simpa using hgB)).setNew (by simpa using hgB)).setNew (by simpa using hgB)).setNew (by simpa using hgB)
  have hgf':∀ o,w'.frozen? ⟨g,o,none⟩=false:=fun o=>by rw [hw']; simpa using hgf o
  have hgl':g < w'.heap.size:=by rw [hw']; simpa using hgl
  clear hR' Ud hall;obtain rfl:=Option.some.inj ho;clear ho;refine aa rfl fun K HK=>?_;simp only [e1,e2];go_simp;rw [← hw'];refine HK.out _ _ ?_;clear HK hw' hgl hgf ca cb cc cd ce;have hOw:Only R w w':=(Only.of_below ((Sz _ _).alloc (Sy _) _)).trans hO;have hnR:w.heap.size ≠ R:=by omega
  have hn:wJ w' w.heap.size 0 ⟨⟨#[]⟩,⟨#[]⟩,⟨#[]⟩,⟨#[]⟩,⟨#[]⟩⟩:=by
   refine wJ.same (w:=w.alloc (.cells #[.string ⟨#[]⟩,.string ⟨#[]⟩,.string ⟨#[]⟩,.string ⟨#[]⟩,.string ⟨#[]⟩] 29)) ?_ fun o=>hO.cell (by simp) hnR;refine ⟨?_,?_,?_,?_,?_⟩ <;> simp
  have hnf:∀ o,w'.frozen? ⟨w.heap.size,o,none⟩=false:=fun o=>by rw [hO.frozen (by simp) hnR]; simp
  have hsz:w.heap.size < w'.heap.size:=by have:=hO.size; simp at this; omega
  have HR:=az hR;have ZM:=az hOw;have HA:Hid (wJ w' g 0 y∧wJ w' w.heap.size 0 ⟨⟨#[]⟩,⟨#[]⟩,⟨#[]⟩,⟨#[]⟩,⟨#[]⟩⟩):=⟨hA,hn⟩;have HY:Hid y.short:=hy;clear hR hO hOw hA hn hy;go_wp2_with fail;refine (iM R ad len cap 5 _ HR.out (by omega) (by omega)).mono ?_;rintro e w1 ⟨⟨x,rfl⟩,Ue,Ua⟩;have HR1:=az Ue;have TE:Hid (Only R w w1):=ZM.out.trans Ua;have hA1:=HA.out.1.same (w':=w1) fun o=>Ua.cell hgl' hgR;have hn1:=HA.out.2.same (w':=w1) fun o=>Ua.cell hsz hnR;have mf:∀ o,w1.frozen? ⟨w.heap.size,o,none⟩=false:=fun o=>by rw [Ua.frozen hsz hnR]; exact hnf o
  have gf:∀ o,w1.frozen? ⟨g,o,none⟩=false:=fun o=>by rw [Ua.frozen hgl' hgR]; exact hgf' o
  have hs1:w.heap.size < w1.heap.size:=Sv hsz Ua.size;have hg1:g < w1.heap.size:=Sv hgl' Ua.size;have hR1l:R < w1.heap.size:=Ue.lt;have hgn:g ≠ w.heap.size:=by omega
  clear hnf hgf' Ue Ua HR ZM HA;cases x;case false=>
   obtain ⟨ca,cb,cc,cd,ce⟩:=hA1;obtain ⟨na,nb,nc,nd,ne⟩:=hn1;go_wp2;exact bodyPost_ret (v:=.agg #[.string y.a,.string y.b,.string y.r,.string y.c,.string y.d]) (by simp [results,Tryz.results50,go_sem, *]) rfl ⟨⟨y,rfl,HY.out⟩,((((HR1.out.setFar hnR (FAR.out _ (Sy _))).setFar hnR (FAR.out _ (Sy _))).setFar hnR (FAR.out _ (Sy _))).setFar hnR (FAR.out _ (Sy _))).setFar hnR (FAR.out _ (Sy _)),((((TE.out.setNew (Sy _)).setNew (Sy _)).setNew (Sy _)).setNew (Sy _)).setNew (Sy _)⟩
  go_wp2_with fail;refine (bQ R ad len cap 2 _ (HR1.out.below ((Sz _ _).alloc (Sy _) _)) (by omega) (by omega)).mono ?_;rintro e w2 ⟨⟨x,rfl,hx0,hx1⟩,hR2,hO2⟩;have U0:Only R w1 w2:=(Only.of_below ((Sz _ _).alloc (Sy _) _)).trans hO2;have hSt:=(fo w1 R hR1l (t:=9) (xs:=[⟨#[103]⟩,⟨#[104]⟩]) (by decide)).only hO2;obtain ⟨q,rfl⟩:∃ q:Nat,x=(q:Int):=⟨x.toNat,by omega⟩;obtain ⟨t,ht,hct⟩:=hSt.2.2 q (by simp; omega);obtain ⟨ca,cb,cc,cd,ce⟩:=hA1.same (w':=w2) fun o=>U0.cell hg1 hgR;obtain ⟨na,nb,nc,nd,ne⟩:=hn1.same (w':=w2) fun o=>U0.cell hs1 hnR;have kf:∀ o,w2.frozen? ⟨w.heap.size,o,none⟩=false:=fun o=>by rw [U0.frozen hs1 hnR]; exact mf o
  have kg:∀ o,w2.frozen? ⟨g,o,none⟩=false:=fun o=>by rw [U0.frozen hg1 hgR]; exact gf o
  have HR2:=az hR2;have Tx:Hid (Only R w w2):=TE.out.trans U0;clear hR2 hO2 U0 hSt mf gf hA1 hn1 HR1 TE;go_wp2;exact bodyPost_ret (v:=.agg #[.string ⟨#[103,114,111,117,112]⟩,.string t,.string ⟨#[109,101,109,98,101,114]⟩,.string y.c,.string y.d]) (by simp [results,Tryz.results50,go_sem, *]) rfl ⟨⟨⟨_,t,_,y.c,y.d⟩,rfl,(by simp only; decide),ht,(by simp only; decide),HY.out.2.2.2.1,HY.out.2.2.2.2⟩,(((((((HR2.out.setFar hgR (FAR.out _ (by omega))).setFar hgR (FAR.out _ (by omega))).setFar hgR (FAR.out _ (by omega))).setFar hnR (FAR.out _ (Sy _))).setFar hnR (FAR.out _ (Sy _))).setFar hnR (FAR.out _ (Sy _))).setFar hnR (FAR.out _ (Sy _))).setFar hnR (FAR.out _ (Sy _)),(((((((Tx.out.setNew (by omega)).setNew (by omega)).setNew (by omega)).setNew (Sy _)).setNew (Sy _)).setNew (Sy _)).setNew (Sy _)).setNew (Sy _)⟩
end Go.Proofs.YtajkkeikihhejaaGreat
