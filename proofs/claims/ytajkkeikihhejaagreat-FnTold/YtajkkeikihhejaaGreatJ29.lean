/- What a right schema says of its expressions and their nodes. -/
import Derived.Test.YtajkkeikihhejaaGreatSq
import Derived.Test.YtajkkeikihhejaaGreatJ28
open Go.Proofs.Tryz
set_option maxHeartbeats 80000000
namespace Go.Proofs.YtajkkeikihhejaaGreat
set_option linter.unusedVariables false
open Pl
def Kn (es:List Ex):Prop:=∀ (i:Nat) (h:i < es.length),∀ x ∈ es[i].kids,0≤x∧x < (i:Int)
theorem Jn {es:List Ex} (h:aK es=true):Kn es:=by
 intro i hi x hx;unfold aK at h;simp only [TU,Ud] at h;have h1:=h.1.1.2;unfold iY at h1;rw [Ub] at h1;have h2:=h1 i (by simpa using hi);unfold kI dC at h2;rw [TY hi] at h2;simp only [Option.map_some,Option.getD_some,Ub,TU,Ud] at h2;have:=h2 x hx;omega
def hasB (ts:List Ty) (t r:ByteArray):Bool:=!(aA ts t r).isEmpty
theorem tT {ts:List Ty} (h:bf ts=true) {t:Ty} (ht:t ∈ ts) {r:Rl} (hr:r ∈ t.rels):aP r.name=true∧aK r.expr=true:=by
 unfold bf at h;simp only [TU] at h;obtain ⟨j,hj,rfl⟩:=Uu ht;have h1:=o7 h.2 j hj;unfold kv at h1;rw [TY hj] at h1;simp only [TU] at h1;obtain ⟨k,hk,rfl⟩:=Uu hr;have h2:=o6 h1.2 k hk;unfold mg at h2;rw [TY hk] at h2;simp only [TU] at h2;exact ⟨h2.1.1,h2.2⟩
theorem AQ {ts:List Ty} {typ:ByteArray}:∀ {es:List Ex},aR ts typ es=true→∀ e ∈ es,oV ts e.allow=true∧ll ts typ e=true
 | [],_,e,he=>by cases he
 | x::es,h,e,he=>by
  unfold aR at h;split at h
  ·rename_i hc;simp only [TU] at hc;rcases List.mem_cons.1 he with rfl | he
   ·exact hc
   exact AQ h e he
  cases h
theorem QG {ts:List Ty} (h:iC ts=true) {t:Ty} (ht:t ∈ ts) {r:Rl} (hr:r ∈ t.rels) {e:Ex} (he:e ∈ r.expr):oV ts e.allow=true∧ll ts t.name e=true:=by
 have h1:=Ub.1 h t ht;have h2:=Ub.1 h1 r hr;exact AQ h2 e he
structure Fc where
 a:ByteArray
 b:ByteArray
 r:ByteArray
 c:ByteArray
 d:ByteArray
def Fc.u (f:Fc):ByteArray × ByteArray:=(f.c,f.d)
def wQ (x y:Fc):Bool:=x.a.toList == y.a.toList && x.b.toList == y.b.toList && x.r.toList == y.r.toList && x.c.toList == y.c.toList && x.d.toList == y.d.toList
theorem vC {x y:Fc}:wQ x y=true ↔ x=y:=by
 constructor
 ·intro h;unfold wQ at h;simp only [TU,beq_iff_eq] at h;obtain ⟨⟨⟨⟨h1,h2⟩,h3⟩,h4⟩,h5⟩:=h;cases x; cases y;simp only at h1 h2 h3 h4 h5;rw [fJ h1,fJ h2,fJ h3,fJ h4,fJ h5]
 rintro rfl; unfold wQ; simp
def bP (out:List Fc) (f:Fc):Bool:=out.any fun g=>wQ g f
theorem dB {out:List Fc} {f:Fc}:bP out f=true ↔ f ∈ out:=by
 unfold bP;rw [Uo];constructor
 ·rintro ⟨g,hg,h⟩; rw [← vC.1 h]; exact hg
 intro h; exact ⟨f,h,vC.2 rfl⟩
def Gu (u:ByteArray × ByteArray) (x y:List Fc):Prop:=∀ g:Fc,g.u=u→(g ∈ x ↔ g ∈ y)
theorem wR {x y:List Fc} {f:Fc} (h:Gu f.u x y):bP x f=bP y f:=by
 rw [Bool.eq_iff_iff,dB,dB]; exact h f rfl
def dZ (l:List Tp) (known:List Fc) (f:Fc):Bool:=l.any fun t=>(t.a.toList == f.a.toList && t.b.toList == f.b.toList && t.r.toList == f.r.toList) && (if t.s.toList.isEmpty then t.c.toList == f.c.toList && t.d.toList == f.d.toList else bP known ⟨t.c,t.d,t.s,f.c,f.d⟩)
def gp (l:List Tp) (known:List Fc) (over name:ByteArray) (f:Fc):Bool:=l.any fun t=>(t.a.toList == f.a.toList && t.b.toList == f.b.toList && t.r.toList == over.toList) && bP known ⟨t.c,t.d,name,f.c,f.d⟩
def dS (l:List Tp) (es:List Ex) (truth:List Fc) (f:Fc):Nat→List Fc→Nat→Bool
 | 0,_,_=>false
 | k + 1,known,n=>match es[n]? with
  | none=>false
  | some x =>
   if x.kind=1 then dZ l known f
   else if x.kind=2 then bP known ⟨f.a,f.b,x.name,f.c,f.d⟩
   else if x.kind=3 then gp l known x.over x.name f
   else if x.kind=4 then x.kids.any fun i=>dS l es truth f k known i.toNat
   else if x.kind=5 then x.kids.all fun i=>dS l es truth f k known i.toNat
   else if x.kind=6 then dS l es truth f k known (x.kids.getD 0 0).toNat && !dS l es truth f k truth (x.kids.getD 1 0).toNat
   else false
theorem Jo {l:List Tp} {x y:List Fc} {f:Fc} (h:Gu f.u x y):dZ l x f=dZ l y f:=by
 unfold dZ;congr 1
 funext t
 rw [wR (x:=x) (y:=y) (f:=⟨t.c,t.d,t.s,f.c,f.d⟩) h]
theorem Jp {l:List Tp} {x y:List Fc} {ov nm:ByteArray} {f:Fc} (h:Gu f.u x y):gp l x ov nm f=gp l y ov nm f:=by
 unfold gp;congr 1
 funext t
 rw [wR (x:=x) (y:=y) (f:=⟨t.c,t.d,nm,f.c,f.d⟩) h]
theorem tV {l:List Tp} {es:List Ex} {f:Fc} {t1 t2:List Fc} (ht:Gu f.u t1 t2):∀ (k:Nat) (x y:List Fc) (n:Nat),Gu f.u x y→dS l es t1 f k x n=dS l es t2 f k y n
 | 0,_,_,_,_=>rfl
 | k + 1,x,y,n,h=>by
  unfold dS;cases es[n]? with
  | none=>rfl
  | some e =>
   simp only [Jo h,wR (x:=x) (y:=y) (f:=⟨f.a,f.b,e.name,f.c,f.d⟩) h,Jp h,tV ht k x y _ h,tV ht k t1 t2 _ ht]
def fC (ts:List Ty) (l:List Tp) (out:List Fc) (f:Fc):Bool:=dS l (aA ts f.a f.r) out f (aA ts f.a f.r).length out ((aA ts f.a f.r).length - 1)
theorem Dr (ts:List Ty) (l:List Tp):Loc Fc.u (fC ts l):=fun x y f h=>tV h _ x y _ h
def AR (ts:List Ty) (st:ByteArray × ByteArray→Int) (n:Int) (o:Al):List (ByteArray × ByteArray):=(au ts).filter fun k=>k.1.toList == o.t.toList && decide (st k=n)
def iZ (o:Al) (rel:ByteArray) (xu:List Al):List Fc:=xu.map fun u=>⟨o.t,o.s,rel,u.t,u.s⟩
def vD (ts:List Ty) (st:ByteArray × ByteArray→Int) (xu:List Al) (n:Int) (o:Al):List Fc:=(AR ts st n o).flatMap fun k=>iZ o k.2 xu
def bY (ts:List Ty) (st:ByteArray × ByteArray→Int) (xo xu:List Al) (n:Int):List Fc:=xo.flatMap (vD ts st xu n)
theorem Jq {ts:List Ty} {st:ByteArray × ByteArray→Int} {xo xu:List Al} {n:Int} {f:Fc} (h:f ∈ bY ts st xo xu n):f.u ∈ xu.map fun u=>(u.t,u.s):=by
 unfold bY vD iZ at h;obtain ⟨o,-,h⟩:=Uf.1 h;obtain ⟨k,-,h⟩:=Uf.1 h;obtain ⟨u,hu,rfl⟩:=Ue.1 h;exact Ue.2 ⟨u,hu,rfl⟩
theorem Gv (ts:List Ty) (st:ByteArray × ByteArray→Int) (xo xu:List Al) (n:Int) (p:ByteArray × ByteArray→Bool):(bY ts st xo xu n).filter (fun f=>p f.u)=bY ts st xo (xu.filter fun u=>p (u.t,u.s)) n:=by
 unfold bY vD iZ;rw [List.filter_flatMap];congr 1
 funext o
 rw [List.filter_flatMap];congr 1
 funext k
 rw [List.filter_map];rfl
theorem Jr {ts:List Ty} {st:ByteArray × ByteArray→Int} {xo xu:List Al} {n:Int} (h:∀ k ∈ au ts,st k ≠ n):bY ts st xo xu n=[]:=by
 have:∀ o,AR ts st n o=[]:=fun o=>by
  unfold AR;rw [List.filter_eq_nil_iff];intro k hk;simp [h k hk]
 unfold bY vD;simp [this]
section
variable [DecidableEq Fc]
def mD (ts:List Ty) (l:List Tp) (st:ByteArray × ByteArray→Int) (xo xu:List Al) (N:Nat):List Fc:=(List.range N).foldl (fun out (n:Nat)=>kD (fC ts l) (bY ts st xo xu (n:Int)) out) []
theorem jm (ts:List Ty) (l:List Tp) (st:ByteArray × ByteArray→Int) (xo xu:List Al) (N:Nat):mD ts l st xo xu (N + 1)=kD (fC ts l) (bY ts st xo xu (N:Int)) (mD ts l st xo xu N):=by
 unfold mD; rw [List.range_succ,List.foldl_append]; rfl
theorem Mk {ts:List Ty} {l:List Tp} {st:ByteArray × ByteArray→Int} {xo xu:List Al} {N:Nat} (h:∀ k ∈ au ts,st k < (N:Int)):∀ M,N≤M→mD ts l st xo xu M=mD ts l st xo xu N:=by
 intro M hM;obtain ⟨d,rfl⟩:∃ d,M=N + d:=⟨M - N,by omega⟩
 induction d with
 | zero=>rfl
 | succ d ih =>
  rw [Nat.add_succ,jm,ih (by omega),Jr fun k hk=>by have:=h k hk; omega];exact O1 _
theorem Dt (ts:List Ty) (l:List Tp) (st:ByteArray × ByteArray→Int) (xo xu:List Al):∀ N,(mD ts l st xo xu N).Nodup
 | 0=>List.nodup_nil
 | N + 1=>by rw [jm]; exact Mj _ (Dt ts l st xo xu N)
end
open Go.ChangeAt Go.ChangeShapes Go.Maps Go.RowKit Go.WideShapes
def wS (w:World) (b off:Nat) (t:Fc):Prop :=
 w.cell? ⟨b,off,none⟩=some (.string t.a)∧w.cell? ⟨b,off + 1,none⟩=some (.string t.b)∧w.cell? ⟨b,off + 2,none⟩=some (.string t.r)∧w.cell? ⟨b,off + 3,none⟩=some (.string t.c)∧w.cell? ⟨b,off + 4,none⟩=some (.string t.d)
def TL (w:World) (b off:Nat) (ts:List Fc):Prop:=∀ (i:Nat) (h:i < ts.length),wS w b (off + i * 5) ts[i]
def BA (w:World) (ad:Option Addr) (ts:List Fc):Prop:=ts=[] ∨ ∃ b off,ad=some ⟨b,off,none⟩∧b < w.heap.size∧TL w b off ts
theorem wS.same {w w':af} {b off:Nat} {t:Fc} (h:wS w b off t) (hc:∀ o,w'.cell? ⟨b,o,none⟩=w.cell? ⟨b,o,none⟩):wS w' b off t:=by
 obtain ⟨h0,h1,h2,h3,h4⟩:=h;exact ⟨(hc _).trans h0,(hc _).trans h1,(hc _).trans h2,(hc _).trans h3,(hc _).trans h4⟩
theorem BA.below {w w':af} {ad:Option Addr} {ts:List Fc} (h:BA w ad ts) (hB:ag w w'):BA w' ad ts:=by
 rcases h with h | ⟨b,off,e,hb,hr⟩
 ·exact .inl h
 exact .inr ⟨b,off,e,TP hb hB.size,fun i hi=>(hr i hi).same fun o=>hB.cell (p:=⟨b,o,none⟩) hb⟩
def Fc.row (t:Fc):List Value:=[.string t.a,.string t.b,.string t.r,.string t.c,.string t.d]
theorem EL (x y:Fc) {v:Bool} (h:wQ x y=v) (w:af) :
  (binOp .eql 29 (.agg #[.string x.a,.string x.b,.string x.r,.string x.c,.string x.d]) (.agg #[.string y.a,.string y.b,.string y.r,.string y.c,.string y.d])).run prog w=.ok (.bool v) w:=by
 subst h;go_simp;unfold wQ
 (repeat' split) <;> simp_all
theorem Du {ts:List Fc} {k:Nat} (h:k < ts.length) {t:Fc}:bP (ts.drop k) t=(wQ ts[k] t || bP (ts.drop (k + 1)) t):=by
 unfold bP; rw [Un h]; rfl
def Fc.short (f:Fc):Prop:=f.a.size≤20∧f.b.size≤20∧f.r.size≤20∧f.c.size≤20∧f.d.size≤20
def O4 (w:World) (R B g:Nat):Prop:=g ≠ R∧B≤g∧g < w.heap.size∧(∀ o,w.frozen? ⟨g,o,none⟩=false)∧∃ f:Fc,f.short∧wS w g 0 f
theorem O4.only {w w':af} {R B g:Nat} (h:O4 w R B g) (k:Only R w w'):O4 w' R B g:=by
 obtain ⟨h1,h2,h3,h4,f,hf,hc⟩:=h;exact ⟨h1,h2,TP h3 k.size,fun o=>by rw [k.frozen h3 h1]; exact h4 o,f,hf,hc.same fun o=>k.cell h3 h1⟩
theorem O5 {w:af} {R B:Nat} {t:TypeId} (hR:R < w.heap.size) (hB:B≤w.heap.size):O4 (w.alloc (.cells #[.string ⟨#[]⟩,.string ⟨#[]⟩,.string ⟨#[]⟩,.string ⟨#[]⟩,.string ⟨#[]⟩] t)) R B w.heap.size:=by
 refine ⟨by omega,hB,by simp,fun o=>by simp,⟨⟨#[]⟩,⟨#[]⟩,⟨#[]⟩,⟨#[]⟩,⟨#[]⟩⟩,⟨by decide,by decide,by decide,by decide,by decide⟩,?_⟩;refine ⟨?_,?_,?_,?_,?_⟩ <;> simp
theorem QH {w:af} {g:Nat} {x0 x1 x2 x3 x4:Value} (y:Fc) (c0:w.cell? ⟨g,0,none⟩=some x0) (c1:w.cell? ⟨g,1,none⟩=some x1) (c2:w.cell? ⟨g,2,none⟩=some x2) (c3:w.cell? ⟨g,3,none⟩=some x3) (c4:w.cell? ⟨g,4,none⟩=some x4) :
  wS (((((w.setCell ⟨g,0,none⟩ (.string y.a)).setCell ⟨g,1,none⟩ (.string y.b)).setCell ⟨g,2,none⟩ (.string y.r)).setCell ⟨g,3,none⟩ (.string y.c)).setCell ⟨g,4,none⟩ (.string y.d)) g 0 y:=by
 have far:∀ (W:World) (i j:Nat) (v:Value),i ≠ j→(W.setCell ⟨g,i,none⟩ v).cell? ⟨g,j,none⟩=W.cell? ⟨g,j,none⟩:=fun W i j v h=>by apply World.cell?_setCell_other; intro e; exact h (congrArg Addr.off e)
 have same:∀ (W:World) (i:Nat) (x v:Value),W.cell? ⟨g,i,none⟩=some x→(W.setCell ⟨g,i,none⟩ v).cell? ⟨g,i,none⟩=some v:=fun W i x v h=>by apply World.cell?_setCell_same; exact h
 refine ⟨?_,?_,?_,?_,?_⟩
 ·rw [far _ 4 0 _ (by decide),far _ 3 0 _ (by decide),far _ 2 0 _ (by decide),far _ 1 0 _ (by decide)]; exact same _ 0 _ _ c0
 ·show World.cell? _ ⟨g,1,none⟩=_;rw [far _ 4 1 _ (by decide),far _ 3 1 _ (by decide),far _ 2 1 _ (by decide)]; exact same _ 1 _ _ (by rw [far _ 0 1 _ (by decide)]; exact c1)
 ·show World.cell? _ ⟨g,2,none⟩=_;rw [far _ 4 2 _ (by decide),far _ 3 2 _ (by decide)]; exact same _ 2 _ _ (by rw [far _ 1 2 _ (by decide),far _ 0 2 _ (by decide)]; exact c2)
 ·show World.cell? _ ⟨g,3,none⟩=_;rw [far _ 4 3 _ (by decide)]; exact same _ 3 _ _ (by rw [far _ 2 3 _ (by decide),far _ 1 3 _ (by decide),far _ 0 3 _ (by decide)]; exact c3)
 show World.cell? _ ⟨g,4,none⟩=_;exact same _ 4 _ _ (by rw [far _ 3 4 _ (by decide),far _ 2 4 _ (by decide),far _ 1 4 _ (by decide),far _ 0 4 _ (by decide)]; exact c4)
def Sq (R B k:Nat) (v:Value) (w:World):Prop:=(k=18→∃ g,v=.pointer (some ⟨g,0,none⟩)∧O4 w R B g)∧(k=17→∃ f:Fc,v=.agg #[.string f.a,.string f.b,.string f.r,.string f.c,.string f.d]∧f.short)∧(k < 17→Kd.ok R w v (Fs [.strs 3,.eq (Value.pointer (some ⟨R,0,none⟩)),.idx 3,.elt 3,.str,.obj,.strs 4,.eq (Value.pointer (some ⟨R,0,none⟩)),.idx 4,.elt 4,.str,.strs 3,.eq (Value.pointer (some ⟨R,0,none⟩)),.idx 3,.elt 3,.str,.obj] k))
theorem Sq.only {R B k:Nat} {v:Value} {w w':af} (h:Sq R B k v w) (ho:Only R w w'):Sq R B k v w' :=
 ⟨fun e=>by obtain ⟨g,e1,hg⟩:=h.1 e; exact ⟨g,e1,hg.only ho⟩,h.2.1,fun e=>Kd.only ho _ (h.2.2 e)⟩
theorem Sq.no {R B k:Nat} {v:Value} {w:af} (hk:k < 17) (h:Kd.ok R w v (Fs [.strs 3,.eq (Value.pointer (some ⟨R,0,none⟩)),.idx 3,.elt 3,.str,.obj,.strs 4,.eq (Value.pointer (some ⟨R,0,none⟩)),.idx 4,.elt 4,.str,.strs 3,.eq (Value.pointer (some ⟨R,0,none⟩)),.idx 3,.elt 3,.str,.obj] k)):Sq R B k v w:=⟨fun e=>by omega,fun e=>by omega,fun _=>h⟩
set_option maxRecDepth 4000 in
theorem O6 (R:Nat) (ad:Option Addr) (len cap:Nat) (w:af) (h:Rd w R ad len cap) :
  Calls prog 50 #[.pointer (some ⟨R,0,none⟩)] w fun e w'=>(∃ f:Fc,e=.returned (.agg #[.string f.a,.string f.b,.string f.r,.string f.c,.string f.d])∧f.short)∧Rd w' R ad len cap∧Only R w w':=by
 have H:=az h;have Xo:=h.lt;have FAR:Hid (∀ g,w.heap.size≤g→0 < len→∀ b off,ad=some ⟨b,off,none⟩→b ≠ g):=fun g hg h0 b off e=>by
  obtain ⟨b',off',e',-,hb',-⟩:=h.bytes h0;rw [e] at e'; injection e' with e'; injection e' with e1 e2; omega
 clear h;go_enter func50,ntmps50;go_wp2_with fail;refine fF 19 (fun f=>{ tmps:=List.toArray (Value.pointer (some ⟨R,0,none⟩)::undef::.pointer (some ⟨w.heap.size,0,none⟩)::f 18::f 0::f 1::f 2::f 3::f 4::f 5::f 6::f 7::f 8::f 9::f 10::f 11::f 12::f 13::f 14::f 15::f 16::f 17::undef::undef::undef::undef::undef::undef::undef::undef::undef::undef::undef::[]),defers:=[] }) (fun k v w'=>Sq R (w.heap.size + 1) k v w') (fun w'=>Rd w' R ad len cap∧Only R (w.alloc (.cells #[.string ⟨#[]⟩,.string ⟨#[]⟩,.string ⟨#[]⟩,.string ⟨#[]⟩,.string ⟨#[]⟩] 29)) w') (by kernel_rfl) rfl (by kernel_rfl) (by kernel_rfl) rfl ⟨H.out.below (((TT _ _).alloc (TS _) _).drew),(Only.refl _ _).drewN 1⟩ ?step ?fin;case step =>
  rintro i hi o ho f w' ⟨hR',U3⟩ hpre;have HR:=az hR';have HO:=az U3;have hsz:w.heap.size + 1≤w'.heap.size:=by have:=U3.size; simpa using this
  have hRl:R < w'.heap.size:=hR'.lt;have HM:Hid (∀ e ∈ o.after,Region.binds .any e=true→Sq R (w.heap.size + 1) e.on (f e.on) w'):=hpre;have KAL:Hid (∀ ob:Obj,Only R w' (w'.alloc ob)):=fun ob=>(Only.refl R w').alloc ob;clear hR' U3 hpre;have hc:=J6 (i:=i) (by omega);clear hi
  repeat' rcases hc with rfl | hc
  ·cases ho;refine aa rfl fun K HK=>?_;clear HM;dsimp only;go_simp;exact HK.out _ _ ⟨_,by simp [upd],⟨HR.out.alloc _,HO.out.alloc _⟩,.no (by decide) ⟨_,rfl,fu w' R hRl (xs:=[_,_,_]) (by decide)⟩,fun k u hu=>hu.only (KAL.out _)⟩
  ·cases ho;refine aa rfl fun K HK=>?_;clear HM;dsimp only;go_simp;exact HK.out _ _ ⟨Value.pointer (some ⟨R,0,none⟩),by simp [upd],⟨HR.out,HO.out⟩,.no (by decide) rfl,fun k u hu=>hu⟩
  ·cases ho;have e1:f 1=Value.pointer (some ⟨R,0,none⟩):=(HM.out ⟨1,.data⟩ (by simp) rfl).2.2 (by decide);refine aa rfl fun K HK=>?_;clear HM;simp only [e1];go_simp;refine (bW R ad len cap 3 _ HR.out (by omega) (by omega)).mono ?_;rintro e w5 ⟨⟨x,rfl,hx0,hx1⟩,UW,UZ⟩;obtain ⟨x,rfl⟩:∃ y:Nat,x=(y:Int):=⟨x.toNat,by omega⟩;have UU:Hid (Rd w5 R ad len cap∧Only R w' w5):=⟨UW,UZ⟩;clear UW UZ;go_wp2_with fail;exact HK.out _ _ ⟨.int .i64 (x:Int),by simp [upd,e1],⟨UU.out.1,HO.out.trans UU.out.2⟩,.no (by decide) ⟨x,rfl,by omega⟩,fun k u hu=>hu.only UU.out.2⟩
  ·cases ho;obtain ⟨g,e1,hS⟩:=(HM.out ⟨0,.data⟩ (by simp) rfl).2.2 (by decide);obtain ⟨x,e2,hx⟩:=(HM.out ⟨2,.data⟩ (by simp) rfl).2.2 (by decide);replace e1:f 0=_:=e1;replace e2:f 2=_:=e2;have HS:=az hS;clear hS;have hx0:=bB x;have hx1:(x:Int) < 3:=by omega
   refine aa rfl fun K HK=>?_;clear HM;simp only [e1,e2];go_simp;exact HK.out _ _ ⟨.pointer (some ⟨g,x,none⟩),by simp [upd,e1,e2],⟨HR.out,HO.out⟩,.no (by decide) ⟨g,x,rfl,hx,HS.out⟩,fun k u hu=>hu⟩
  ·cases ho;obtain ⟨g,x,e1,hx,hS⟩:=(HM.out ⟨3,.data⟩ (by simp) rfl).2.2 (by decide);replace e1:f 3=_:=e1;obtain ⟨t,ht,hcell⟩:=hS.2.2 x hx;clear hS;refine aa rfl fun K HK=>?_;clear HM;simp only [e1];go_simp;exact HK.out _ _ ⟨.string t,by simp [upd,e1],⟨HR.out,HO.out⟩,.no (by decide) ⟨t,rfl,ht⟩,fun k u hu=>hu⟩
  ·cases ho;obtain ⟨t,e1,ht⟩:=(HM.out ⟨4,.data⟩ (by simp) rfl).2.2 (by decide);replace e1:f 4=_:=e1;refine aa rfl fun K HK=>?_;clear HM;simp only [e1];go_simp;exact HK.out _ _ ⟨.agg #[.string ⟨#[100,111,99]⟩,.string t],by simp [upd,e1],⟨HR.out,HO.out⟩,.no (by decide) ⟨_,t,rfl,by decide,ht⟩,fun k u hu=>hu⟩
  ·cases ho;refine aa rfl fun K HK=>?_;clear HM;dsimp only;go_simp;exact HK.out _ _ ⟨_,by simp [upd],⟨HR.out.alloc _,HO.out.alloc _⟩,.no (by decide) ⟨_,rfl,fu w' R hRl (xs:=[_,_,_,_]) (by decide)⟩,fun k u hu=>hu.only (KAL.out _)⟩
  ·cases ho;refine aa rfl fun K HK=>?_;clear HM;dsimp only;go_simp;exact HK.out _ _ ⟨Value.pointer (some ⟨R,0,none⟩),by simp [upd],⟨HR.out,HO.out⟩,.no (by decide) rfl,fun k u hu=>hu⟩
  ·cases ho;have e1:f 7=Value.pointer (some ⟨R,0,none⟩):=(HM.out ⟨7,.data⟩ (by simp) rfl).2.2 (by decide);refine aa rfl fun K HK=>?_;clear HM;simp only [e1];go_simp;refine (bW R ad len cap 4 _ HR.out (by omega) (by omega)).mono ?_;rintro e w5 ⟨⟨x,rfl,hx0,hx1⟩,UW,UZ⟩;obtain ⟨x,rfl⟩:∃ y:Nat,x=(y:Int):=⟨x.toNat,by omega⟩;have UU:Hid (Rd w5 R ad len cap∧Only R w' w5):=⟨UW,UZ⟩;clear UW UZ;go_wp2_with fail;exact HK.out _ _ ⟨.int .i64 (x:Int),by simp [upd,e1],⟨UU.out.1,HO.out.trans UU.out.2⟩,.no (by decide) ⟨x,rfl,by omega⟩,fun k u hu=>hu.only UU.out.2⟩
  ·cases ho;obtain ⟨g,e1,hS⟩:=(HM.out ⟨6,.data⟩ (by simp) rfl).2.2 (by decide);obtain ⟨x,e2,hx⟩:=(HM.out ⟨8,.data⟩ (by simp) rfl).2.2 (by decide);replace e1:f 6=_:=e1;replace e2:f 8=_:=e2;have HS:=az hS;clear hS;have hx0:=bB x;have hx1:(x:Int) < 4:=by omega
   refine aa rfl fun K HK=>?_;clear HM;simp only [e1,e2];go_simp;exact HK.out _ _ ⟨.pointer (some ⟨g,x,none⟩),by simp [upd,e1,e2],⟨HR.out,HO.out⟩,.no (by decide) ⟨g,x,rfl,hx,HS.out⟩,fun k u hu=>hu⟩
  ·cases ho;obtain ⟨g,x,e1,hx,hS⟩:=(HM.out ⟨9,.data⟩ (by simp) rfl).2.2 (by decide);replace e1:f 9=_:=e1;obtain ⟨t,ht,hcell⟩:=hS.2.2 x hx;clear hS;refine aa rfl fun K HK=>?_;clear HM;simp only [e1];go_simp;exact HK.out _ _ ⟨.string t,by simp [upd,e1],⟨HR.out,HO.out⟩,.no (by decide) ⟨t,rfl,ht⟩,fun k u hu=>hu⟩
  ·cases ho;refine aa rfl fun K HK=>?_;clear HM;dsimp only;go_simp;exact HK.out _ _ ⟨_,by simp [upd],⟨HR.out.alloc _,HO.out.alloc _⟩,.no (by decide) ⟨_,rfl,fu w' R hRl (xs:=[_,_,_]) (by decide)⟩,fun k u hu=>hu.only (KAL.out _)⟩
  ·cases ho;refine aa rfl fun K HK=>?_;clear HM;dsimp only;go_simp;exact HK.out _ _ ⟨Value.pointer (some ⟨R,0,none⟩),by simp [upd],⟨HR.out,HO.out⟩,.no (by decide) rfl,fun k u hu=>hu⟩
  ·cases ho;have e1:f 12=Value.pointer (some ⟨R,0,none⟩):=(HM.out ⟨12,.data⟩ (by simp) rfl).2.2 (by decide);refine aa rfl fun K HK=>?_;clear HM;simp only [e1];go_simp;refine (bW R ad len cap 3 _ HR.out (by omega) (by omega)).mono ?_;rintro e w5 ⟨⟨x,rfl,hx0,hx1⟩,UW,UZ⟩;obtain ⟨x,rfl⟩:∃ y:Nat,x=(y:Int):=⟨x.toNat,by omega⟩;have UU:Hid (Rd w5 R ad len cap∧Only R w' w5):=⟨UW,UZ⟩;clear UW UZ;go_wp2_with fail;exact HK.out _ _ ⟨.int .i64 (x:Int),by simp [upd,e1],⟨UU.out.1,HO.out.trans UU.out.2⟩,.no (by decide) ⟨x,rfl,by omega⟩,fun k u hu=>hu.only UU.out.2⟩
  ·cases ho;obtain ⟨g,e1,hS⟩:=(HM.out ⟨11,.data⟩ (by simp) rfl).2.2 (by decide);obtain ⟨x,e2,hx⟩:=(HM.out ⟨13,.data⟩ (by simp) rfl).2.2 (by decide);replace e1:f 11=_:=e1;replace e2:f 13=_:=e2;have HS:=az hS;clear hS;have hx0:=bB x;have hx1:(x:Int) < 3:=by omega
   refine aa rfl fun K HK=>?_;clear HM;simp only [e1,e2];go_simp;exact HK.out _ _ ⟨.pointer (some ⟨g,x,none⟩),by simp [upd,e1,e2],⟨HR.out,HO.out⟩,.no (by decide) ⟨g,x,rfl,hx,HS.out⟩,fun k u hu=>hu⟩
  ·cases ho;obtain ⟨g,x,e1,hx,hS⟩:=(HM.out ⟨14,.data⟩ (by simp) rfl).2.2 (by decide);replace e1:f 14=_:=e1;obtain ⟨t,ht,hcell⟩:=hS.2.2 x hx;clear hS;refine aa rfl fun K HK=>?_;clear HM;simp only [e1];go_simp;exact HK.out _ _ ⟨.string t,by simp [upd,e1],⟨HR.out,HO.out⟩,.no (by decide) ⟨t,rfl,ht⟩,fun k u hu=>hu⟩
  ·cases ho;obtain ⟨t,e1,ht⟩:=(HM.out ⟨15,.data⟩ (by simp) rfl).2.2 (by decide);replace e1:f 15=_:=e1;refine aa rfl fun K HK=>?_;clear HM;simp only [e1];go_simp;exact HK.out _ _ ⟨.agg #[.string ⟨#[117,115,101,114]⟩,.string t],by simp [upd,e1],⟨HR.out,HO.out⟩,.no (by decide) ⟨_,t,rfl,by decide,ht⟩,fun k u hu=>hu⟩
  ·cases ho;obtain ⟨t1,t2,e1,h1,h2⟩:=(HM.out ⟨5,.data⟩ (by simp) rfl).2.2 (by decide);obtain ⟨t3,e2,h3⟩:=(HM.out ⟨10,.data⟩ (by simp) rfl).2.2 (by decide);obtain ⟨t4,t5,e3,h4,h5⟩:=(HM.out ⟨16,.data⟩ (by simp) rfl).2.2 (by decide);replace e1:f 5=_:=e1;replace e2:f 10=_:=e2;replace e3:f 16=_:=e3;refine aa rfl fun K HK=>?_;clear HM;simp only [e1,e2,e3];go_simp;exact HK.out _ _ ⟨.agg #[.string t1,.string t2,.string t3,.string t4,.string t5],by simp [upd,e1,e2,e3],⟨HR.out,HO.out⟩,⟨fun e=>absurd e (by decide),fun _=>⟨⟨t1,t2,t3,t4,t5⟩,rfl,h1,h2,h3,h4,h5⟩,fun e=>absurd e (by decide)⟩,fun k u hu=>hu⟩
  cases ho;refine aa rfl fun K HK=>?_;clear HM;dsimp only;go_simp;exact HK.out _ _ ⟨_,by simp [upd],⟨HR.out.alloc _,HO.out.alloc _⟩,⟨fun _=>⟨_,rfl,O5 hRl hsz⟩,fun e=>absurd e (by decide),fun e=>absurd e (by decide)⟩,fun k u hu=>hu.only (KAL.out _)⟩
 case fin =>
  rintro o ho f w0 ⟨hR',U3⟩ hall;obtain ⟨g,e1,hg⟩:=(hall 18 (by omega)).1 rfl;obtain ⟨y,e2,hy⟩:=(hall 17 (by omega)).2.1 rfl;replace e1:f 18=_:=e1;replace e2:f 17=_:=e2;obtain ⟨hgR,hgB,hgl,hgf,z,_,ca,cb,cc,cd,ce⟩:=hg;obtain ⟨w',hw'⟩:∃ w',w'=(((((w0.setCell ⟨g,0,none⟩ (.string y.a)).setCell ⟨g,1,none⟩ (.string y.b)).setCell ⟨g,2,none⟩ (.string y.r)).setCell ⟨g,3,none⟩ (.string y.c)).setCell ⟨g,4,none⟩ (.string y.d)):=⟨_,rfl⟩;have hA:wS w' g 0 y:=by rw [hw']; exact QH y ca cb cc cd ce
  have hR:Rd w' R ad len cap:=by rw [hw']; exact ((((hR'.setFar hgR (FAR.out _ (by omega))).setFar hgR (FAR.out _ (by omega))).setFar hgR (FAR.out _ (by omega))).setFar hgR (FAR.out _ (by omega))).setFar hgR (FAR.out _ (by omega))
  have hO:Only R (w.alloc (.cells #[.string ⟨#[]⟩,.string ⟨#[]⟩,.string ⟨#[]⟩,.string ⟨#[]⟩,.string ⟨#[]⟩] 29)) w':=by rw [hw']; exact ((((U3.setNew (by simpa using hgB)).setNew (by simpa using hgB)).setNew (by simpa using hgB)).setNew (by simpa using hgB)).setNew (by simpa using hgB)
  have hgf':∀ o,w'.frozen? ⟨g,o,none⟩=false:=fun o=>by rw [hw']; simpa using hgf o
  have hgl':g < w'.heap.size:=by rw [hw']; simpa using hgl
  clear hR' U3 hall;obtain rfl:=Option.some.inj ho;clear ho;refine aa rfl fun K HK=>?_;simp only [e1,e2];go_simp;rw [← hw'];refine HK.out _ _ ?_;clear HK hw' hgl hgf ca cb cc cd ce;have hOw:Only R w w':=(Only.of_below ((TT _ _).alloc (TS _) _)).trans hO;have hnR:w.heap.size ≠ R:=by omega
  have hn:wS w' w.heap.size 0 ⟨⟨#[]⟩,⟨#[]⟩,⟨#[]⟩,⟨#[]⟩,⟨#[]⟩⟩:=by
   refine wS.same (w:=w.alloc (.cells #[.string ⟨#[]⟩,.string ⟨#[]⟩,.string ⟨#[]⟩,.string ⟨#[]⟩,.string ⟨#[]⟩] 29)) ?_ fun o=>hO.cell (by simp) hnR;refine ⟨?_,?_,?_,?_,?_⟩ <;> simp
  have hnf:∀ o,w'.frozen? ⟨w.heap.size,o,none⟩=false:=fun o=>by rw [hO.frozen (by simp) hnR]; simp
  have hsz:w.heap.size < w'.heap.size:=by have:=hO.size; simp at this; omega
  have HR:=az hR;have HOw:=az hOw;have HA:Hid (wS w' g 0 y∧wS w' w.heap.size 0 ⟨⟨#[]⟩,⟨#[]⟩,⟨#[]⟩,⟨#[]⟩,⟨#[]⟩⟩):=⟨hA,hn⟩;have HY:Hid y.short:=hy;clear hR hO hOw hA hn hy;go_wp2_with fail;refine (iN R ad len cap 5 _ HR.out (by omega) (by omega)).mono ?_;rintro e w1 ⟨⟨x,rfl⟩,U5,UX⟩;have HR1:=az U5;have UV:Hid (Only R w w1):=HOw.out.trans UX;have hA1:=HA.out.1.same (w':=w1) fun o=>UX.cell hgl' hgR;have hn1:=HA.out.2.same (w':=w1) fun o=>UX.cell hsz hnR;have mf:∀ o,w1.frozen? ⟨w.heap.size,o,none⟩=false:=fun o=>by rw [UX.frozen hsz hnR]; exact hnf o
  have gf:∀ o,w1.frozen? ⟨g,o,none⟩=false:=fun o=>by rw [UX.frozen hgl' hgR]; exact hgf' o
  have hs1:w.heap.size < w1.heap.size:=TP hsz UX.size;have hg1:g < w1.heap.size:=TP hgl' UX.size;have hR1l:R < w1.heap.size:=U5.lt;have hgn:g ≠ w.heap.size:=by omega
  clear hnf hgf' U5 UX HR HOw HA;cases x;case false=>
   obtain ⟨ca,cb,cc,cd,ce⟩:=hA1;obtain ⟨na,nb,nc,nd,ne⟩:=hn1;go_wp2;exact bodyPost_ret (v:=.agg #[.string y.a,.string y.b,.string y.r,.string y.c,.string y.d]) (by simp [results,Tryz.results50,go_sem, *]) rfl ⟨⟨y,rfl,HY.out⟩,((((HR1.out.setFar hnR (FAR.out _ (TS _))).setFar hnR (FAR.out _ (TS _))).setFar hnR (FAR.out _ (TS _))).setFar hnR (FAR.out _ (TS _))).setFar hnR (FAR.out _ (TS _)),((((UV.out.setNew (TS _)).setNew (TS _)).setNew (TS _)).setNew (TS _)).setNew (TS _)⟩
  go_wp2_with fail;refine (bW R ad len cap 2 _ (HR1.out.below ((TT _ _).alloc (TS _) _)) (by omega) (by omega)).mono ?_;rintro e w2 ⟨⟨x,rfl,hx0,hx1⟩,hR2,hO2⟩;have VN:Only R w1 w2:=(Only.of_below ((TT _ _).alloc (TS _) _)).trans hO2;have hSt:=(fu w1 R hR1l (t:=9) (xs:=[⟨#[103]⟩,⟨#[104]⟩]) (by decide)).only hO2;obtain ⟨q,rfl⟩:∃ q:Nat,x=(q:Int):=⟨x.toNat,by omega⟩;obtain ⟨t,ht,hct⟩:=hSt.2.2 q (by simp; omega);obtain ⟨ca,cb,cc,cd,ce⟩:=hA1.same (w':=w2) fun o=>VN.cell hg1 hgR;obtain ⟨na,nb,nc,nd,ne⟩:=hn1.same (w':=w2) fun o=>VN.cell hs1 hnR;have kf:∀ o,w2.frozen? ⟨w.heap.size,o,none⟩=false:=fun o=>by rw [VN.frozen hs1 hnR]; exact mf o
  have kg:∀ o,w2.frozen? ⟨g,o,none⟩=false:=fun o=>by rw [VN.frozen hg1 hgR]; exact gf o
  have HR2:=az hR2;have UB:Hid (Only R w w2):=UV.out.trans VN;clear hR2 hO2 VN hSt mf gf hA1 hn1 HR1 UV;go_wp2;exact bodyPost_ret (v:=.agg #[.string ⟨#[103,114,111,117,112]⟩,.string t,.string ⟨#[109,101,109,98,101,114]⟩,.string y.c,.string y.d]) (by simp [results,Tryz.results50,go_sem, *]) rfl ⟨⟨⟨_,t,_,y.c,y.d⟩,rfl,(by simp only; decide),ht,(by simp only; decide),HY.out.2.2.2.1,HY.out.2.2.2.2⟩,(((((((HR2.out.setFar hgR (FAR.out _ (by omega))).setFar hgR (FAR.out _ (by omega))).setFar hgR (FAR.out _ (by omega))).setFar hnR (FAR.out _ (TS _))).setFar hnR (FAR.out _ (TS _))).setFar hnR (FAR.out _ (TS _))).setFar hnR (FAR.out _ (TS _))).setFar hnR (FAR.out _ (TS _)),(((((((UB.out.setNew (by omega)).setNew (by omega)).setNew (by omega)).setNew (TS _)).setNew (TS _)).setNew (TS _)).setNew (TS _)).setNew (TS _)⟩
end Go.Proofs.YtajkkeikihhejaaGreat
