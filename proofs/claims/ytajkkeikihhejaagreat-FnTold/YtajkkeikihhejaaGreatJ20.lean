/- What a right schema says of its expressions and their nodes. -/
import Derived.Test.YtajkkeikihhejaaGreatSq
import Derived.Test.YtajkkeikihhejaaGreatJ8
import Derived.Test.YtajkkeikihhejaaGreatJ5
import Derived.Test.YtajkkeikihhejaaGreatJ13
import Derived.Test.YtajkkeikihhejaaGreatJ6
import Derived.Deep.DrawnRows
import Derived.Test.YtajkkeikihhejaaGreatSpecExpr
open Go.Proofs.Tryz
set_option maxHeartbeats 80000000
namespace Go.Proofs.YtajkkeikihhejaaGreat
set_option linter.unusedVariables false
open Pl
def Kv (es:List Ex):Prop:=∀ (i:Nat) (h:i < es.length),∀ x ∈ es[i].kids,0≤x∧x < (i:Int)
theorem IW {es:List Ex} (h:aK es=true):Kv es:=by
 intro i hi x hx;unfold aK at h;simp only [TU,Ud] at h;have h1:=h.1.1.2;unfold iY at h1;rw [Ub] at h1;have h2:=h1 i (by simpa using hi);unfold kH dC at h2;rw [TY hi] at h2;simp only [Option.map_some,Option.getD_some,Ub,TU,Ud] at h2;have:=h2 x hx;omega
def hasB (ts:List Ty) (t r:ByteArray):Bool:=!(aA ts t r).isEmpty
theorem tT {ts:List Ty} (h:bf ts=true) {t:Ty} (ht:t ∈ ts) {r:Rl} (hr:r ∈ t.rels):aP r.name=true∧aK r.expr=true:=by
 unfold bf at h;simp only [TU] at h;obtain ⟨j,hj,rfl⟩:=Uu ht;have h1:=oZ h.2 j hj;unfold kv at h1;rw [TY hj] at h1;simp only [TU] at h1;obtain ⟨k,hk,rfl⟩:=Uu hr;have h2:=oW h1.2 k hk;unfold l6 at h2;rw [TY hk] at h2;simp only [TU] at h2;exact ⟨h2.1.1,h2.2⟩
theorem Af {ts:List Ty} {typ:ByteArray}:∀ {es:List Ex},aR ts typ es=true→∀ e ∈ es,oQ ts e.allow=true∧lh ts typ e=true
 | [],_,e,he=>by cases he
 | x::es,h,e,he=>by
  unfold aR at h;split at h
  ·rename_i hc;simp only [TU] at hc;rcases List.mem_cons.1 he with rfl | he
   ·exact hc
   exact Af h e he
  cases h
theorem Qy {ts:List Ty} (h:iD ts=true) {t:Ty} (ht:t ∈ ts) {r:Rl} (hr:r ∈ t.rels) {e:Ex} (he:e ∈ r.expr):oQ ts e.allow=true∧lh ts t.name e=true:=by
 have h1:=Ub.1 h t ht;have h2:=Ub.1 h1 r hr;exact Af h2 e he
structure Fc where
 a:ByteArray
 b:ByteArray
 r:ByteArray
 c:ByteArray
 d:ByteArray
def Fc.u (f:Fc):ByteArray × ByteArray:=(f.c,f.d)
def wO (x y:Fc):Bool:=x.a.toList == y.a.toList && x.b.toList == y.b.toList && x.r.toList == y.r.toList && x.c.toList == y.c.toList && x.d.toList == y.d.toList
theorem uW {x y:Fc}:wO x y=true ↔ x=y:=by
 constructor
 ·intro h;unfold wO at h;simp only [TU,beq_iff_eq] at h;obtain ⟨⟨⟨⟨h1,h2⟩,h3⟩,h4⟩,h5⟩:=h;cases x; cases y;simp only at h1 h2 h3 h4 h5;rw [fI h1,fI h2,fI h3,fI h4,fI h5]
 rintro rfl; unfold wO; simp
def bP (out:List Fc) (f:Fc):Bool:=out.any fun g=>wO g f
theorem dB {out:List Fc} {f:Fc}:bP out f=true ↔ f ∈ out:=by
 unfold bP;rw [Uo];constructor
 ·rintro ⟨g,hg,h⟩; rw [← uW.1 h]; exact hg
 intro h; exact ⟨f,h,uW.2 rfl⟩
def Gb (u:ByteArray × ByteArray) (x y:List Fc):Prop:=∀ g:Fc,g.u=u→(g ∈ x ↔ g ∈ y)
theorem wP {x y:List Fc} {f:Fc} (h:Gb f.u x y):bP x f=bP y f:=by
 rw [Bool.eq_iff_iff,dB,dB]; exact h f rfl
def dY (l:List Tp) (known:List Fc) (f:Fc):Bool:=l.any fun t=>(t.a.toList == f.a.toList && t.b.toList == f.b.toList && t.r.toList == f.r.toList) && (if t.s.toList.isEmpty then t.c.toList == f.c.toList && t.d.toList == f.d.toList else bP known ⟨t.c,t.d,t.s,f.c,f.d⟩)
def gp (l:List Tp) (known:List Fc) (over name:ByteArray) (f:Fc):Bool:=l.any fun t=>(t.a.toList == f.a.toList && t.b.toList == f.b.toList && t.r.toList == over.toList) && bP known ⟨t.c,t.d,name,f.c,f.d⟩
def dS (l:List Tp) (es:List Ex) (truth:List Fc) (f:Fc):Nat→List Fc→Nat→Bool
 | 0,_,_=>false
 | k + 1,known,n=>match es[n]? with
  | none=>false
  | some x =>
   if x.kind=1 then dY l known f
   else if x.kind=2 then bP known ⟨f.a,f.b,x.name,f.c,f.d⟩
   else if x.kind=3 then gp l known x.over x.name f
   else if x.kind=4 then x.kids.any fun i=>dS l es truth f k known i.toNat
   else if x.kind=5 then x.kids.all fun i=>dS l es truth f k known i.toNat
   else if x.kind=6 then dS l es truth f k known (x.kids.getD 0 0).toNat && !dS l es truth f k truth (x.kids.getD 1 0).toNat
   else false
theorem IX {l:List Tp} {x y:List Fc} {f:Fc} (h:Gb f.u x y):dY l x f=dY l y f:=by
 unfold dY;congr 1
 funext t
 rw [wP (x:=x) (y:=y) (f:=⟨t.c,t.d,t.s,f.c,f.d⟩) h]
theorem IY {l:List Tp} {x y:List Fc} {ov nm:ByteArray} {f:Fc} (h:Gb f.u x y):gp l x ov nm f=gp l y ov nm f:=by
 unfold gp;congr 1
 funext t
 rw [wP (x:=x) (y:=y) (f:=⟨t.c,t.d,nm,f.c,f.d⟩) h]
theorem tV {l:List Tp} {es:List Ex} {f:Fc} {t1 t2:List Fc} (ht:Gb f.u t1 t2):∀ (k:Nat) (x y:List Fc) (n:Nat),Gb f.u x y→dS l es t1 f k x n=dS l es t2 f k y n
 | 0,_,_,_,_=>rfl
 | k + 1,x,y,n,h=>by
  unfold dS;cases es[n]? with
  | none=>rfl
  | some e =>
   simp only [IX h,wP (x:=x) (y:=y) (f:=⟨f.a,f.b,e.name,f.c,f.d⟩) h,IY h,tV ht k x y _ h,tV ht k t1 t2 _ ht]
def fD (ts:List Ty) (l:List Tp) (out:List Fc) (f:Fc):Bool:=dS l (aA ts f.a f.r) out f (aA ts f.a f.r).length out ((aA ts f.a f.r).length - 1)
theorem CU (ts:List Ty) (l:List Tp):Loc Fc.u (fD ts l):=fun x y f h=>tV h _ x y _ h
def Ag (ts:List Ty) (st:ByteArray × ByteArray→Int) (n:Int) (o:Al):List (ByteArray × ByteArray):=(ak ts).filter fun k=>k.1.toList == o.t.toList && decide (st k=n)
def ja (o:Al) (rel:ByteArray) (xu:List Al):List Fc:=xu.map fun u=>⟨o.t,o.s,rel,u.t,u.s⟩
def uX (ts:List Ty) (st:ByteArray × ByteArray→Int) (xu:List Al) (n:Int) (o:Al):List Fc:=(Ag ts st n o).flatMap fun k=>ja o k.2 xu
def bY (ts:List Ty) (st:ByteArray × ByteArray→Int) (xo xu:List Al) (n:Int):List Fc:=xo.flatMap (uX ts st xu n)
theorem IZ {ts:List Ty} {st:ByteArray × ByteArray→Int} {xo xu:List Al} {n:Int} {f:Fc} (h:f ∈ bY ts st xo xu n):f.u ∈ xu.map fun u=>(u.t,u.s):=by
 unfold bY uX ja at h;obtain ⟨o,-,h⟩:=Uf.1 h;obtain ⟨k,-,h⟩:=Uf.1 h;obtain ⟨u,hu,rfl⟩:=Ue.1 h;exact Ue.2 ⟨u,hu,rfl⟩
theorem Gc (ts:List Ty) (st:ByteArray × ByteArray→Int) (xo xu:List Al) (n:Int) (p:ByteArray × ByteArray→Bool):(bY ts st xo xu n).filter (fun f=>p f.u)=bY ts st xo (xu.filter fun u=>p (u.t,u.s)) n:=by
 unfold bY uX ja;rw [List.filter_flatMap];congr 1
 funext o
 rw [List.filter_flatMap];congr 1
 funext k
 rw [List.filter_map];rfl
theorem I1 {ts:List Ty} {st:ByteArray × ByteArray→Int} {xo xu:List Al} {n:Int} (h:∀ k ∈ ak ts,st k ≠ n):bY ts st xo xu n=[]:=by
 have:∀ o,Ag ts st n o=[]:=fun o=>by
  unfold Ag;rw [List.filter_eq_nil_iff];intro k hk;simp [h k hk]
 unfold bY uX;simp [this]
section
variable [DecidableEq Fc]
def ma (ts:List Ty) (l:List Tp) (st:ByteArray × ByteArray→Int) (xo xu:List Al) (N:Nat):List Fc:=(List.range N).foldl (fun out (n:Nat)=>j6 (fD ts l) (bY ts st xo xu (n:Int)) out) []
theorem jh (ts:List Ty) (l:List Tp) (st:ByteArray × ByteArray→Int) (xo xu:List Al) (N:Nat):ma ts l st xo xu (N + 1)=j6 (fD ts l) (bY ts st xo xu (N:Int)) (ma ts l st xo xu N):=by
 unfold ma; rw [List.range_succ,List.foldl_append]; rfl
theorem LD {ts:List Ty} {l:List Tp} {st:ByteArray × ByteArray→Int} {xo xu:List Al} {N:Nat} (h:∀ k ∈ ak ts,st k < (N:Int)):∀ M,N≤M→ma ts l st xo xu M=ma ts l st xo xu N:=by
 intro M hM;obtain ⟨d,rfl⟩:∃ d,M=N + d:=⟨M - N,by omega⟩
 induction d with
 | zero=>rfl
 | succ d ih =>
  rw [Nat.add_succ,jh,ih (by omega),I1 fun k hk=>by have:=h k hk; omega];exact ND _
theorem CV (ts:List Ty) (l:List Tp) (st:ByteArray × ByteArray→Int) (xo xu:List Al):∀ N,(ma ts l st xo xu N).Nodup
 | 0=>List.nodup_nil
 | N + 1=>by rw [jh]; exact KU _ (CV ts l st xo xu N)
end
open Go.ChangeAt Go.ChangeShapes Go.Maps Go.RowKit Go.WideShapes
def wQ (w:World) (b off:Nat) (t:Fc):Prop :=
 w.cell? ⟨b,off,none⟩=some (.string t.a)∧w.cell? ⟨b,off + 1,none⟩=some (.string t.b)∧w.cell? ⟨b,off + 2,none⟩=some (.string t.r)∧w.cell? ⟨b,off + 3,none⟩=some (.string t.c)∧w.cell? ⟨b,off + 4,none⟩=some (.string t.d)
def TL (w:World) (b off:Nat) (ts:List Fc):Prop:=∀ (i:Nat) (h:i < ts.length),wQ w b (off + i * 5) ts[i]
def Bu (w:World) (ad:Option Addr) (ts:List Fc):Prop:=ts=[] ∨ ∃ b off,ad=some ⟨b,off,none⟩∧b < w.heap.size∧TL w b off ts
theorem wQ.same {w w':af} {b off:Nat} {t:Fc} (h:wQ w b off t) (hc:∀ o,w'.cell? ⟨b,o,none⟩=w.cell? ⟨b,o,none⟩):wQ w' b off t:=by
 obtain ⟨h0,h1,h2,h3,h4⟩:=h;exact ⟨(hc _).trans h0,(hc _).trans h1,(hc _).trans h2,(hc _).trans h3,(hc _).trans h4⟩
theorem Bu.below {w w':af} {ad:Option Addr} {ts:List Fc} (h:Bu w ad ts) (hB:ag w w'):Bu w' ad ts:=by
 rcases h with h | ⟨b,off,e,hb,hr⟩
 ·exact .inl h
 exact .inr ⟨b,off,e,TP hb hB.size,fun i hi=>(hr i hi).same fun o=>hB.cell (p:=⟨b,o,none⟩) hb⟩
def Fc.row (t:Fc):List Value:=[.string t.a,.string t.b,.string t.r,.string t.c,.string t.d]
theorem Es (x y:Fc) {v:Bool} (h:wO x y=v) (w:af) :
  (binOp .eql 29 (.agg #[.string x.a,.string x.b,.string x.r,.string x.c,.string x.d]) (.agg #[.string y.a,.string y.b,.string y.r,.string y.c,.string y.d])).run prog w=.ok (.bool v) w:=by
 subst h;go_simp;unfold wO
 (repeat' split) <;> simp_all
theorem CW {ts:List Fc} {k:Nat} (h:k < ts.length) {t:Fc}:bP (ts.drop k) t=(wO ts[k] t || bP (ts.drop (k + 1)) t):=by
 unfold bP; rw [Un h]; rfl
def Fc.fits (t:Fc):Prop:=t.a.size≤maxLen∧t.b.size≤maxLen∧t.r.size≤maxLen∧t.c.size≤maxLen∧t.d.size≤maxLen
def oh (k:Fc):Value:=.agg #[.string k.a,.string k.b,.string k.r,.string k.c,.string k.d]
theorem OB (x y:Fc) (h:oh x=oh y):x=y:=by
 unfold oh at h;injection h with h;have h1:=congrArg Array.toList h;simp at h1;obtain ⟨xa,xb,xr,xc,xd⟩:=x;obtain ⟨ya,yb,yr,yc,yd⟩:=y;simp only at h1;obtain ⟨rfl,rfl,rfl,rfl,rfl⟩:=h1;rfl
theorem OC:laidOutB prog=true:=by kernel_rfl
theorem Su:(29:TypeId) < prog.types.size:=of_decide_eq_true (by kernel_rfl)
theorem Qz:(match prog.underlying 29 with | some (.array _ _) | some (.struct _)=>true | _=>false)=true:=by rw [underlying29]
set_option maxRecDepth 100000 in
theorem QA:WideMaps.KeyLaw prog 29:=deep_law_laid OC (m:=3) (by omega) Su (by kernel_rfl) Qz
theorem OD:Keyed prog 29:=Keyed.of_law QA
theorem QB:prog.keyType 29=true:=by kernel_rfl
theorem Gd:prog.cellsOf 29=5:=by kernel_rfl
theorem LF:prog.cellsOf 27=2:=by kernel_rfl
theorem LG:prog.cellsOf 9=1:=by kernel_rfl
theorem LH:2≤prog.types.size:=of_decide_eq_true (by kernel_rfl)
theorem I4:∃ n,prog.types.size=n + 2:=⟨prog.types.size - 2,by have:=LH; omega⟩
set_option maxRecDepth 100000 in
theorem Gf (k:Fc) (h:k.fits):∃ kl,keyOf prog 29 (oh k)=some kl:=by
 obtain ⟨n,hn⟩:=I4;obtain ⟨h0,h1,h2,h3,h4⟩:=h;refine ⟨.string (keyBytes [.string k.a.data.toList,.string k.b.data.toList,.string k.r.data.toList,.string k.c.data.toList,.string k.d.data.toList]),?_⟩;unfold keyOf;rw [underlying29];simp only [QB,oh,Value.formed,underlying29,Gd,hn,Value.cells];simp +decide [Program.keyLits,underlying29,underlying27,underlying9,Gd,LF,LG,h0,h1,h2,h3,h4]
theorem OE (w:af):(zeroValue 113).run prog w=.ok (.agg #[]) w:=by kernel_rfl
theorem Gg (b n:Nat) (M:Fc→Option Value) (f:Fc) (w:af) (hf:f.fits) (hV:aM oh prog 29 w b n M) (hM:∀ v,M f=some v→v=.agg #[]) :
  Calls prog 65 #[.map (some b),.agg #[.string f.a,.string f.b,.string f.r,.string f.c,.string f.d]] w fun e w'=>e=.returned (.bool (M f).isSome)∧ag w w':=by
 obtain ⟨kl,hkl⟩:=Gf f hf;have Vl:Hid (keyOf prog 29 (oh f)=some kl):=hkl;have HM:Hid ((M f).getD (.agg #[])=.agg #[]):=by
  show _=_;cases e:M f with
  | none=>rfl
  | some v=>exact hM v e
 obtain ⟨W,hW⟩:∃ W,W=w.alloc (.cells #[.string f.a,.string f.b,.string f.r,.string f.c,.string f.d] 29):=⟨_,rfl⟩;have HB:=qY hW;have HV:=az (hV.below HB.out);have HB2:Hid (ag w (W.alloc (.cells #[] 113))):=HB.out.alloc HB.out.size _;clear hkl hV hM;go_enter func65,ntmps65;go_wp2_with (at_lookup; rw [← hW]; clear hW; refine bZ _ rfl _ _ 107 rfl 29 113 OD underlying107 (OE _) b n M rfl HV.out f kl rfl Vl.out ?_; rw [HM.out]);go_ret;exact ⟨rfl,HB2.out⟩
set_option maxRecDepth 8000 in
theorem ol (ad:Option Addr) (cap:Nat) (ts:List Fc) (t:Fc) (w:af) (hlen:ts.length≤1048576) (hs:Bu w ad ts) :
  Calls prog 56 #[.slice ad ts.length cap,.agg #[.string t.a,.string t.b,.string t.r,.string t.c,.string t.d]] w fun e w'=>e=.returned (.bool (bP ts t))∧ag w w':=by
 have HS:=az hs;clear hs;obtain ⟨W0,hW0⟩:∃ W0,W0=w.alloc (.cells #[.string t.a,.string t.b,.string t.r,.string t.c,.string t.d] 29):=⟨_,rfl⟩;have HB0:=qY hW0;have HX0:Hid (W0.cell? ⟨w.heap.size,0,none⟩=some (.string t.a)∧W0.cell? ⟨w.heap.size,1,none⟩=some (.string t.b)∧W0.cell? ⟨w.heap.size,2,none⟩=some (.string t.r)∧W0.cell? ⟨w.heap.size,3,none⟩=some (.string t.c)∧W0.cell? ⟨w.heap.size,4,none⟩=some (.string t.d)∧w.heap.size < W0.heap.size):=by show _∧_; rw [hW0]; refine ⟨?_,?_,?_,?_,?_,?_⟩ <;> simp
 go_enter func56,ntmps56;go_wp2;rw [← hW0];clear hW0;go_loopw [5] (fun i wr=>∃ k:Nat,k≤ts.length∧i=.int .i64 k∧Hid (bP (ts.drop k) t=bP ts t)∧Hid (ag W0 wr)) (fun i _=>ts.length - (intOf i).toNat);case atStart=>exact ⟨0,TW _,rfl,rfl,TT _ _⟩
 obtain ⟨k,hk,rfl,HP,HB⟩:=hrel;have UG:Hid (ag w wr):=HB0.out.trans (HB.out.mono HB0.out.size);by_cases hlt:k < ts.length
 ·rcases HS.out.below UG.out with hnil | ⟨b,off,rfl,hb,hr⟩
  ·rw [hnil] at hlt; simp at hlt
  obtain ⟨t0,t1,t2,t3,t4⟩:=hr k hlt;have x0:=mK HB.out HX0.out.2.2.2.2.2 HX0.out.1;have x1:=mK HB.out HX0.out.2.2.2.2.2 HX0.out.2.1;have x2:=mK HB.out HX0.out.2.2.2.2.2 HX0.out.2.2.1;have x3:=mK HB.out HX0.out.2.2.2.2.2 HX0.out.2.2.2.1;have x4:=mK HB.out HX0.out.2.2.2.2.2 HX0.out.2.2.2.2.1;have hk1:=bB k;have hk2:(k:Int) < (ts.length:Int):=by omega
  have HD:Hid (bP ts t=(wO ts[k] t || bP (ts.drop (k + 1)) t)):=by show _=_; rw [← HP.out]; exact CW hlt
  clear hr;cases hq:wO ts[k] t;case true=>
   have heq:=Es ts[k] t hq;have HN:Hid (bP ts t=true):=by show _=_; rw [HD.out,hq]; rfl
   clear hq;go_wp2_with fail;go_region_held3 (fun w'=>w'.cell? ⟨b,off + k * 5,none⟩=some (.string ts[k].a)∧w'.cell? ⟨b,off + k * 5 + 1,none⟩=some (.string ts[k].b)∧w'.cell? ⟨b,off + k * 5 + 2,none⟩=some (.string ts[k].r)∧w'.cell? ⟨b,off + k * 5 + 3,none⟩=some (.string ts[k].c)∧w'.cell? ⟨b,off + k * 5 + 4,none⟩=some (.string ts[k].d)∧w'.cell? ⟨w.heap.size,0,none⟩=some (.string t.a)∧w'.cell? ⟨w.heap.size,1,none⟩=some (.string t.b)∧w'.cell? ⟨w.heap.size,2,none⟩=some (.string t.r)∧w'.cell? ⟨w.heap.size,3,none⟩=some (.string t.c)∧w'.cell? ⟨w.heap.size,4,none⟩=some (.string t.d)∧ag wr w') (first | assumption | exact ⟨t0,t1,t2,t3,t4,x0,x1,x2,x3,x4,(TT _ _).drew⟩) (fail);rename_i hH;have HG:Hid (ag wr _):=hH.2.2.2.2.2.2.2.2.2.2;clear hH t0 t1 t2 t3 t4 x0 x1 x2 x3 x4 heq;go_wp2;go_ret;exact ⟨by rw [HN.out]; rfl,UG.out.trans (HG.out.mono UG.out.size)⟩
  have heq:=Es ts[k] t hq;have UI:Hid (bP (ts.drop (k + 1)) t=bP ts t):=by show _=_; rw [HD.out,hq]; rfl
  clear hq;go_wp2_with fail;go_region_held3 (fun w'=>w'.cell? ⟨b,off + k * 5,none⟩=some (.string ts[k].a)∧w'.cell? ⟨b,off + k * 5 + 1,none⟩=some (.string ts[k].b)∧w'.cell? ⟨b,off + k * 5 + 2,none⟩=some (.string ts[k].r)∧w'.cell? ⟨b,off + k * 5 + 3,none⟩=some (.string ts[k].c)∧w'.cell? ⟨b,off + k * 5 + 4,none⟩=some (.string ts[k].d)∧w'.cell? ⟨w.heap.size,0,none⟩=some (.string t.a)∧w'.cell? ⟨w.heap.size,1,none⟩=some (.string t.b)∧w'.cell? ⟨w.heap.size,2,none⟩=some (.string t.r)∧w'.cell? ⟨w.heap.size,3,none⟩=some (.string t.c)∧w'.cell? ⟨w.heap.size,4,none⟩=some (.string t.d)∧ag wr w') (first | assumption | exact ⟨t0,t1,t2,t3,t4,x0,x1,x2,x3,x4,(TT _ _).drew⟩) (fail);rename_i hH;have HG:Hid (ag W0 _):=HB.out.trans (hH.2.2.2.2.2.2.2.2.2.2.mono HB.out.size);clear hH t0 t1 t2 t3 t4 x0 x1 x2 x3 x4 heq;go_wp2;go_roundw;case rel=>exact ⟨k + 1,by omega,by go_num,UI,HG⟩
  simp [intOf] <;> omega
 have HN:Hid (bP ts t=false):=by show _=_; rw [← HP.out,List.drop_of_length_le (by omega)]; rfl
 go_wp2;go_ret;exact ⟨by rw [HN.out]; rfl,UG.out⟩
theorem aC {p:Prop} (h:p):Hid p:=h
structure HW (w:World) (V6:Option Addr) (ts:List Tp) (UC:Option Addr) (rows:List ER) (adK:Option Addr) (known:List Fc) (V7:Option Addr) (truth:List Fc):Prop where
 tup:Sl w V6 ts
 ex:iH w UC rows
 kn:Bu w adK known
 tr:Bu w V7 truth
theorem HW.below {w w':af} {V6:Option Addr} {ts:List Tp} {UC:Option Addr} {rows:List ER} {adK:Option Addr} {known:List Fc} {V7:Option Addr} {truth:List Fc} (h:HW w V6 ts UC rows adK known V7 truth) (hB:ag w w'):HW w' V6 ts UC rows adK known V7 truth :=
 ⟨h.tup.below hB,h.ex.below hB,h.kn.below hB,h.tr.below hB⟩
def Ah (a b c d:ByteArray):Bool:=a.toList == c.toList && b.toList == d.toList
theorem jH (a b c d:bF) {v:Bool} (h:Ah a b c d=v) (w:af) :
  (binOp .eql 27 (.agg #[.string a,.string b]) (.agg #[.string c,.string d])).run prog w=.ok (.bool v) w:=by
 subst h;go_simp;unfold Ah
 (repeat' split) <;> simp_all
theorem Gh (a b c d:bF) {v:Bool} (h:Ah a b c d=v) (w:af) :
  (binOp .neq 27 (.agg #[.string a,.string b]) (.agg #[.string c,.string d])).run prog w=.ok (.bool (!v)) w:=by
 subst h;go_simp;unfold Ah
 (repeat' split) <;> simp_all
theorem iH.at0 {w:af} {ad:Option Addr} {rs:List ER} (h:iH w ad rs) {k:Nat} (hk:k < rs.length):∃ b off,ad=some ⟨b,off,none⟩∧x8 w b (off + k * 5) rs[k]∧b < w.heap.size∧rs[k].ok w:=by
 rcases h with h | ⟨b',off',e,hb,hr,hok⟩
 ·rw [h] at hk; simp at hk
 exact ⟨b',off',e,hr k hk,hb,hok _ (TQ hk)⟩
theorem Sl.at0 {w:af} {ad:Option Addr} {ts:List Tp} (h:Sl w ad ts) {k:Nat} (hk:k < ts.length):∃ b off,ad=some ⟨b,off,none⟩∧Rv w b (off + k * 6) ts[k]∧b < w.heap.size:=by
 rcases h with h | ⟨b',off',e,hb,hr⟩
 ·rw [h] at hk; simp at hk
 exact ⟨b',off',e,hr k hk,hb⟩
theorem pW.at0 {w:af} {ad:Option Addr} {zs:List Int} (h:pW w ad zs) {k:Nat} (hk:k < zs.length):∃ b off,ad=some ⟨b,off,none⟩∧w.cell? ⟨b,off + k,none⟩=some (.int .i64 zs[k])∧b < w.heap.size:=by
 rcases h with h | ⟨b',off',e,hb,hr⟩
 ·rw [h] at hk; simp at hk
 exact ⟨b',off',e,hr k hk,hb⟩
def Gi (w:World) (f:Fc) (x:ER):World:=(w.alloc (.cells #[.string f.a,.string f.b,.string f.r,.string f.c,.string f.d] 29)).alloc (.cells #[.int .i64 x.e.kind,.slice x.adA x.e.allow.length x.capA,.string x.e.over,.string x.e.name,.slice x.adK x.e.kids.length x.capK] 39)
theorem jU (w:af) (f:Fc) (x:ER):ag w (Gi w f x):=by
 unfold Gi;exact ((TT _ _).alloc (TS _) _).alloc (by simp) _
structure EnB (w:World) (B:Nat) (f:Fc) (x:ER):Prop where
 lt:B + 1 < w.heap.size
 f0:w.cell? ⟨B,0,none⟩=some (.string f.a)
 f1:w.cell? ⟨B,1,none⟩=some (.string f.b)
 f2:w.cell? ⟨B,2,none⟩=some (.string f.r)
 f3:w.cell? ⟨B,3,none⟩=some (.string f.c)
 f4:w.cell? ⟨B,4,none⟩=some (.string f.d)
 x0:w.cell? ⟨B + 1,0,none⟩=some (.int .i64 x.e.kind)
 x1:w.cell? ⟨B + 1,1,none⟩=some (.slice x.adA x.e.allow.length x.capA)
 x2:w.cell? ⟨B + 1,2,none⟩=some (.string x.e.over)
 x3:w.cell? ⟨B + 1,3,none⟩=some (.string x.e.name)
 x4:w.cell? ⟨B + 1,4,none⟩=some (.slice x.adK x.e.kids.length x.capK)
theorem EnB.below {w w':af} {B:Nat} {f:Fc} {x:ER} (h:EnB w B f x) (hB:ag w w'):EnB w' B f x:=by
 have h0:B < w.heap.size:=by have:=h.lt; omega
 have c0:∀ o,w'.cell? ⟨B,o,none⟩=w.cell? ⟨B,o,none⟩:=fun o=>hB.cell (p:=⟨B,o,none⟩) h0;have c1:∀ o,w'.cell? ⟨B + 1,o,none⟩=w.cell? ⟨B + 1,o,none⟩:=fun o=>hB.cell (p:=⟨B + 1,o,none⟩) h.lt;exact ⟨TP h.lt hB.size,(c0 _).trans h.f0,(c0 _).trans h.f1,(c0 _).trans h.f2,(c0 _).trans h.f3,(c0 _).trans h.f4,(c1 _).trans h.x0,(c1 _).trans h.x1,(c1 _).trans h.x2,(c1 _).trans h.x3,(c1 _).trans h.x4⟩
theorem om (w:af) (f:Fc) (x:ER):EnB (Gi w f x) w.heap.size f x:=by
 unfold Gi;constructor <;> simp
def Ai (known:List Fc) (f:Fc) (t:Tp):Bool:=(t.a.toList == f.a.toList && t.b.toList == f.b.toList && t.r.toList == f.r.toList) && (if t.s.toList.isEmpty then t.c.toList == f.c.toList && t.d.toList == f.d.toList else bP known ⟨t.c,t.d,t.s,f.c,f.d⟩)
theorem I5 {ts:List Tp} {k:Nat} (h:k < ts.length) (known:List Fc) (f:Fc):dY (ts.drop k) known f=(Ai known f ts[k] || dY (ts.drop (k + 1)) known f):=by
 unfold dY; rw [Un h]; rfl
def CX (known:List Fc) (over name:ByteArray) (f:Fc) (t:Tp):Bool:=(t.a.toList == f.a.toList && t.b.toList == f.b.toList && t.r.toList == over.toList) && bP known ⟨t.c,t.d,name,f.c,f.d⟩
theorem I6 {ts:List Tp} {k:Nat} (h:k < ts.length) (known:List Fc) (over name:bF) (f:Fc):gp (ts.drop k) known over name f=(CX known over name f ts[k] || gp (ts.drop (k + 1)) known over name f):=by
 unfold gp; rw [Un h]; rfl
theorem mV {s:ByteArray}:(s.toList == [])=s.toList.isEmpty:=by cases s.toList <;> rfl
end Go.Proofs.YtajkkeikihhejaaGreat
