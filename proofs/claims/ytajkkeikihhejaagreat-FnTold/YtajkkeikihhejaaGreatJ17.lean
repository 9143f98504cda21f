/- What a right schema says of its expressions and their nodes. -/
import Derived.Test.YtajkkeikihhejaaGreatSq
import Derived.Test.YtajkkeikihhejaaGreatJ13
import Derived.Test.YtajkkeikihhejaaGreatJ6
import Derived.Test.YtajkkeikihhejaaGreatSpecExpr
open Go.Proofs.Tryz
set_option maxHeartbeats 80000000
namespace Go.Proofs.YtajkkeikihhejaaGreat
set_option linter.unusedVariables false
open Pl
def Ku (es:List Ex):Prop:=∀ (i:Nat) (h:i < es.length),∀ x ∈ es[i].kids,0≤x∧x < (i:Int)
theorem I1 {es:List Ex} (h:aK es=true):Ku es:=by
 intro i hi x hx;unfold aK at h;simp only [TU,Ud] at h;have h1:=h.1.1.2;unfold iY at h1;rw [Ub] at h1;have h2:=h1 i (by simpa using hi);unfold kH dC at h2;rw [TY hi] at h2;simp only [Option.map_some,Option.getD_some,Ub,TU,Ud] at h2;have:=h2 x hx;omega
def hasB (ts:List Ty) (t r:ByteArray):Bool:=!(aA ts t r).isEmpty
theorem tO {ts:List Ty} (h:bi ts=true) {t:Ty} (ht:t ∈ ts) {r:Rl} (hr:r ∈ t.rels):aP r.name=true∧aK r.expr=true:=by
 unfold bi at h;simp only [TU] at h;obtain ⟨j,hj,rfl⟩:=Uu ht;have h1:=oZ h.2 j hj;unfold kv at h1;rw [TY hj] at h1;simp only [TU] at h1;obtain ⟨k,hk,rfl⟩:=Uu hr;have h2:=oW h1.2 k hk;unfold l8 at h2;rw [TY hk] at h2;simp only [TU] at h2;exact ⟨h2.1.1,h2.2⟩
theorem Ae {ts:List Ty} {typ:ByteArray}:∀ {es:List Ex},aR ts typ es=true→∀ e ∈ es,oQ ts e.allow=true∧lh ts typ e=true
 | [],_,e,he=>by cases he
 | x::es,h,e,he=>by
  unfold aR at h;split at h
  ·rename_i hc;simp only [TU] at hc;rcases List.mem_cons.1 he with rfl | he
   ·exact hc
   exact Ae h e he
  cases h
theorem Qy {ts:List Ty} (h:iD ts=true) {t:Ty} (ht:t ∈ ts) {r:Rl} (hr:r ∈ t.rels) {e:Ex} (he:e ∈ r.expr):oQ ts e.allow=true∧lh ts t.name e=true:=by
 have h1:=Ub.1 h t ht;have h2:=Ub.1 h1 r hr;exact Ae h2 e he
structure Fc where
 a:ByteArray
 b:ByteArray
 r:ByteArray
 c:ByteArray
 d:ByteArray
def Fc.u (f:Fc):ByteArray × ByteArray:=(f.c,f.d)
def wJ (x y:Fc):Bool:=x.a.toList == y.a.toList && x.b.toList == y.b.toList && x.r.toList == y.r.toList && x.c.toList == y.c.toList && x.d.toList == y.d.toList
theorem uY {x y:Fc}:wJ x y=true ↔ x=y:=by
 constructor
 ·intro h;unfold wJ at h;simp only [TU,beq_iff_eq] at h;obtain ⟨⟨⟨⟨h1,h2⟩,h3⟩,h4⟩,h5⟩:=h;cases x; cases y;simp only at h1 h2 h3 h4 h5;rw [fJ h1,fJ h2,fJ h3,fJ h4,fJ h5]
 rintro rfl; unfold wJ; simp
def bP (out:List Fc) (f:Fc):Bool:=out.any fun g=>wJ g f
theorem dB {out:List Fc} {f:Fc}:bP out f=true ↔ f ∈ out:=by
 unfold bP;rw [Uo];constructor
 ·rintro ⟨g,hg,h⟩; rw [← uY.1 h]; exact hg
 intro h; exact ⟨f,h,uY.2 rfl⟩
def F9 (u:ByteArray × ByteArray) (x y:List Fc):Prop:=∀ g:Fc,g.u=u→(g ∈ x ↔ g ∈ y)
theorem wK {x y:List Fc} {f:Fc} (h:F9 f.u x y):bP x f=bP y f:=by
 rw [Bool.eq_iff_iff,dB,dB]; exact h f rfl
def dY (l:List Tp) (known:List Fc) (f:Fc):Bool:=l.any fun t=>(t.a.toList == f.a.toList && t.b.toList == f.b.toList && t.r.toList == f.r.toList) && (if t.s.toList.isEmpty then t.c.toList == f.c.toList && t.d.toList == f.d.toList else bP known ⟨t.c,t.d,t.s,f.c,f.d⟩)
def gp (l:List Tp) (known:List Fc) (over name:ByteArray) (f:Fc):Bool:=l.any fun t=>(t.a.toList == f.a.toList && t.b.toList == f.b.toList && t.r.toList == over.toList) && bP known ⟨t.c,t.d,name,f.c,f.d⟩
def dS (l:List Tp) (es:List Ex) (truth:List Fc) (f:Fc):Nat→List Fc→Nat→Bool
 | 0,_,_=>false
 | k + 1,known,n=>match es[n]? with
  | none=>false
  | some x =>
   if x.kind=1 then dY l known f
   else if x.kind=2 then bP known ⟨f.a,f.b,x.name,f.c,f.d⟩
   else if x.kind=3 then gp l known x.over x.name f
   else if x.kind=4 then x.kids.any fun i=>dS l es truth f k known i.toNat
   else if x.kind=5 then x.kids.all fun i=>dS l es truth f k known i.toNat
   else if x.kind=6 then dS l es truth f k known (x.kids.getD 0 0).toNat && !dS l es truth f k truth (x.kids.getD 1 0).toNat
   else false
theorem I4 {l:List Tp} {x y:List Fc} {f:Fc} (h:F9 f.u x y):dY l x f=dY l y f:=by
 unfold dY;congr 1
 funext t
 rw [wK (x:=x) (y:=y) (f:=⟨t.c,t.d,t.s,f.c,f.d⟩) h]
theorem I5 {l:List Tp} {x y:List Fc} {ov nm:ByteArray} {f:Fc} (h:F9 f.u x y):gp l x ov nm f=gp l y ov nm f:=by
 unfold gp;congr 1
 funext t
 rw [wK (x:=x) (y:=y) (f:=⟨t.c,t.d,nm,f.c,f.d⟩) h]
theorem tQ {l:List Tp} {es:List Ex} {f:Fc} {t1 t2:List Fc} (ht:F9 f.u t1 t2):∀ (k:Nat) (x y:List Fc) (n:Nat),F9 f.u x y→dS l es t1 f k x n=dS l es t2 f k y n
 | 0,_,_,_,_=>rfl
 | k + 1,x,y,n,h=>by
  unfold dS;cases es[n]? with
  | none=>rfl
  | some e =>
   simp only [I4 h,wK (x:=x) (y:=y) (f:=⟨f.a,f.b,e.name,f.c,f.d⟩) h,I5 h,tQ ht k x y _ h,tQ ht k t1 t2 _ ht]
def fC (ts:List Ty) (l:List Tp) (out:List Fc) (f:Fc):Bool:=dS l (aA ts f.a f.r) out f (aA ts f.a f.r).length out ((aA ts f.a f.r).length - 1)
theorem CX (ts:List Ty) (l:List Tp):Loc Fc.u (fC ts l):=fun x y f h=>tQ h _ x y _ h
def Af (ts:List Ty) (st:ByteArray × ByteArray→Int) (n:Int) (o:Al):List (ByteArray × ByteArray):=(ak ts).filter fun k=>k.1.toList == o.t.toList && decide (st k=n)
def ja (o:Al) (rel:ByteArray) (xu:List Al):List Fc:=xu.map fun u=>⟨o.t,o.s,rel,u.t,u.s⟩
def uZ (ts:List Ty) (st:ByteArray × ByteArray→Int) (xu:List Al) (n:Int) (o:Al):List Fc:=(Af ts st n o).flatMap fun k=>ja o k.2 xu
def bY (ts:List Ty) (st:ByteArray × ByteArray→Int) (xo xu:List Al) (n:Int):List Fc:=xo.flatMap (uZ ts st xu n)
theorem I6 {ts:List Ty} {st:ByteArray × ByteArray→Int} {xo xu:List Al} {n:Int} {f:Fc} (h:f ∈ bY ts st xo xu n):f.u ∈ xu.map fun u=>(u.t,u.s):=by
 unfold bY uZ ja at h;obtain ⟨o,-,h⟩:=Uf.1 h;obtain ⟨k,-,h⟩:=Uf.1 h;obtain ⟨u,hu,rfl⟩:=Ue.1 h;exact Ue.2 ⟨u,hu,rfl⟩
theorem Ga (ts:List Ty) (st:ByteArray × ByteArray→Int) (xo xu:List Al) (n:Int) (p:ByteArray × ByteArray→Bool):(bY ts st xo xu n).filter (fun f=>p f.u)=bY ts st xo (xu.filter fun u=>p (u.t,u.s)) n:=by
 unfold bY uZ ja;rw [List.filter_flatMap];congr 1
 funext o
 rw [List.filter_flatMap];congr 1
 funext k
 rw [List.filter_map];rfl
theorem I7 {ts:List Ty} {st:ByteArray × ByteArray→Int} {xo xu:List Al} {n:Int} (h:∀ k ∈ ak ts,st k ≠ n):bY ts st xo xu n=[]:=by
 have:∀ o,Af ts st n o=[]:=fun o=>by
  unfold Af;rw [List.filter_eq_nil_iff];intro k hk;simp [h k hk]
 unfold bY uZ;simp [this]
section
variable [DecidableEq Fc]
def ma (ts:List Ty) (l:List Tp) (st:ByteArray × ByteArray→Int) (xo xu:List Al) (N:Nat):List Fc:=(List.range N).foldl (fun out (n:Nat)=>kr (fC ts l) (bY ts st xo xu (n:Int)) out) []
theorem jl (ts:List Ty) (l:List Tp) (st:ByteArray × ByteArray→Int) (xo xu:List Al) (N:Nat):ma ts l st xo xu (N + 1)=kr (fC ts l) (bY ts st xo xu (N:Int)) (ma ts l st xo xu N):=by
 unfold ma; rw [List.range_succ,List.foldl_append]; rfl
theorem LA {ts:List Ty} {l:List Tp} {st:ByteArray × ByteArray→Int} {xo xu:List Al} {N:Nat} (h:∀ k ∈ ak ts,st k < (N:Int)):∀ M,N≤M→ma ts l st xo xu M=ma ts l st xo xu N:=by
 intro M hM;obtain ⟨d,rfl⟩:∃ d,M=N + d:=⟨M - N,by omega⟩
 induction d with
 | zero=>rfl
 | succ d ih =>
  rw [Nat.add_succ,jl,ih (by omega),I7 fun k hk=>by have:=h k hk; omega];exact NH _
theorem CY (ts:List Ty) (l:List Tp) (st:ByteArray × ByteArray→Int) (xo xu:List Al):∀ N,(ma ts l st xo xu N).Nodup
 | 0=>List.nodup_nil
 | N + 1=>by rw [jl]; exact KT _ (CY ts l st xo xu N)
end
open Go.ChangeAt Go.ChangeShapes Go.Maps Go.RowKit Go.WideShapes
def wL (w:World) (b off:Nat) (t:Fc):Prop :=
 w.cell? ⟨b,off,none⟩=some (.string t.a)∧w.cell? ⟨b,off + 1,none⟩=some (.string t.b)∧w.cell? ⟨b,off + 2,none⟩=some (.string t.r)∧w.cell? ⟨b,off + 3,none⟩=some (.string t.c)∧w.cell? ⟨b,off + 4,none⟩=some (.string t.d)
def TL (w:World) (b off:Nat) (ts:List Fc):Prop:=∀ (i:Nat) (h:i < ts.length),wL w b (off + i * 5) ts[i]
def Bu (w:World) (ad:Option Addr) (ts:List Fc):Prop:=ts=[] ∨ ∃ b off,ad=some ⟨b,off,none⟩∧b < w.heap.size∧TL w b off ts
theorem wL.same {w w':af} {b off:Nat} {t:Fc} (h:wL w b off t) (hc:∀ o,w'.cell? ⟨b,o,none⟩=w.cell? ⟨b,o,none⟩):wL w' b off t:=by
 obtain ⟨h0,h1,h2,h3,h4⟩:=h;exact ⟨(hc _).trans h0,(hc _).trans h1,(hc _).trans h2,(hc _).trans h3,(hc _).trans h4⟩
theorem Bu.below {w w':af} {ad:Option Addr} {ts:List Fc} (h:Bu w ad ts) (hB:ag w w'):Bu w' ad ts:=by
 rcases h with h | ⟨b,off,e,hb,hr⟩
 ·exact .inl h
 exact .inr ⟨b,off,e,TP hb hB.size,fun i hi=>(hr i hi).same fun o=>hB.cell (p:=⟨b,o,none⟩) hb⟩
def Fc.row (t:Fc):List Value:=[.string t.a,.string t.b,.string t.r,.string t.c,.string t.d]
theorem Es (x y:Fc) {v:Bool} (h:wJ x y=v) (w:af) :
  (binOp .eql 29 (.agg #[.string x.a,.string x.b,.string x.r,.string x.c,.string x.d]) (.agg #[.string y.a,.string y.b,.string y.r,.string y.c,.string y.d])).run prog w=.ok (.bool v) w:=by
 subst h;go_simp;unfold wJ
 (repeat' split) <;> simp_all
theorem CZ {ts:List Fc} {k:Nat} (h:k < ts.length) {t:Fc}:bP (ts.drop k) t=(wJ ts[k] t || bP (ts.drop (k + 1)) t):=by
 unfold bP; rw [Un h]; rfl
structure KpO (b l:Nat) (W W':World):Prop where
 size:W.heap.size≤W'.heap.size
 cells:∀ (g:Nat) (cs:Array Value) (T:TypeId) (m:Nat × Nat),W.heap[g]?=some (.cells cs T m)→T ≠ 29→T ≠ 40→W'.heap[g]?=some (.cells cs T m)
 other:∀ (g:Nat) (o:Obj),W.heap[g]?=some o→o.isCells=false→g ≠ l→g ≠ b→W'.heap[g]?=some o
structure KpI (W W':World):Prop where
 size:W.heap.size≤W'.heap.size
 cells:∀ (g:Nat) (cs:Array Value) (T:TypeId) (m:Nat × Nat),W.heap[g]?=some (.cells cs T m)→T=27 ∨ T=147→W'.heap[g]?=some (.cells cs T m)
theorem KpO.trans {b l:Nat} {X Y Z:af} (h:KpO b l X Y) (k:KpO b l Y Z):KpO b l X Z :=
 ⟨TZ h.size k.size,fun g cs T m hg h1 h2=>k.cells g cs T m (h.cells g cs T m hg h1 h2) h1 h2,fun g o hg hc h1 h2=>k.other g o (h.other g o hg hc h1 h2) hc h1 h2⟩
theorem KpI.trans {X Y Z:af} (h:KpI X Y) (k:KpI Y Z):KpI X Z :=
 ⟨TZ h.size k.size,fun g cs T m hg h1=>k.cells g cs T m (h.cells g cs T m hg h1) h1⟩
theorem oh {W:af} {l g:Nat} {o':Obj} (h:g ≠ l):(W.putObj l o').heap[g]?=W.heap[g]?:=World.putObj_heap_other h
theorem KpO.put {b l:Nat} {W:af} {o o':Obj} (h:W.heap[l]?=some o) (hc:o.isCells=false):KpO b l W (W.putObj l o') where
 size:=by simp
 cells g cs T m hg _ _:=by
  have:g ≠ l:=fun e=>by subst e; rw [h] at hg; injection hg with hg; subst hg; cases hc
  rw [oh this]; exact hg
 other g x hg _ h1 _:=by rw [oh h1]; exact hg
theorem KpI.put {l:Nat} {W:af} {o o':Obj} (h:W.heap[l]?=some o) (hc:o.isCells=false):KpI W (W.putObj l o') where
 size:=by simp
 cells g cs T m hg _:=by
  have:g ≠ l:=fun e=>by subst e; rw [h] at hg; injection hg with hg; subst hg; cases hc
  rw [oh this]; exact hg
theorem KpO.below {b l:Nat} {W W':af} (h:ag W W'):KpO b l W W' :=
 ⟨h.size,fun g cs T m hg _ _=>(h.block g (Array.getElem?_eq_some_iff.1 hg).1).trans hg,fun g o hg _ _ _=>(h.block g (Array.getElem?_eq_some_iff.1 hg).1).trans hg⟩
theorem KpI.below {W W':af} (h:ag W W'):KpI W W' :=
 ⟨h.size,fun g cs T m hg _=>(h.block g (Array.getElem?_eq_some_iff.1 hg).1).trans hg⟩
theorem KpO.toI {b l:Nat} {W W':af} (h:KpO b l W W'):KpI W W' :=
 ⟨h.size,fun g cs T m hg hT=>h.cells g cs T m hg (by rcases hT with e | e <;> (rw [e]; decide)) (by rcases hT with e | e <;> (rw [e]; decide))⟩
theorem Ag {W W':af} (h:ag W W'):W.grownBy W' none:=⟨h.os,h.tape,h.output,h.size,fun k hk _=>h.block k hk⟩
theorem mV {β:Type} {B:Nat} {I:β→World→Prop} (h:OwnFrom B I) {s:β} {W W':af} (hs:I s W) (hb:ag W W'):I s W':=h s W W' none hs (Ag hb) (fun r e=>by cases e)
set_option maxRecDepth 100000
theorem ve {x y:Al}:jR x y=true ↔ x=y:=by
 unfold jR;simp only [TU,beq_iff_eq];constructor
 ·rintro ⟨h0,h1⟩;obtain ⟨xa,xb⟩:=x;obtain ⟨ya,yb⟩:=y;simp only at h0 h1;rw [FU h0,FU h1]
 rintro rfl; simp
theorem C8 (x y:Al):jR x y=jR y x:=by
 rw [Bool.eq_iff_iff,ve,ve];exact ⟨Eq.symm,Eq.symm⟩
theorem Oz (x y:Al) {v:Bool} (h:jR x y=v) (w:af) :
  (binOp .eql 27 (.agg #[.string x.t,.string x.s]) (.agg #[.string y.t,.string y.s])).run prog w=.ok (.bool v) w:=by
 subst h;go_simp;unfold jR
 (repeat' split) <;> simp_all
def mH (xs:List Al) (o:Al):Bool:=xs.any fun x=>jR x o
theorem OA {xs:List Al} {o:Al}:mH xs o=true ↔ o ∈ xs:=by
 unfold mH;rw [Uo];constructor
 ·rintro ⟨x,hx,e⟩; rw [← ve.1 e]; exact hx
 intro h; exact ⟨o,h,ve.2 rfl⟩
theorem LB {xs:List Al} {o:Al} {k:Nat} (h:k < xs.length):mH (xs.take (k + 1)) o=(mH (xs.take k) o || jR xs[k] o):=by
 rw [TV h];unfold mH;rw [List.any_append];simp only [List.any_cons,List.any_nil,Bool.or_false]
theorem OB {xs:List Al} {o:Al} {k:Nat} (h:k < xs.length) (he:jR xs[k] o=true):mH xs o=true:=Uo.2 ⟨xs[k],TQ h,he⟩
theorem I8 (ad:Option Addr) (cap:Nat) (ts:List Al) (t:Al) (w:af) (hlen:ts.length≤1048576) (hs:jN w ad ts) :
  Calls prog 226 #[.slice ad ts.length cap,.agg #[.string t.t,.string t.s]] w fun e w'=>(∃ r:Int,e=.returned (.int .i64 r)∧decide (0≤r)=mH ts t)∧ag w w':=by
 obtain ⟨W,hW⟩:∃ W,W=w.alloc (.cells #[.string t.t,.string t.s] 27):=⟨_,rfl⟩;have HB0:Hid (ag w W):=by show Below _ _ _; rw [hW]; exact (TT w.heap.size w).alloc (TS _) _
 have hz:w.heap.size < W.heap.size:=by rw [hW]; simp
 have b0:W.cell? ⟨w.heap.size,0,none⟩=some (.string t.t):=by rw [hW]; simp
 have b1:W.cell? ⟨w.heap.size,1,none⟩=some (.string t.s):=by rw [hW]; simp
 have HS:=az (hs.below HB0.out);clear hs;go_enter func226,ntmps226;go_wp2_with fail;rw [← hW];clear hW;go_loopw [8] (fun i wr=>∃ k:Nat,k≤ts.length∧i=.int .i64 k∧Hid (mH (ts.take k) t=false)∧ag W wr) (fun i _=>ts.length - (intOf i).toNat);case atStart=>exact ⟨0,TW _,rfl,rfl,TT _ _⟩
 obtain ⟨k,hk,rfl,HP,hB⟩:=hrel;have a0:=bf hB hz b0;have a1:=bf hB hz b1;by_cases hlt:k < ts.length
 ·rcases HS.out.below hB with hnil | ⟨b,off,rfl,hb,hr⟩
  ·rw [hnil] at hlt; simp at hlt
  obtain ⟨t0,t1⟩:=hr k hlt;have hk1:=bB k;have hk2:(k:Int) < (ts.length:Int):=by omega
  clear hr;cases hq:jR t ts[k];case true=>
   have HE:=Oz t ts[k] hq;have HN:Hid (mH ts t=true):=OB hlt (by rw [C8]; exact hq);go_wp2_with fail;go_quiet (fail);go_wp2;go_ret;exact ⟨⟨_,rfl,by rw [HN.out]; simp⟩,HB0.out.trans (below_drewN (hB.mono HB0.out.size) _)⟩
  have HE:=Oz t ts[k] hq;have UI:Hid (mH (ts.take (k + 1)) t=false):=by show _=_; rw [LB hlt,HP.out,C8,hq]; rfl
  go_wp2_with fail;go_quiet (fail);go_wp2;go_roundw;case rel=>exact ⟨k + 1,by omega,by go_num,UI,below_drewN hB _⟩
  simp [intOf] <;> omega
 obtain rfl:k=ts.length:=by omega
 have HN:Hid (mH ts t=false):=by have:=HP.out; rw [Ug] at this; exact this
 go_wp2;go_ret;exact ⟨⟨-1,rfl,by rw [HN.out]; rfl⟩,HB0.out.trans (hB.mono HB0.out.size)⟩
theorem BH (ad:Option Addr) (cap:Nat) (ts:List Al) (t:Al) (w:af) (hlen:ts.length≤1048576) (hs:jN w ad ts) :
  Calls prog 198 #[.slice ad ts.length cap,.agg #[.string t.t,.string t.s]] w fun e w'=>e=.returned (.bool (mH ts t))∧ag w w':=by
 have HB0:Hid (ag w (w.alloc (.cells #[.string t.t,.string t.s] 27))):=(TT w.heap.size w).alloc (TS _) _;have HS:=aD hs;clear hs;go_enter func198,ntmps198;go_wp2_with fail;refine (I8 ad cap ts t _ hlen (HS.out.below HB0.out)).mono ?_;rintro e w1 ⟨⟨r,rfl,hr⟩,hb1⟩;have HR:=aD hr;have HB1:=aD (HB0.out.trans (hb1.mono HB0.out.size));clear hr hb1;go_wp2;go_ret;exact ⟨ah HR.out,HB1.out⟩
def aZ (xs:List Al) (o:Al):List Al:=if mH xs o then xs else xs ++ [o]
theorem Ah:∃ i,prog.info? 27=some i∧i.zero=some (.agg #[.string ⟨#[]⟩,.string ⟨#[]⟩])∧i.size=2∧i.bytes=32 :=
 info_parts (P:=prog) (e:=27) (z:=.agg #[.string ⟨#[]⟩,.string ⟨#[]⟩]) (size:=2) (bytes:=32) (by kernel_rfl)
theorem kC {w:af} {base:Nat} {v:Value} {xs:List Al} (h:w.ownsRow base 27 2 v xs.length (pairs xs)):∃ ad cap,v=.slice ad xs.length cap∧jN w ad xs:=by
 rcases h.2 with ⟨rfl,h0⟩ | ⟨g,cap,cur,rfl,hbg,hg,hnc,-⟩
 ·exact ⟨none,0,by rw [h0],.inl (Ui.1 h0)⟩
 refine ⟨_,cap,rfl,.inr ⟨g,0,rfl,(h.lt g rfl).2,fun i hi=>?_⟩⟩;obtain ⟨h0,h1⟩:=nI xs i hi;have hl:=ll xs;refine ⟨?_,?_⟩
 ·rw [h.cellAt (0 + i * 2) (by omega),Um]; exact h0
 rw [h.cellAt (0 + i * 2 + 1) (by omega),Um]; exact h1
theorem mg (B:Nat) (v:Value) (xs:List Al) (o:Al) (w:af) (hlen:xs.length≤1000) (hB:B≤w.heap.size) (hown:w.ownsRow B 27 2 v xs.length (pairs xs)) :
  Calls prog 143 #[v,.agg #[.string o.t,.string o.s]] w fun e w'=>∃ v',e=.returned v'∧w'.ownsRow B 27 2 v' (aZ xs o).length (pairs (aZ xs o))∧Aside w v w' v'∧∀ B',(∀ g,v.ownBlock=some g→B'≤g)→B'≤w.heap.size→Below B' w w':=by
 obtain ⟨iO,h0,h1,h2,h3⟩:=Ah;have Yo:=aD (And.intro h0 (And.intro h1 (And.intro h2 h3)));obtain ⟨ad,cap,rfl,hsl⟩:=kC hown;obtain ⟨W,hW⟩:∃ W,W=w.alloc (.cells #[.string o.t,.string o.s] 27):=⟨_,rfl⟩;have HB0:Hid (ag w W):=by show Below _ _ _; rw [hW]; exact (TT w.heap.size w).alloc (TS _) _
 have hz:w.heap.size < W.heap.size:=by rw [hW]; simp
 have b0:W.cell? ⟨w.heap.size,0,none⟩=some (.string o.t):=by rw [hW]; simp
 have b1:W.cell? ⟨w.heap.size,1,none⟩=some (.string o.s):=by rw [hW]; simp
 have WG:=aD hsl;have HO:=aD hown;clear hsl hown h0 h1 h2 h3;go_enter func143,ntmps143;go_wp2_with fail;rw [← hW];clear hW;refine (BH ad cap xs o _ (by omega) (WG.out.below HB0.out)).mono ?_;rintro e w1 ⟨rfl,hb1⟩;have HB1:=aD (HB0.out.trans (hb1.mono HB0.out.size));have c0:=bf hb1 hz b0;have c1:=bf hb1 hz b1;have UV:=aD (cO HO.out HB1.out);have HA1:Hid (Aside w (.slice ad xs.length cap) w1 (.slice ad xs.length cap)):=Aside.below HB1.out;clear hb1 b0 b1;cases hh:mH xs o;case true=>
  have HW:Hid (aZ xs o=xs):=by show _=_; unfold aZ; rw [hh]; rfl
  go_wp2;go_ret;exact ⟨_,rfl,by rw [HW.out]; exact UV.out,HA1.out,fun B' _ hB'=>HB1.out.mono hB'⟩
 have HW:Hid (aZ xs o=xs ++ [o]):=by show _=_; unfold aZ; rw [hh]; rfl
 obtain ⟨W2,hW2⟩:∃ W2,W2=w1.alloc (.cells #[.string o.t,.string o.s] 27):=⟨_,rfl⟩;have UB:Hid (W2.ownsRow B 27 2 (.slice ad xs.length cap) xs.length (pairs xs)):=by show World.ownsRow _ _ _ _ _ _ _; rw [hW2]; exact UV.out.alloc _
 have HA2:Hid (Aside w (.slice ad xs.length cap) W2 (.slice ad xs.length cap)):=by show Aside _ _ _ _; rw [hW2]; exact HA1.out.trans (Aside.below ((TT _ _).alloc (TS _) _))
 have YC:Hid (ag w W2):=by show Below _ _ _; rw [hW2]; exact HB1.out.alloc HB1.out.size _
 have VY:Hid (∀ j u,[Value.string o.t,.string o.s][j]?=some u→W2.cell? ((⟨w1.heap.size,0,none⟩:Addr).add j)=some u):=fun j u hu=>by
  rw [hW2]
  match j,hu with
  | 0,hu=>simp at hu; subst hu; simp [Addr.add]
  | 1,hu=>simp at hu; subst hu; simp [Addr.add]
 have hsz2:B≤W2.heap.size:=by have:=HB1.out.size; rw [hW2]; simp; omega
 clear hh;go_wp2_with (at_builtin; rw [← hW2]; clear hW2; refine wpList_append_own_at _ rfl _ _ 49 rfl B 27 iO (.agg #[.string ⟨#[]⟩,.string ⟨#[]⟩]) 2 32 underlying49 Yo.out.1 Yo.out.2.1 Yo.out.2.2.1 Yo.out.2.2.2 rfl (by decide) _ xs.length (pairs xs) rfl UB.out ⟨w1.heap.size,0,none⟩ 1 1 [.string o.t,.string o.s] rfl rfl VY.out (by simp [Value.oneCell']) (by unfold maxLen; omega) (by omega) hsz2 ?_);intro v' w3 hown hgr _ hat;have HE:Hid (w3.ownsRow B 27 2 v' (aZ xs o).length (pairs (aZ xs o))):=by
  show World.ownsRow _ _ _ _ _ _ _;rw [HW.out,T9];have:pairs (xs ++ [o])=pairs xs ++ [.string o.t,.string o.s]:=by simp [pairs]
  rw [this]; exact hown
 have HA3:Hid (Aside w (.slice ad xs.length cap) w3 v'):=HA2.out.trans (Aside.app hgr hat);have Yp:Hid (∀ B',(∀ g,(Value.slice ad xs.length cap).ownBlock=some g→B'≤g)→B'≤w.heap.size→Below B' w w3):=fun B' hv hB'=>(YC.out.mono hB').grown hgr (TZ hB' YC.out.size) hv;clear hown hgr hat;go_wp2;go_ret;exact ⟨_,rfl,HE.out,HA3.out,Yp.out⟩
def aH (fs:List Fc):List Value:=fs.flatMap Fc.row
theorem lF:∀ fs:List Fc,(aH fs).length=fs.length * 5
 | []=>rfl
 | f::fs=>by have:=lF fs; simp only [aH,List.flatMap_cons,T9,List.length_cons,Fc.row,List.length_nil] at this ⊢; omega
theorem Ai (fs:List Fc) (f:Fc):aH (fs ++ [f])=aH fs ++ f.row:=by simp [aH]
theorem qH:∀ (fs:List Fc) (i:Nat) (h:i < fs.length) (c:Nat),c < 5→(aH fs)[i * 5 + c]?=fs[i].row[c]?
 | [],i,h,_,_=>by simp at h
 | f::fs,0,_,c,hc=>by
  simp only [aH,List.flatMap_cons,Nat.zero_mul,Um,List.getElem_cons_zero];rw [List.getElem?_append_left (by simp [Fc.row]; omega)]
 | f::fs,i + 1,h,c,hc=>by
  have ih:=qH fs i (by simpa using h) c hc;simp only [aH,List.flatMap_cons,List.getElem_cons_succ] at ih ⊢;rw [List.getElem?_append_right (by simp [Fc.row]; omega)];have:(i + 1) * 5 + c - f.row.length=i * 5 + c:=by simp [Fc.row]; omega
  rw [this]; exact ih
theorem mW {w:af} {base:Nat} {v:Value} {fs:List Fc} (h:w.ownsRow base 29 5 v fs.length (aH fs)):∃ ad cap,v=.slice ad fs.length cap∧Bu w ad fs:=by
 rcases h.2 with ⟨rfl,h0⟩ | ⟨g,cap,cur,rfl,hbg,hg,hnc,-⟩
 ·exact ⟨none,0,by rw [h0],.inl (Ui.1 h0)⟩
 refine ⟨_,cap,rfl,.inr ⟨g,0,rfl,(h.lt g rfl).2,fun i hi=>?_⟩⟩;have hl:=lF fs;have hc:∀ c,c < 5→w.cell? ⟨g,0 + i * 5 + c,none⟩=fs[i].row[c]?:=fun c hc=>by
  rw [h.cellAt (0 + i * 5 + c) (by omega),Um]; exact qH fs i hi c hc
 exact ⟨hc 0 (by omega),hc 1 (by omega),hc 2 (by omega),hc 3 (by omega),hc 4 (by omega)⟩
theorem Et:∃ i,prog.info? 29=some i∧i.zero=some (.agg #[.string ⟨#[]⟩,.string ⟨#[]⟩,.string ⟨#[]⟩,.string ⟨#[]⟩,.string ⟨#[]⟩])∧i.size=5∧i.bytes=80 :=
 info_parts (P:=prog) (e:=29) (z:=.agg #[.string ⟨#[]⟩,.string ⟨#[]⟩,.string ⟨#[]⟩,.string ⟨#[]⟩,.string ⟨#[]⟩]) (size:=5) (bytes:=80) (by kernel_rfl)
theorem Kv (w:af) (f:Fc):∀ j u,f.row[j]?=some u→(w.alloc (.cells #[.string f.a,.string f.b,.string f.r,.string f.c,.string f.d] 29)).cell? ((⟨w.heap.size,0,none⟩:Addr).add j)=some u:=fun j u hu=>by
 match j,hu with
 | 0,hu=>simp [Fc.row] at hu; subst hu; simp [Addr.add]
 | 1,hu=>simp [Fc.row] at hu; subst hu; simp [Addr.add]
 | 2,hu=>simp [Fc.row] at hu; subst hu; simp [Addr.add]
 | 3,hu=>simp [Fc.row] at hu; subst hu; simp [Addr.add]
 | 4,hu=>simp [Fc.row] at hu; subst hu; simp [Addr.add]
structure OutI (w W wr:World) (v:Value) (out:List Fc):Prop where
 row:wr.ownsRow w.heap.size 29 5 v out.length (aH out)
 keep:∀ g o x,W.cell? ⟨g,o,none⟩=some x→wr.cell? ⟨g,o,none⟩=some x
 size:W.heap.size≤wr.heap.size
 bel:ag w wr
 free:∀ g,v.ownBlock=some g→∀ o,W.cell? ⟨g,o,none⟩=none
theorem aF {w:af} {g o:Nat} {x:Value} (h:w.cell? ⟨g,o,none⟩=some x):g < w.heap.size:=by
 unfold World.cell? at h;cases ho:w.heap[g]? with
 | none=>simp [ho] at h
 | some o=>exact (Array.getElem?_eq_some_iff.1 ho).1
theorem Qz {w:af} {g o:Nat} (h:w.heap.size≤g):w.cell? ⟨g,o,none⟩=none:=by
 cases e:w.cell? ⟨g,o,none⟩ with
 | none=>rfl
 | some x=>have:=aF e; omega
theorem OutI.below {w W wr w':af} {v:Value} {out:List Fc} (h:OutI w W wr v out) (hb:ag wr w'):OutI w W w' v out where
 row:=cO h.row hb
 keep g o x hx:=(hb.cell (p:=⟨g,o,none⟩) (aF (h.keep g o x hx))).trans (h.keep g o x hx)
 size:=TZ h.size hb.size
 bel:=h.bel.trans (hb.mono h.bel.size)
 free:=h.free
theorem OutI.app {w W wr w':af} {v v':Value} {out:List Fc} {f:Fc} (h:OutI w W wr v out) (hown:w'.ownsRow w.heap.size 29 5 v' (out.length + 1) (aH out ++ f.row)) (hgr:wr.grownBy w' v.ownBlock) (hat:v'.ownBlock=v.ownBlock ∨ v'.ownBlock=some wr.heap.size):OutI w W w' v' (out ++ [f]) where
 row:=by rw [Ai,T9]; exact hown
 keep g o x hx:=by
  have h1:=h.keep g o x hx;refine (Ul (w:=wr) (a:=⟨g,o,none⟩) (hgr.block g (aF h1) fun e=>?_)).trans h1;rw [h.free g e.symm o] at hx;cases hx
 size:=TZ h.size hgr.size
 bel:=h.bel.grown hgr h.bel.size (fun g hg=>(h.row.lt g hg).1)
 free g hg o:=by
  rcases hat with e | e
  ·rw [e] at hg; exact h.free g hg o
  rw [hg] at e; injection e with e; rw [e]; exact Qz h.size
theorem jN.keepC {w w':af} {ad:Option Addr} {xs:List Al} (h:jN w ad xs) (hs:w.heap.size≤w'.heap.size) (hk:∀ g o x,w.cell? ⟨g,o,none⟩=some x→w'.cell? ⟨g,o,none⟩=some x):jN w' ad xs:=by
 rcases h with h | ⟨b,off,e,hb,hr⟩
 ·exact .inl h
 exact .inr ⟨b,off,e,TP hb hs,fun i hi=>⟨hk _ _ _ (hr i hi).1,hk _ _ _ (hr i hi).2⟩⟩
theorem Iq.keepC {w w':af} {ad:Option Addr} {xs:List St} (h:Iq w ad xs) (hs:w.heap.size≤w'.heap.size) (hk:∀ g o x,w.cell? ⟨g,o,none⟩=some x→w'.cell? ⟨g,o,none⟩=some x):Iq w' ad xs:=by
 rcases h with h | ⟨b,off,e,hb,hr⟩
 ·exact .inl h
 exact .inr ⟨b,off,e,TP hb hs,fun i hi=>⟨hk _ _ _ (hr i hi).1,hk _ _ _ (hr i hi).2.1,hk _ _ _ (hr i hi).2.2⟩⟩
theorem Iq.at0 {w:af} {ad:Option Addr} {xs:List St} (h:Iq w ad xs) {k:Nat} (hk:k < xs.length):∃ b off,ad=some ⟨b,off,none⟩∧S9 w b (off + k * 3) xs[k]∧b < w.heap.size:=by
 rcases h with h | ⟨b',off',e,hb,hr⟩
 ·rw [h] at hk; simp at hk
 exact ⟨b',off',e,hr k hk,hb⟩
def Sn:Value→Nat
 | .slice _ n _=>n
 | _=>0
def TG:Value→Nat
 | .bool true=>1
 | _=>0
def fP (xs:List Al) (t:Tp):List Al:=aZ (aZ xs ⟨t.a,t.b⟩) ⟨t.c,t.d⟩
def cu (xs:List Al) (t:Tp):List Al:=if t.s.toList == [] then aZ xs ⟨t.c,t.d⟩ else xs
def eB (ts:List Tp):List Al:=ts.foldl fP []
def cZ (ts:List Tp):List Al:=ts.foldl cu []
theorem Aj (ts:List Tp) (t:Tp):eB (ts ++ [t])=fP (eB ts) t:=by simp [eB]
theorem xL (ts:List Tp) (t:Tp):cZ (ts ++ [t])=cu (cZ ts) t:=by simp [cZ]
theorem ol (xs:List Al) (o:Al):(aZ xs o).length≤xs.length + 1:=by
 unfold aZ; split
 ·omega
 simp
theorem qI (xs:List Al) (t:Tp):(fP xs t).length≤xs.length + 2:=by
 unfold fP;have h1:=ol (aZ xs ⟨t.a,t.b⟩) ⟨t.c,t.d⟩;have h2:=ol xs ⟨t.a,t.b⟩;omega
theorem qJ (xs:List Al) (t:Tp):(cu xs t).length≤xs.length + 1:=by
 unfold cu; split
 ·exact ol _ _
 omega
def LC (t:Tp):K3:=(t.a,t.b,t.r)
def dK (ts:List Tp):List (K3 × Tp):=ts.map fun t=>(LC t,t)
theorem I9 (ts:List Tp) (t:Tp):dK (ts ++ [t])=dK ts ++ [(LC t,t)]:=by simp [dK]
structure DatT (w:World) (D br bp:Nat) (tab:Value) (n1:Int) (E:List (K3 × Tp)) (xo xu:List Al) (np:Nat) (Mp:K3→Option Value) (vo vu:Value):Prop where
 gt:bp < D
 lt:D < w.heap.size
 kind:∃ cur,w.heap[D]?=some (.cells cur 168 (0,0))
 c0:w.cell? ⟨D,0,none⟩=some tab
 c1:w.cell? ⟨D,1,none⟩=some (.int .i64 n1)
 c2:w.cell? ⟨D,2,none⟩=some (.map (some br))
 c3:w.cell? ⟨D,3,none⟩=some (.map (some bp))
 c4:w.cell? ⟨D,4,none⟩=some vo
 c5:w.cell? ⟨D,5,none⟩=some vu
 told:G.Grp qi prog 223 46 6 Tp.row w bp np Mp E
 objs:w.ownsRow (bp + 1) 27 2 vo xo.length (pairs xo)
 users:w.ownsRow (bp + 1) 27 2 vu xu.length (pairs xu)
 apart:∀ g,vo.ownBlock=some g→vu.ownBlock ≠ some g
theorem dI {w:af} {base size n g:Nat} {e e':TypeId} {v:Value} {xs:List Value} {cur:Array Value} (h:w.ownsRow base e size v n xs) (hg:v.ownBlock=some g) (hc:w.heap[g]?=some (.cells cur e' (0,0))):e=e':=by
 rcases h.2 with ⟨rfl,-⟩ | ⟨g',cap,cur',rfl,-,hg',-⟩
 ·simp [Value.ownBlock] at hg
 have e1:g'=g:=by simpa [Value.ownBlock] using hg
 rw [e1,hc] at hg';injection hg' with hg';injection hg' with _ h2;exact h2.symm
theorem Eu {w:af} {base size n g:Nat} {e:TypeId} {v:Value} {xs:List Value} {es:Array MapEntry} {c:Nat} (h:w.ownsRow base e size v n xs) (hg:v.ownBlock=some g) (hc:w.heap[g]?=some (.map es c)):False:=by
 rcases h.2 with ⟨rfl,-⟩ | ⟨g',cap,cur',rfl,-,hg',-⟩
 ·simp [Value.ownBlock] at hg
 have e1:g'=g:=by simpa [Value.ownBlock] using hg
 rw [e1,hc] at hg';cases hg'
theorem d9 {w w':af} {base size n:Nat} {e:TypeId} {v:Value} {xs:List Value} (h:w.ownsRow base e size v n xs) (hb:∀ g,v.ownBlock=some g→w'.heap[g]?=w.heap[g]?):w'.ownsRow base e size v n xs:=by
 refine ⟨h.1,?_⟩;rcases h.2 with h0 | ⟨g,cap,cur,rfl,h1,h2,h3⟩
 ·exact .inl h0
 exact .inr ⟨g,cap,cur,rfl,h1,(hb g rfl).trans h2,h3⟩
theorem jH {w:af} {base size n g:Nat} {e:TypeId} {v:Value} {xs:List Value} (h:w.ownsRow base e size v n xs) (hg:v.ownBlock=some g):∃ cur,w.heap[g]?=some (.cells cur e (0,0)):=by
 rcases h.2 with ⟨rfl,-⟩ | ⟨g',cap,cur',rfl,-,hg',-⟩
 ·simp [Value.ownBlock] at hg
 have e1:g'=g:=by simpa [Value.ownBlock] using hg
 exact ⟨cur',by rw [← e1]; exact hg'⟩
theorem vg {w:af} {bp np:Nat} {Mp:K3→Option Value} {E:List (K3 × Tp)} (h:G.Grp qi prog 223 46 6 Tp.row w bp np Mp E) {k:K3} {v:Value} (hk:Mp k=some v):∃ n xs,w.ownsRow (bp + 1) 46 6 v n xs:=by
 rcases h.row k with ⟨e,-⟩ | ⟨v',e,ho⟩
 ·rw [e] at hk; cases hk
 rw [e] at hk; injection hk with hk; subst hk; exact ⟨_,_,ho⟩
theorem Gb {w:af} {bp np g:Nat} {Mp:K3→Option Value} {E:List (K3 × Tp)} {e:TypeId} {cur:Array Value} (h:G.Grp qi prog 223 46 6 Tp.row w bp np Mp E) (hc:w.heap[g]?=some (.cells cur e (0,0))) (hne:(46:TypeId) ≠ e):G.FreeB Mp g:=fun k v hk hg=>by
 obtain ⟨n,xs,ho⟩:=vg h hk;exact hne (dI ho hg hc)
theorem vk {w w':af} {bp np:Nat} {Mp:K3→Option Value} {E:List (K3 × Tp)} (h:G.Grp qi prog 223 46 6 Tp.row w bp np Mp E) (hm:w'.heap[bp]?=w.heap[bp]?) (hr:∀ k v g,Mp k=some v→v.ownBlock=some g→w'.heap[g]?=w.heap[g]?):G.Grp qi prog 223 46 6 Tp.row w' bp np Mp E where
 map:=h.map.of_block hm
 row k:=by
  rcases h.row k with e | ⟨v,e,ho⟩
  ·exact .inl e
  exact .inr ⟨v,e,d9 ho fun g hg=>hr k v g e hg⟩
 apart:=h.apart
section
variable {w w':World} {D br bp:Nat} {tab:Value} {n1:Int} {E:List (K3 × Tp)} {xo xu:List Al} {np:Nat} {Mp:K3→Option Value} {vo vu:Value}
theorem DatT.below (h:DatT w D br bp tab n1 E xo xu np Mp vo vu) (hb:ag w w'):DatT w' D br bp tab n1 E xo xu np Mp vo vu where
 gt:=h.gt
 lt:=TP h.lt hb.size
 kind:=by obtain ⟨cur,e⟩:=h.kind; exact ⟨cur,(hb.block D h.lt).trans e⟩
 c0:=(hb.cell (p:=⟨D,0,none⟩) h.lt).trans h.c0
 c1:=(hb.cell (p:=⟨D,1,none⟩) h.lt).trans h.c1
 c2:=(hb.cell (p:=⟨D,2,none⟩) h.lt).trans h.c2
 c3:=(hb.cell (p:=⟨D,3,none⟩) h.lt).trans h.c3
 c4:=(hb.cell (p:=⟨D,4,none⟩) h.lt).trans h.c4
 c5:=(hb.cell (p:=⟨D,5,none⟩) h.lt).trans h.c5
 told:=h.told.below hb
 objs:=cO h.objs hb
 users:=cO h.users hb
 apart:=h.apart
theorem DatT.tell (h:DatT w D br bp tab n1 E xo xu np Mp vo vu) {Mp':K3→Option Value} {E':List (K3 × Tp)} {np':Nat} (hg:G.Grp qi prog 223 46 6 Tp.row w' bp np' Mp' E') (hs:G.Stl w Mp w' Mp' bp):DatT w' D br bp tab n1 E' xo xu np' Mp' vo vu:=by
 have hD:w'.heap[D]?=w.heap[D]?:=by
  obtain ⟨cur,e⟩:=h.kind;exact hs.block D h.lt (by have:=h.gt; omega) (Gb h.told e (by decide))
 have hc:∀ o,w'.cell? ⟨D,o,none⟩=w.cell? ⟨D,o,none⟩:=fun o=>Ul (w:=w) (a:=⟨D,o,none⟩) hD;have hO:∀ {v:Value} {n:Nat} {xs:List Value},w.ownsRow (bp + 1) 27 2 v n xs→w'.ownsRow (bp + 1) 27 2 v n xs:=fun {v n xs} ho=>d9 ho fun g hg=>by
  obtain ⟨cur,e⟩:=jH ho hg;have:=ho.lt g hg;exact hs.block g this.2 (by omega) (Gb h.told e (by decide))
 exact ⟨h.gt,TP h.lt hs.size,by obtain ⟨cur,e⟩:=h.kind; exact ⟨cur,hD.trans e⟩,(hc _).trans h.c0,(hc _).trans h.c1,(hc _).trans h.c2,(hc _).trans h.c3,(hc _).trans h.c4,(hc _).trans h.c5,hg,hO h.objs,hO h.users,h.apart⟩
theorem DatT.newO (h:DatT w D br bp tab n1 E xo xu np Mp vo vu) {XC:Value} {xo':List Al} (ho:w'.ownsRow (bp + 1) 27 2 XC xo'.length (pairs xo')) (ha:Aside w vo w' XC):DatT (w'.setCell ⟨D,4,none⟩ XC) D br bp tab n1 E xo' xu np Mp XC vu:=by
 obtain ⟨cur,hk⟩:=h.kind;have XD:vo.ownBlock ≠ some D:=fun e=>absurd (dI h.objs e hk) (by decide);have hD:w'.heap[D]?=w.heap[D]?:=ha.block D h.lt XD;have hc:∀ o,w'.cell? ⟨D,o,none⟩=w.cell? ⟨D,o,none⟩:=fun o=>Ul (w:=w) (a:=⟨D,o,none⟩) hD;have hc2:∀ o,o ≠ 4→(w'.setCell ⟨D,4,none⟩ XC).cell? ⟨D,o,none⟩=w.cell? ⟨D,o,none⟩:=fun o ne=>(kK (by omega)).trans (hc o);have hDn:XC.ownBlock ≠ some D:=ha.apart h.lt XD;have hne:∀ g,g ≠ D→(w'.setCell ⟨D,4,none⟩ XC).heap[g]?=w'.heap[g]?:=fun g e=>heap_setCell_other w' ⟨D,4,none⟩ g XC e;have hbp:bp < w.heap.size:=by have:=h.gt; have:=h.lt; omega
 have hrow:∀ k v g,Mp k=some v→v.ownBlock=some g→(w'.setCell ⟨D,4,none⟩ XC).heap[g]?=w.heap[g]?:=fun k v g hm hg=>by
  obtain ⟨n,xs,hr⟩:=vg h.told hm;obtain ⟨cr,er⟩:=jH hr hg;rw [hne g (fun e=>absurd (dI hr (e ▸ hg) hk) (by decide))];exact ha.block g (hr.lt g hg).2 (fun e=>absurd (dI h.objs e er) (by decide))
 refine ⟨h.gt,by simpa using TP h.lt ha.size,⟨_,heap_setCell_same w' D 4 cur _ XC (hD.trans hk)⟩,(hc2 0 (by omega)).trans h.c0,(hc2 1 (by omega)).trans h.c1,(hc2 2 (by omega)).trans h.c2,(hc2 3 (by omega)).trans h.c3,Oe ((hc 4).trans h.c4),(hc2 5 (by omega)).trans h.c5,vk h.told ?_ hrow,d9 ho fun g hg=>hne g fun e=>hDn (e ▸ hg),d9 h.users fun g hg=>?_,fun g hg hu=>?_⟩
 ·rw [hne bp (by have:=h.gt; omega)];exact ha.block bp hbp fun e=>by have:=(h.objs.lt bp e).1; omega
 ·rw [hne g (fun e=>absurd (dI h.users (e ▸ hg) hk) (by decide))];exact ha.block g (h.users.lt g hg).2 fun e=>h.apart g e hg
 rcases ha.own with e | ⟨g',e,hg'⟩
 ·exact h.apart g (e ▸ hg) hu
 rw [hg] at e; injection e with e;have:=(h.users.lt g hu).2;omega
theorem DatT.newU (h:DatT w D br bp tab n1 E xo xu np Mp vo vu) {XE:Value} {xu':List Al} (ho:w'.ownsRow (bp + 1) 27 2 XE xu'.length (pairs xu')) (ha:Aside w vu w' XE):DatT (w'.setCell ⟨D,5,none⟩ XE) D br bp tab n1 E xo xu' np Mp vo XE:=by
 obtain ⟨cur,hk⟩:=h.kind;have XD:vu.ownBlock ≠ some D:=fun e=>absurd (dI h.users e hk) (by decide);have hD:w'.heap[D]?=w.heap[D]?:=ha.block D h.lt XD;have hc:∀ o,w'.cell? ⟨D,o,none⟩=w.cell? ⟨D,o,none⟩:=fun o=>Ul (w:=w) (a:=⟨D,o,none⟩) hD;have hc2:∀ o,o ≠ 5→(w'.setCell ⟨D,5,none⟩ XE).cell? ⟨D,o,none⟩=w.cell? ⟨D,o,none⟩:=fun o ne=>(kK (by omega)).trans (hc o);have hDn:XE.ownBlock ≠ some D:=ha.apart h.lt XD;have hne:∀ g,g ≠ D→(w'.setCell ⟨D,5,none⟩ XE).heap[g]?=w'.heap[g]?:=fun g e=>heap_setCell_other w' ⟨D,5,none⟩ g XE e;have hbp:bp < w.heap.size:=by have:=h.gt; have:=h.lt; omega
 have hrow:∀ k v g,Mp k=some v→v.ownBlock=some g→(w'.setCell ⟨D,5,none⟩ XE).heap[g]?=w.heap[g]?:=fun k v g hm hg=>by
  obtain ⟨n,xs,hr⟩:=vg h.told hm;obtain ⟨cr,er⟩:=jH hr hg;rw [hne g (fun e=>absurd (dI hr (e ▸ hg) hk) (by decide))];exact ha.block g (hr.lt g hg).2 (fun e=>absurd (dI h.users e er) (by decide))
 refine ⟨h.gt,by simpa using TP h.lt ha.size,⟨_,heap_setCell_same w' D 5 cur _ XE (hD.trans hk)⟩,(hc2 0 (by omega)).trans h.c0,(hc2 1 (by omega)).trans h.c1,(hc2 2 (by omega)).trans h.c2,(hc2 3 (by omega)).trans h.c3,(hc2 4 (by omega)).trans h.c4,Oe ((hc 5).trans h.c5),vk h.told ?_ hrow,d9 h.objs fun g hg=>?_,d9 ho fun g hg=>hne g fun e=>hDn (e ▸ hg),fun g hg hu=>?_⟩
 ·rw [hne bp (by have:=h.gt; omega)];exact ha.block bp hbp fun e=>by have:=(h.users.lt bp e).1; omega
 ·rw [hne g (fun e=>absurd (dI h.objs (e ▸ hg) hk) (by decide))];exact ha.block g (h.objs.lt g hg).2 fun e=>h.apart g hg e
 rcases ha.own with e | ⟨g',e,hg'⟩
 ·exact h.apart g hg (e ▸ hu)
 rw [hu] at e; injection e with e;have:=(h.objs.lt g hg).2;omega
end
theorem OC:∃ i,prog.info? 46=some i∧i.zero=some (.agg #[.string ⟨#[]⟩,.string ⟨#[]⟩,.string ⟨#[]⟩,.string ⟨#[]⟩,.string ⟨#[]⟩,.string ⟨#[]⟩])∧i.size=6∧i.bytes=96 :=
 info_parts (P:=prog) (e:=46) (z:=.agg #[.string ⟨#[]⟩,.string ⟨#[]⟩,.string ⟨#[]⟩,.string ⟨#[]⟩,.string ⟨#[]⟩,.string ⟨#[]⟩]) (size:=6) (bytes:=96) (by kernel_rfl)
theorem Ja (u:af):(zeroValue 25).run prog u=.ok (.slice none 0 0) u:=by kernel_rfl
theorem C9 {w:af} {bp np:Nat} {Mp:K3→Option Value} {E:List (K3 × Tp)} (h:G.Grp qi prog 223 46 6 Tp.row w bp np Mp E) (k:K3):w.ownsRow (bp + 1) 46 6 ((Mp k).getD (.slice none 0 0)) (G.lookL E k).length (G.flatG Tp.row (G.lookL E k)):=by
 rcases h.row k with ⟨e,e2⟩ | ⟨v,e,ho⟩
 ·rw [e,e2]; exact World.ownsRow_nil _ _ _ _
 rw [e]; exact ho
theorem news_of_block {w:af} {g:Nat} {cs:Array Value} {T:TypeId} (h:w.heap[g]?=some (.cells cs T (0,0))):∀ j u,cs.toList[j]?=some u→w.cell? ((⟨g,0,none⟩:Addr).add j)=some u:=by
 intro j u hu;have e:(⟨g,0,none⟩:Addr).add j=⟨g,j,none⟩:=by
  unfold Addr.add;by_cases hj:j=0
  ·subst hj; simp
  simp [hj]
 rw [e];simp [World.cell?,h];simpa using hu
theorem tZ.block {w w':af} {g:Nat} {t:Tp} (h:tZ w g t) (e:w'.heap[g]?=w.heap[g]?) (hl:g < w'.heap.size):tZ w' g t:=by
 obtain ⟨h0,h1,h2,h3,h4,h5,_⟩:=h;have hc:∀ o,w'.cell? ⟨g,o,none⟩=w.cell? ⟨g,o,none⟩:=fun o=>Ul (w:=w) (a:=⟨g,o,none⟩) e;exact ⟨(hc _).trans h0,(hc _).trans h1,(hc _).trans h2,(hc _).trans h3,(hc _).trans h4,(hc _).trans h5,hl⟩
theorem gJ {w:af} {g:Nat} {cs:Array Value} {T:TypeId} (h:w.heap[g]?=some (.cells cs T (0,0))) (o:Nat):w.frozen? ⟨g,o,none⟩=false:=by
 simp [World.frozen?,h]
theorem tZ.aside {w w':af} {g base n:Nat} {t:Tp} {v v':Value} {xs:List Value} (h:tZ w g t) (hc:∃ cur,w.heap[g]?=some (.cells cur 46 (0,0))) (ho:w.ownsRow base 27 2 v n xs) (ha:Aside w v w' v'):tZ w' g t∧∃ cur,w'.heap[g]?=some (.cells cur 46 (0,0)):=by
 obtain ⟨cur,e⟩:=hc;have hl:=h.2.2.2.2.2.2;have hb:=ha.block g hl fun hg=>absurd (dI ho hg e) (by decide);exact ⟨h.block hb (TP hl ha.size),cur,hb.trans e⟩
theorem OD (D br bp:Nat) (tab:Value) (n1:Int) (E:List (K3 × Tp)) (xo xu:List Al) (np:Nat) (Mp:K3→Option Value) (vo vu:Value) (t:Tp) (w:af) (hd:DatT w D br bp tab n1 E xo xu np Mp vo vu) (hnp:np≤1000) (hE:E.length≤1000) (hxo:xo.length≤500) (hxu:xu.length≤500) (ht:t.fits) :
  Calls prog 101 #[.pointer (some ⟨D,0,none⟩),.agg #[.string t.a,.string t.b,.string t.r,.string t.c,.string t.d,.string t.s]] w fun e w'=>e=.returned (.tuple #[])∧(∃ Mp' XC XE,DatT w' D br bp tab n1 (E ++ [(LC t,t)]) (fP xo t) (cu xu t) (np + 1) Mp' XC XE)∧Below bp w w':=by
 obtain ⟨iT,h0,h1,h2,h3⟩:=OC;have HIT:=aD (And.intro h0 (And.intro h1 (And.intro h2 h3)));obtain ⟨W,hW⟩:∃ W,W=(w.alloc (.cells #[.string t.a,.string t.b,.string t.r,.string t.c,.string t.d,.string t.s] 46)).alloc (.cells #[.string t.a,.string t.b,.string t.r] 223):=⟨_,rfl⟩;have UG:Hid (ag w W):=by show Below _ _ _; rw [hW]; exact ((TT _ _).alloc (TS _) _).alloc (by simp) _
 have hWs:W.heap.size=w.heap.size + 2:=by rw [hW]; simp
 have HT6:Hid (tZ W w.heap.size t):=by show tZ _ _ _; rw [hW]; refine ⟨?_,?_,?_,?_,?_,?_,?_⟩ <;> first | (simp; done) | (simp; omega)
 have HK3:Hid (W.cell? ⟨w.heap.size + 1,0,none⟩=some (.string t.a)∧W.cell? ⟨w.heap.size + 1,1,none⟩=some (.string t.b)∧W.cell? ⟨w.heap.size + 1,2,none⟩=some (.string t.r)):=by show _∧_; rw [hW]; refine ⟨?_,?_,?_⟩ <;> simp
 have HD:=aD (hd.below UG.out);have hDl:D < w.heap.size:=hd.lt;have HFB:Hid (G.FreeB Mp w.heap.size):=hd.told.fresh (TS _);have U3:Hid (W.heap[w.heap.size]?=some (.cells #[.string t.a,.string t.b,.string t.r,.string t.c,.string t.d,.string t.s] 46 (0,0))):=by show _=_; rw [hW,Below.heap_alloc _ _ _ (by simp)]; exact heap_alloc_new w _
 have hbD:bp < D:=hd.gt;have HLL:Hid ((G.lookL E (LC t)).length≤1000):=TZ (List.length_filterMap_le _ _) hE;obtain ⟨row0,hr0⟩:∃ r,r=(Mp (LC t)).getD (.slice none 0 0):=⟨_,rfl⟩;obtain ⟨nn,hnn⟩:∃ n,n=(G.lookL E (LC t)).length:=⟨_,rfl⟩;obtain ⟨xs,hxs⟩:∃ x,x=G.flatG Tp.row (G.lookL E (LC t)):=⟨_,rfl⟩;have Vy:=aD hr0;have Wx:=aD hnn;have Wj:=aD hxs;have hnl:nn≤1000:=by rw [hnn]; exact HLL.out
 have Vn:Hid (∀ W0:World,ag W W0→W0.ownsRow (bp + 1) 46 6 row0 nn xs):=fun W0 hb=>by rw [hr0,hnn,hxs]; exact C9 (HD.out.told.below hb) _
 have HKEY:Hid (∃ kl,keyOf prog 223 (qi (LC t))=some kl):=DY _ ht.1 ht.2.1 ht.2.2.1;clear h0 h1 h2 h3 hr0 hnn hxs hd hE;obtain ⟨C2,hC2⟩:∃ C:Nat→Value,C=fun n=>(Value.pointer (some ⟨D,0,none⟩)::.pointer (some ⟨D,0,none⟩)::.pointer (some ⟨D,3,none⟩)::.map (some bp)::.agg #[.string t.a,.string t.b,.string t.r]::.agg #[.string t.a,.string t.b,.string t.r,.string t.c,.string t.d,.string t.s]::[]).getD n undef:=⟨_,rfl⟩;have Va:Hid (C2 0=Value.pointer (some ⟨D,0,none⟩)∧C2 1=Value.pointer (some ⟨D,0,none⟩)∧C2 2=Value.pointer (some ⟨D,3,none⟩)∧C2 3=Value.map (some bp)∧C2 4=Value.agg #[.string t.a,.string t.b,.string t.r]∧C2 5=Value.agg #[.string t.a,.string t.b,.string t.r,.string t.c,.string t.d,.string t.s]):=by show _∧_; rw [hC2]; exact ⟨rfl,rfl,rfl,rfl,rfl,rfl⟩
 clear hC2;go_enter func101,ntmps101;go_wp2_with fail;rw [← hW];clear hW;refine pM 11 (fun _=>undef) (fun fq=>{ tmps:=List.toArray (Value.pointer (some ⟨D,0,none⟩)::.agg #[.string t.a,.string t.b,.string t.r,.string t.c,.string t.d,.string t.s]::undef::.pointer (some ⟨w.heap.size,0,none⟩)::.pointer (some ⟨w.heap.size + 1,0,none⟩)::.pointer (some ⟨w.heap.size,0,none⟩)::.agg #[.string t.a,.string t.b]::.pointer (some ⟨w.heap.size,2,none⟩)::.string t.r::.agg #[.string t.a,.string t.b,.string t.r]::(fq 0)::(fq 1)::(fq 2)::(fq 3)::(fq 4)::(fq 8)::(fq 5)::(fq 6)::(fq 7)::(fq 9)::(fq 10)::undef::undef::undef::undef::undef::undef::undef::undef::undef::undef::undef::undef::undef::undef::undef::undef::undef::undef::undef::undef::undef::undef::undef::undef::undef::undef::undef::undef::undef::undef::undef::undef::undef::[]),defers:=[] }) (G.EI C2 #[.string t.a,.string t.b,.string t.r,.string t.c,.string t.d,.string t.s] 46 6 W bp row0 nn xs (G.Back qi prog 223 166 bp np Mp (LC t))) (by kernel_rfl) rfl (by kernel_rfl) (by kernel_rfl) rfl (G.ei_start W) ?stepA ?finA;case stepA =>
  rintro i hi o ho l fq w' Vl hI hpre;have HI:=az hI;have UD:Hid (∀ e ∈ o.after,Region.binds .any e=true→l e.on=true):=hpre;clear hI hpre;have hc:=M9 (i:=i) (by omega);clear hi
  repeat' rcases hc with rfl | hc
  ·cases ho;have hA:=HI.out.early (i:=0) (by omega) Vl;clear UD HI;refine aa rfl fun K HK=>?_;go_simp;exact HK.out _ _ ⟨Value.pointer (some ⟨D,0,none⟩),by simp [upd, *],hA.put (by omega) Va.out.1.symm⟩
  ·cases ho;have hA:=HI.out.early (i:=1) (by omega) Vl;have e0:=(hA.val 0 (by omega) (UD.out ⟨0,.data⟩ (by simp) rfl)).trans Va.out.1;clear UD HI;refine aa rfl fun K HK=>?_;simp only [e0];go_simp;exact HK.out _ _ ⟨Value.pointer (some ⟨D,0,none⟩),by simp [upd, *],hA.put (by omega) Va.out.2.1.symm⟩
  ·cases ho;have hA:=HI.out.early (i:=2) (by omega) Vl;have e1:=(hA.val 1 (by omega) (UD.out ⟨1,.data⟩ (by simp) rfl)).trans Va.out.2.1;clear UD HI;refine aa rfl fun K HK=>?_;simp only [e1];go_simp;exact HK.out _ _ ⟨Value.pointer (some ⟨D,3,none⟩),by simp [upd, *],hA.put (by omega) Va.out.2.2.1.symm⟩
  ·cases ho;have hA:=HI.out.early (i:=3) (by omega) Vl;have e2:=(hA.val 2 (by omega) (UD.out ⟨2,.data⟩ (by simp) rfl)).trans Va.out.2.2.1;have hb':=hA.bel;have d3:=(hb'.cell (p:=⟨D,3,none⟩) (by show D < _; omega)).trans HD.out.c3;clear UD HI;refine aa rfl fun K HK=>?_;simp only [e2];go_simp;exact HK.out _ _ ⟨Value.map (some bp),by simp [upd, *],hA.put (by omega) Va.out.2.2.2.1.symm⟩
  ·cases ho;have hA:=HI.out.early (i:=4) (by omega) Vl;have hb':=hA.bel;have k0:=(hb'.cell (p:=⟨w.heap.size + 1,0,none⟩) (by show w.heap.size + 1 < _; omega)).trans HK3.out.1;have k1:=(hb'.cell (p:=⟨w.heap.size + 1,1,none⟩) (by show w.heap.size + 1 < _; omega)).trans HK3.out.2.1;have k2:=(hb'.cell (p:=⟨w.heap.size + 1,2,none⟩) (by show w.heap.size + 1 < _; omega)).trans HK3.out.2.2;clear UD HI;refine aa rfl fun K HK=>?_;go_simp;exact HK.out _ _ ⟨Value.agg #[.string t.a,.string t.b,.string t.r],by simp [upd, *],hA.put (by omega) Va.out.2.2.2.2.1.symm⟩
  ·cases ho;have hA:=HI.out.early (i:=5) (by omega) Vl;have hb':=hA.bel;obtain ⟨t0,t1,t2,t3,t4,t5,tl⟩:=HT6.out.below hb';clear UD HI;refine aa rfl fun K HK=>?_;go_simp;exact HK.out _ _ ⟨Value.agg #[.string t.a,.string t.b,.string t.r,.string t.c,.string t.d,.string t.s],by simp [upd, *],hA.put (by omega) Va.out.2.2.2.2.2.symm⟩
  ·cases ho;have hA:=HI.out.early (i:=6) (by omega) Vl;have e5:=(hA.val 5 (by omega) (UD.out ⟨5,.data⟩ (by simp) rfl)).trans Va.out.2.2.2.2.2;clear UD HI;refine aa rfl fun K HK=>?_;simp only [e5];go_simp;exact HK.out _ _ ⟨_,by simp [upd,e5],hA.lay⟩
  ·cases ho;have hA:=HI.out.early (i:=7) (by omega) Vl;have e3:=(hA.val 3 (by omega) (UD.out ⟨3,.data⟩ (by simp) rfl)).trans Va.out.2.2.2.1;have e4:=(hA.val 4 (by omega) (UD.out ⟨4,.data⟩ (by simp) rfl)).trans Va.out.2.2.2.2.1;have hall:∀ k,k≤6→l k=true:=fun k hk=>by
    have hc:=Td (i:=k) (by omega)
    repeat' rcases hc with rfl | hc
    all_goals exact UD.out ⟨_,.phase⟩ (by simp) rfl
   have hD':=HD.out.below hA.bel;obtain ⟨kl,hkl⟩:=HKEY.out;obtain ⟨st,w1,hrun,hg,hback⟩:=hD'.told.map.entry NK NJ underlying166 Ja (by unfold maxLen; omega) hkl;rw [← Vy.out] at hrun;have hrun':(Instr.mapEntry 166 (.map (some bp)) (Value.agg #[.string t.a,.string t.b,.string t.r])).run prog w'=.ok (.tuple #[row0,goInt st]) w1:=hrun;clear UD HI;refine aa rfl fun K HK=>?_;simp only [e3,e4];go_simp;exact HK.out _ _ ⟨_,by simp [upd,e3,e4,goInt],hA.took hall hg hback⟩
  ·cases ho;have h7:=UD.out ⟨7,.data⟩ (by simp) rfl;have hB:=HI.out.midB h7 (i:=8) (by omega) Vl;obtain ⟨st,e7⟩:=HI.out.seven h7;clear UD HI;refine aa rfl fun K HK=>?_;simp only [e7];go_simp;exact HK.out _ _ ⟨_,by simp [upd,e7,goInt],hB.first⟩
  ·cases ho;have h7:=UD.out ⟨7,.chain⟩ (by simp) rfl;have h8:=UD.out ⟨8,.data⟩ (by simp) rfl;have hB:=HI.out.midB h7 (i:=9) (by omega) Vl;obtain ⟨W0,st,g,hm1,hm2,XA,YD,WV,e7,hm7,Z9,hm9⟩:=hB.mid;have e8:=Z9 h8;have hown:=(Vn.out W0 hm1).kept WV (by
    rcases h:row0.ownBlock with _ | g'
    ·exact .inl rfl
    right; intro e; injection e with e; have:=((Vn.out W0 hm1).lt g' h).1; omega)
   have hnew:w'.heap[g]?=some (.cells #[.string t.a,.string t.b,.string t.r,.string t.c,.string t.d,.string t.s] 46 (0,0)):=by
    have hgl:g < W0.heap.size:=by
     rcases Nat.lt_or_ge g W0.heap.size with h | h
     ·exact h
     rw [Array.getElem?_eq_none h] at YD; cases YD
    rw [WV.block g hgl (fun e=>by injection e with e; omega)]; exact YD
   clear UD HI;refine kG w' rfl rfl _ _ 25 rfl (bp + 1) 46 iT _ 6 96 underlying25 HIT.out.1 HIT.out.2.1 HIT.out.2.2.1 HIT.out.2.2.2 rfl (by decide) row0 nn xs (by simp [Act.eval,e8]) hown ⟨g,0,none⟩ 1 1 [Value.string t.a,.string t.b,.string t.r,.string t.c,.string t.d,.string t.s] (by simp [Act.eval,hm2]) rfl (fun j u hu=>news_of_block hnew j u hu) (by simp [Value.oneCell']) (by unfold maxLen; omega) (by omega) (by have:=WV.size; have:=hm1.size; omega) ?_;intro v' w2 hown2 U1 Zl;exact ⟨v',by simp [upd,Act.put],hB.app h8 U1 hown2 Zl⟩
  cases ho;have h7:=UD.out ⟨7,.data⟩ (by simp) rfl;obtain ⟨st,e7⟩:=HI.out.seven h7;have HI2:=HI.out.second h7 e7;clear UD HI;refine aa rfl fun K HK=>?_;simp only [e7];go_simp;exact HK.out _ _ ⟨_,by simp [upd,e7,goInt],HI2⟩
 case finA =>
  rintro o ho l fq w' hall hI;obtain rfl:=Option.some.inj ho;have hC:=hI.last hall;obtain ⟨W0,w1,st,hm1,hm2,XA,YD,WV,hm6,-,Z9⟩:=hC.mid;have e10:=Z9 (hall 10 (by omega));have e3:=(hC.val 3 (by omega)).trans Va.out.2.2.2.1;obtain ⟨w3,hrun,hM3,hg3⟩:=hm6 w' (fq 9) (XA.block bp (by have:=hm2.size; have:=hm1.size; omega) (fun e=>by have:=(Vn.out W0 hm1).lt bp e.symm; omega));have hst:=(HD.out.told.below hm1).step (y:=LC t) (s:=t) hm2 (by rw [← Wx.out,← Wj.out]; exact YD) (by rw [← Vy.out]; exact XA) (by rw [← Vy.out]; exact WV) hg3 hM3;have HD3:=aD ((HD.out.below hm1).tell hst.1 hst.2);have HB3:Hid (Below bp w w3):=by
   have b0:Below bp w W0:=(UG.out.trans (hm1.mono UG.out.size)).mono (by omega);have b1:Below bp w w1:=b0.grown hm2 (by have:=hm1.size; omega) (fun i hi=>by injection hi with hi; omega);have b2:Below bp w w':=b1.grown XA (by have:=hm2.size; have:=hm1.size; omega) (fun i hi=>by have:=((Vn.out W0 hm1).lt i hi).1; omega);exact b2.grown hg3 (by have:=XA.size; have:=hm2.size; have:=hm1.size; omega) (fun i hi=>by injection hi with hi; omega)
  have hz3:W.heap.size≤w3.heap.size:=by have:=hg3.size; have:=XA.size; have:=hm2.size; have:=hm1.size; omega
  have hbx3:w3.heap[w.heap.size]?=some (.cells #[.string t.a,.string t.b,.string t.r,.string t.c,.string t.d,.string t.s] 46 (0,0)):=by
   rw [hst.2.block w.heap.size (by have:=hm1.size; omega) (by omega) HFB.out,hm1.block w.heap.size (by omega)]; exact U3.out
  have HT3:Hid (tZ w3 w.heap.size t∧∃ cur,w3.heap[w.heap.size]?=some (.cells cur 46 (0,0))):=⟨HT6.out.block (by rw [hbx3,U3.out]) (by omega),_,hbx3⟩;have VS:(Instr.entryStore 166 (.map (some bp)) (.int .i64 st) (fq 9)).run prog w'=.ok () w3:=hrun;obtain ⟨Mn,hMn⟩:∃ M,M=kZ Mp (LC t) (some (fq 9)):=⟨_,rfl⟩;rw [← hMn] at HD3;refine aa rfl fun K HK=>?_;simp only [e3,e10];go_simp;refine HK.out _ _ ?_;clear hst hrun VS hM3 hg3 hm1 hm2 XA YD WV hm6 Z9 hC hI hall ho HK K e3 e10 HD HT6 HK3 UG Vn U3 Va HKEY HFB hMn Vy Wx Wj hbx3;obtain ⟨y0,hy0⟩:∃ y,y=fq 0:=⟨_,rfl⟩;rw [← hy0];obtain ⟨y1,hy1⟩:∃ y,y=fq 1:=⟨_,rfl⟩;rw [← hy1];obtain ⟨y2,hy2⟩:∃ y,y=fq 2:=⟨_,rfl⟩;rw [← hy2];obtain ⟨y4,hy4⟩:∃ y,y=fq 4:=⟨_,rfl⟩;rw [← hy4];obtain ⟨y8,hy8⟩:∃ y,y=fq 8:=⟨_,rfl⟩;rw [← hy8];obtain ⟨y5,hy5⟩:∃ y,y=fq 5:=⟨_,rfl⟩;rw [← hy5];obtain ⟨y6,hy6⟩:∃ y,y=fq 6:=⟨_,rfl⟩;rw [← hy6];obtain ⟨y7,hy7⟩:∃ y,y=fq 7:=⟨_,rfl⟩;rw [← hy7];obtain ⟨y9,hy9⟩:∃ y,y=fq 9:=⟨_,rfl⟩;rw [← hy9];clear hy0 hy1 hy2 hy4 hy8 hy5 hy6 hy7 hy9 fq l hz3;go_wp2_with fail;have hbz:bp + 1≤w3.heap.size:=by have:=HD3.out.lt; have:=HD3.out.gt; omega
  have hx1:(aZ xo ⟨t.a,t.b⟩).length≤501:=by have:=ol xo ⟨t.a,t.b⟩; omega
  obtain ⟨CB,hCB⟩:∃ C:Nat→Value,C=fun n=>(Value.pointer (some ⟨D,0,none⟩)::.pointer (some ⟨D,0,none⟩)::.pointer (some ⟨D,0,none⟩)::.pointer (some ⟨D,4,none⟩)::vo::.pointer (some ⟨w.heap.size,0,none⟩)::.agg #[.string t.a,.string t.b]::undef::.pointer (some ⟨D,0,none⟩)::.pointer (some ⟨D,4,none⟩)::[]).getD n undef:=⟨_,rfl⟩;have WW:Hid (CB 0=Value.pointer (some ⟨D,0,none⟩)∧CB 1=Value.pointer (some ⟨D,0,none⟩)∧CB 2=Value.pointer (some ⟨D,0,none⟩)∧CB 3=Value.pointer (some ⟨D,4,none⟩)∧CB 4=vo∧CB 5=Value.pointer (some ⟨w.heap.size,0,none⟩)∧CB 6=Value.agg #[.string t.a,.string t.b]∧CB 7=undef∧CB 8=Value.pointer (some ⟨D,0,none⟩)∧CB 9=Value.pointer (some ⟨D,4,none⟩)):=by show _∧_; rw [hCB]; exact ⟨rfl,rfl,rfl,rfl,rfl,rfl,rfl,rfl,rfl,rfl⟩
  clear hCB;refine jT 10 (fun _=>undef) (fun fr=>{ tmps:=List.toArray (Value.pointer (some ⟨D,0,none⟩)::.agg #[.string t.a,.string t.b,.string t.r,.string t.c,.string t.d,.string t.s]::undef::.pointer (some ⟨w.heap.size,0,none⟩)::.pointer (some ⟨w.heap.size + 1,0,none⟩)::.pointer (some ⟨w.heap.size,0,none⟩)::.agg #[.string t.a,.string t.b]::.pointer (some ⟨w.heap.size,2,none⟩)::.string t.r::.agg #[.string t.a,.string t.b,.string t.r]::y0::y1::y2::.map (some bp)::y4::y8::y5::y6::y7::y9::.int .i64 st::(fr 0)::(fr 1)::(fr 2)::(fr 3)::(fr 4)::(fr 5)::(fr 6)::(fr 7)::(fr 8)::(fr 9)::undef::undef::undef::undef::undef::undef::undef::undef::undef::undef::undef::undef::undef::undef::undef::undef::undef::undef::undef::undef::undef::undef::undef::[]),defers:=[] }) (G.WI CB w3 (fun v' w'=>∃ w1,ag w3 w1∧w'.ownsRow (bp + 1) 27 2 v' (aZ xo ⟨t.a,t.b⟩).length (pairs (aZ xo ⟨t.a,t.b⟩))∧Aside w1 vo w' v'∧∀ B',(∀ g,vo.ownBlock=some g→B'≤g)→B'≤w1.heap.size→Below B' w1 w')) (by kernel_rfl) rfl (by kernel_rfl) (fun o ho l f w' hI hp=>?clB) rfl (G.wi_start w3) ?xK ?finB;case clB =>
   cases ho;intro k hk;have h9:=hp ⟨9,.data⟩ (by simp) rfl;have hc:=uf (i:=k) (by omega)
   repeat' rcases hc with rfl | hc
   all_goals first | exact hI.nin h9 | exact h9 | exact hp ⟨_,.phase⟩ (by simp) rfl
  case xK =>
   rintro i hi o ho l fr w' Vl hI hpre;have HI:Hid (G.WI CB w3 (fun v' w'=>∃ w1,ag w3 w1∧w'.ownsRow (bp + 1) 27 2 v' (aZ xo ⟨t.a,t.b⟩).length (pairs (aZ xo ⟨t.a,t.b⟩))∧Aside w1 vo w' v'∧∀ B',(∀ g,vo.ownBlock=some g→B'≤g)→B'≤w1.heap.size→Below B' w1 w') l fr w'):=hI;have UD:Hid (∀ e ∈ o.after,Region.binds .any e=true→l e.on=true):=hpre;clear hI hpre;have hc:=uf (i:=i) (by omega);clear hi
   repeat' rcases hc with rfl | hc
   ·cases ho;have hW:=HI.out;clear UD HI;refine aa rfl fun K HK=>?_;go_simp;exact HK.out _ _ ⟨Value.pointer (some ⟨D,0,none⟩),by simp [upd, *],hW.put (by omega) (by omega) WW.out.1.symm⟩
   ·cases ho;have hW:=HI.out;clear UD HI;refine aa rfl fun K HK=>?_;go_simp;exact HK.out _ _ ⟨Value.pointer (some ⟨D,0,none⟩),by simp [upd, *],hW.put (by omega) (by omega) WW.out.2.1.symm⟩
   ·cases ho;have hW:=HI.out;have e1:=(HI.out.val 1 (by omega) (by omega) (UD.out ⟨1,.data⟩ (by simp) rfl)).trans WW.out.2.1;clear UD HI;refine aa rfl fun K HK=>?_;simp only [e1];go_simp;exact HK.out _ _ ⟨Value.pointer (some ⟨D,0,none⟩),by simp [upd, *],hW.put (by omega) (by omega) WW.out.2.2.1.symm⟩
   ·cases ho;have hW:=HI.out;have e2:=(HI.out.val 2 (by omega) (by omega) (UD.out ⟨2,.data⟩ (by simp) rfl)).trans WW.out.2.2.1;clear UD HI;refine aa rfl fun K HK=>?_;simp only [e2];go_simp;exact HK.out _ _ ⟨Value.pointer (some ⟨D,4,none⟩),by simp [upd, *],hW.put (by omega) (by omega) WW.out.2.2.2.1.symm⟩
   ·cases ho;have hW:=HI.out;have e3:=(HI.out.val 3 (by omega) (by omega) (UD.out ⟨3,.data⟩ (by simp) rfl)).trans WW.out.2.2.2.1;have hb':=HI.out.early (.inl Vl);have d4:=(hb'.cell (p:=⟨D,4,none⟩) HD3.out.lt).trans HD3.out.c4;clear UD HI;refine aa rfl fun K HK=>?_;simp only [e3];go_simp;exact HK.out _ _ ⟨vo,by simp [upd, *],hW.put (by omega) (by omega) WW.out.2.2.2.2.1.symm⟩
   ·cases ho;have hW:=HI.out;clear UD HI;refine aa rfl fun K HK=>?_;go_simp;exact HK.out _ _ ⟨Value.pointer (some ⟨w.heap.size,0,none⟩),by simp [upd, *],hW.put (by omega) (by omega) WW.out.2.2.2.2.2.1.symm⟩
   ·cases ho;have hW:=HI.out;have e5:=(HI.out.val 5 (by omega) (by omega) (UD.out ⟨5,.data⟩ (by simp) rfl)).trans WW.out.2.2.2.2.2.1;have hb':=HI.out.early (.inr Vl);obtain ⟨t0,t1,t2,t3,t4,t5,tl⟩:=HT3.out.1.below hb';clear UD HI;refine aa rfl fun K HK=>?_;simp only [e5];go_simp;exact HK.out _ _ ⟨Value.agg #[.string t.a,.string t.b],by simp [upd, *],hW.put (by omega) (by omega) WW.out.2.2.2.2.2.2.1.symm⟩
   ·cases ho;have hW:=HI.out;have e4:=(HI.out.val 4 (by omega) (by omega) (UD.out ⟨4,.data⟩ (by simp) rfl)).trans WW.out.2.2.2.2.1;have e6:=(HI.out.val 6 (by omega) (by omega) (UD.out ⟨6,.data⟩ (by simp) rfl)).trans WW.out.2.2.2.2.2.2.1;have h4:=UD.out ⟨4,.data⟩ (by simp) rfl;have h6:=UD.out ⟨6,.data⟩ (by simp) rfl;have hb':=HI.out.before Vl;have hown:=cO HD3.out.objs hb';clear UD HI;refine aa rfl fun K HK=>?_;simp only [e4,e6];go_simp;refine (mg (bp + 1) vo xo ⟨t.a,t.b⟩ w' (by omega) (TZ hbz hb'.size) hown).mono ?_;rintro e w2 ⟨v',rfl,hown2,has,hbl⟩;exact HK.out _ _ ⟨v',by simp [upd,e4,e6],hW.call h4 h6 ⟨w',hb',hown2,has,hbl⟩⟩
   ·cases ho;have hW:=HI.out;have e0:=(HI.out.val 0 (by omega) (by omega) (UD.out ⟨0,.data⟩ (by simp) rfl)).trans WW.out.1;clear UD HI;refine aa rfl fun K HK=>?_;simp only [e0];go_simp;exact HK.out _ _ ⟨Value.pointer (some ⟨D,0,none⟩),by simp [upd, *],hW.put (by omega) (by omega) WW.out.2.2.2.2.2.2.2.2.1.symm⟩
   cases ho;have hW:=HI.out;have e8:=(HI.out.val 8 (by omega) (by omega) (UD.out ⟨8,.data⟩ (by simp) rfl)).trans WW.out.2.2.2.2.2.2.2.2.1;have h8:=UD.out ⟨8,.data⟩ (by simp) rfl;clear UD HI;refine aa rfl fun K HK=>?_;simp only [e8];go_simp;exact HK.out _ _ ⟨Value.pointer (some ⟨D,4,none⟩),by simp [upd, *],hW.put (by omega) (fun _=>h8) WW.out.2.2.2.2.2.2.2.2.2.symm⟩
  case finB =>
   rintro o ho l fr w' hall hI;obtain rfl:=Option.some.inj ho;obtain ⟨hval,w1,hb1,hown,has,hbl⟩:=hI.last hall;have e9:=(hval 9 (by omega) (by omega)).trans WW.out.2.2.2.2.2.2.2.2.2;have VR:=HD3.out.below hb1;have hDn:=VR.newO hown has;have Yq:=(HT3.out.1.below hb1).aside (by obtain ⟨cur,e⟩:=HT3.out.2; exact ⟨cur,(hb1.block _ HT3.out.1.2.2.2.2.2.2).trans e⟩) VR.objs has;obtain ⟨cur,hkd⟩:=VR.kind;have XD:vo.ownBlock ≠ some D:=fun e=>absurd (dI VR.objs e hkd) (by decide);have XF:=(has.block D VR.lt XD).trans hkd;have fz:=fun o=>gJ XF o;have d4:=(Ul (w:=w1) (a:=⟨D,4,none⟩) (has.block D VR.lt XD)).trans VR.c4;obtain ⟨adn,cpn,e7,-⟩:=kC hown;rw [e7] at hown has hDn;obtain ⟨w4,hwn⟩:∃ x,x=w'.setCell ⟨D,4,none⟩ (Value.slice adn (aZ xo ⟨t.a,t.b⟩).length cpn):=⟨_,rfl⟩;rw [← hwn] at hDn;have YE:=aD hDn;have Zm:Hid (tZ w4 w.heap.size t∧∃ cur,w4.heap[w.heap.size]?=some (.cells cur 46 (0,0))):=by
    have hh:w4.heap[w.heap.size]?=w'.heap[w.heap.size]?:=by rw [hwn]; exact heap_setCell_other w' ⟨D,4,none⟩ w.heap.size _ (by show w.heap.size ≠ D; omega)
    obtain ⟨cr,ecr⟩:=Yq.2;exact ⟨Yq.1.block hh (by rw [hwn]; simpa using Yq.1.2.2.2.2.2.2),cr,hh.trans ecr⟩
   have HB3n:Hid (Below bp w w4):=by
    have b1:Below bp w w1:=HB3.out.trans (hb1.mono (by omega));have b2:Below bp w w':=b1.trans (hbl bp (fun g hg=>by have:=(VR.objs.lt g hg).1; omega) (by have:=hb1.size; omega));show Below _ _ _; rw [hwn]; exact b2.setCell (by show bp≤D; omega) _
   have hsn:w3.heap.size≤w4.heap.size:=by rw [hwn]; have:=hb1.size; have:=has.size; simp; omega
   have YF:bp + 1≤w4.heap.size:=by omega
   clear hval;refine aa rfl fun K HK=>?_;simp only [e9,e7];go_simp;rw [← hwn];refine HK.out _ _ ?_;obtain ⟨Zn,hvo1⟩:∃ v,v=Value.slice adn (aZ xo ⟨t.a,t.b⟩).length cpn:=⟨_,rfl⟩;rw [← hvo1] at YE ⊢;clear hb1 hown has hbl VR hDn Yq hkd XF XD fz d4 HK K hI hall ho hwn e9 e7 hvo1 hsn hbz HD3 HT3 HB3 WW;obtain ⟨zB0,hz0⟩:∃ y,y=fr 0:=⟨_,rfl⟩;rw [← hz0];obtain ⟨zB1,hz1⟩:∃ y,y=fr 1:=⟨_,rfl⟩;rw [← hz1];obtain ⟨zB2,hz2⟩:∃ y,y=fr 2:=⟨_,rfl⟩;rw [← hz2];obtain ⟨zB3,hz3⟩:∃ y,y=fr 3:=⟨_,rfl⟩;rw [← hz3];obtain ⟨zB4,Xj⟩:∃ y,y=fr 4:=⟨_,rfl⟩;rw [← Xj];obtain ⟨zB5,hz5⟩:∃ y,y=fr 5:=⟨_,rfl⟩;rw [← hz5];obtain ⟨zB6,hz6⟩:∃ y,y=fr 6:=⟨_,rfl⟩;rw [← hz6];obtain ⟨zB8,hz8⟩:∃ y,y=fr 8:=⟨_,rfl⟩;rw [← hz8];clear hz0 hz1 hz2 hz3 Xj hz5 hz6 hz8 fr l
   skip
   have hbz:=YF;clear YF;go_wp2_with fail;obtain ⟨CC,hCC⟩:∃ C:Nat→Value,C=fun n=>(Value.pointer (some ⟨D,0,none⟩)::.pointer (some ⟨D,0,none⟩)::.pointer (some ⟨D,0,none⟩)::.pointer (some ⟨D,4,none⟩)::Zn::.pointer (some ⟨w.heap.size,3,none⟩)::.agg #[.string t.c,.string t.d]::undef::.pointer (some ⟨D,0,none⟩)::.pointer (some ⟨D,4,none⟩)::[]).getD n undef:=⟨_,rfl⟩;have VF:Hid (CC 0=Value.pointer (some ⟨D,0,none⟩)∧CC 1=Value.pointer (some ⟨D,0,none⟩)∧CC 2=Value.pointer (some ⟨D,0,none⟩)∧CC 3=Value.pointer (some ⟨D,4,none⟩)∧CC 4=Zn∧CC 5=Value.pointer (some ⟨w.heap.size,3,none⟩)∧CC 6=Value.agg #[.string t.c,.string t.d]∧CC 7=undef∧CC 8=Value.pointer (some ⟨D,0,none⟩)∧CC 9=Value.pointer (some ⟨D,4,none⟩)):=by show _∧_; rw [hCC]; exact ⟨rfl,rfl,rfl,rfl,rfl,rfl,rfl,rfl,rfl,rfl⟩
   clear hCC;refine jT 10 (fun _=>undef) (fun fs=>{ tmps:=List.toArray (Value.pointer (some ⟨D,0,none⟩)::.agg #[.string t.a,.string t.b,.string t.r,.string t.c,.string t.d,.string t.s]::undef::.pointer (some ⟨w.heap.size,0,none⟩)::.pointer (some ⟨w.heap.size + 1,0,none⟩)::.pointer (some ⟨w.heap.size,0,none⟩)::.agg #[.string t.a,.string t.b]::.pointer (some ⟨w.heap.size,2,none⟩)::.string t.r::.agg #[.string t.a,.string t.b,.string t.r]::y0::y1::y2::.map (some bp)::y4::y8::y5::y6::y7::y9::.int .i64 st::zB0::zB1::zB2::zB3::zB4::zB5::zB6::Zn::zB8::.pointer (some ⟨D,4,none⟩)::(fs 0)::(fs 1)::(fs 2)::(fs 3)::(fs 4)::(fs 5)::(fs 6)::(fs 7)::(fs 8)::(fs 9)::undef::undef::undef::undef::undef::undef::undef::undef::undef::undef::undef::undef::undef::[]),defers:=[] }) (G.WI CC w4 (fun v' w'=>∃ w1,ag w4 w1∧w'.ownsRow (bp + 1) 27 2 v' (aZ (aZ xo ⟨t.a,t.b⟩) ⟨t.c,t.d⟩).length (pairs (aZ (aZ xo ⟨t.a,t.b⟩) ⟨t.c,t.d⟩))∧Aside w1 Zn w' v'∧∀ B',(∀ g,Zn.ownBlock=some g→B'≤g)→B'≤w1.heap.size→Below B' w1 w')) (by kernel_rfl) rfl (by kernel_rfl) (fun o ho l f w' hI hp=>?clC) rfl (G.wi_start w4) ?stepC ?finC;case clC =>
    cases ho;intro k hk;have h9:=hp ⟨9,.data⟩ (by simp) rfl;have hc:=uf (i:=k) (by omega)
    repeat' rcases hc with rfl | hc
    all_goals first | exact hI.nin h9 | exact h9 | exact hp ⟨_,.phase⟩ (by simp) rfl
   case stepC =>
    rintro i hi o ho l fs w' Vl hI hpre;have HI:Hid (G.WI CC w4 (fun v' w'=>∃ w1,ag w4 w1∧w'.ownsRow (bp + 1) 27 2 v' (aZ (aZ xo ⟨t.a,t.b⟩) ⟨t.c,t.d⟩).length (pairs (aZ (aZ xo ⟨t.a,t.b⟩) ⟨t.c,t.d⟩))∧Aside w1 Zn w' v'∧∀ B',(∀ g,Zn.ownBlock=some g→B'≤g)→B'≤w1.heap.size→Below B' w1 w') l fs w'):=hI;have UD:Hid (∀ e ∈ o.after,Region.binds .any e=true→l e.on=true):=hpre;clear hI hpre;have hc:=uf (i:=i) (by omega);clear hi
    repeat' rcases hc with rfl | hc
    ·cases ho;have hW:=HI.out;clear UD HI;refine aa rfl fun K HK=>?_;go_simp;exact HK.out _ _ ⟨Value.pointer (some ⟨D,0,none⟩),by simp [upd, *],hW.put (by omega) (by omega) VF.out.1.symm⟩
    ·cases ho;have hW:=HI.out;clear UD HI;refine aa rfl fun K HK=>?_;go_simp;exact HK.out _ _ ⟨Value.pointer (some ⟨D,0,none⟩),by simp [upd, *],hW.put (by omega) (by omega) VF.out.2.1.symm⟩
    ·cases ho;have hW:=HI.out;have e1:=(HI.out.val 1 (by omega) (by omega) (UD.out ⟨1,.data⟩ (by simp) rfl)).trans VF.out.2.1;clear UD HI;refine aa rfl fun K HK=>?_;simp only [e1];go_simp;exact HK.out _ _ ⟨Value.pointer (some ⟨D,0,none⟩),by simp [upd, *],hW.put (by omega) (by omega) VF.out.2.2.1.symm⟩
    ·cases ho;have hW:=HI.out;have e2:=(HI.out.val 2 (by omega) (by omega) (UD.out ⟨2,.data⟩ (by simp) rfl)).trans VF.out.2.2.1;clear UD HI;refine aa rfl fun K HK=>?_;simp only [e2];go_simp;exact HK.out _ _ ⟨Value.pointer (some ⟨D,4,none⟩),by simp [upd, *],hW.put (by omega) (by omega) VF.out.2.2.2.1.symm⟩
    ·cases ho;have hW:=HI.out;have e3:=(HI.out.val 3 (by omega) (by omega) (UD.out ⟨3,.data⟩ (by simp) rfl)).trans VF.out.2.2.2.1;have hb':=HI.out.early (.inl Vl);have d4:=(hb'.cell (p:=⟨D,4,none⟩) YE.out.lt).trans YE.out.c4;clear UD HI;refine aa rfl fun K HK=>?_;simp only [e3];go_simp;exact HK.out _ _ ⟨Zn,by simp [upd, *],hW.put (by omega) (by omega) VF.out.2.2.2.2.1.symm⟩
    ·cases ho;have hW:=HI.out;clear UD HI;refine aa rfl fun K HK=>?_;go_simp;exact HK.out _ _ ⟨Value.pointer (some ⟨w.heap.size,3,none⟩),by simp [upd, *],hW.put (by omega) (by omega) VF.out.2.2.2.2.2.1.symm⟩
    ·cases ho;have hW:=HI.out;have e5:=(HI.out.val 5 (by omega) (by omega) (UD.out ⟨5,.data⟩ (by simp) rfl)).trans VF.out.2.2.2.2.2.1;have hb':=HI.out.early (.inr Vl);obtain ⟨t0,t1,t2,t3,t4,t5,tl⟩:=Zm.out.1.below hb';clear UD HI;refine aa rfl fun K HK=>?_;simp only [e5];go_simp;exact HK.out _ _ ⟨Value.agg #[.string t.c,.string t.d],by simp [upd, *],hW.put (by omega) (by omega) VF.out.2.2.2.2.2.2.1.symm⟩
    ·cases ho;have hW:=HI.out;have e4:=(HI.out.val 4 (by omega) (by omega) (UD.out ⟨4,.data⟩ (by simp) rfl)).trans VF.out.2.2.2.2.1;have e6:=(HI.out.val 6 (by omega) (by omega) (UD.out ⟨6,.data⟩ (by simp) rfl)).trans VF.out.2.2.2.2.2.2.1;have h4:=UD.out ⟨4,.data⟩ (by simp) rfl;have h6:=UD.out ⟨6,.data⟩ (by simp) rfl;have hb':=HI.out.before Vl;have hown:=cO YE.out.objs hb';clear UD HI;refine aa rfl fun K HK=>?_;simp only [e4,e6];go_simp;refine (mg (bp + 1) Zn (aZ xo ⟨t.a,t.b⟩) ⟨t.c,t.d⟩ w' (by omega) (TZ hbz hb'.size) hown).mono ?_;rintro e w2 ⟨v',rfl,hown2,has,hbl⟩;exact HK.out _ _ ⟨v',by simp [upd,e4,e6],hW.call h4 h6 ⟨w',hb',hown2,has,hbl⟩⟩
    ·cases ho;have hW:=HI.out;have e0:=(HI.out.val 0 (by omega) (by omega) (UD.out ⟨0,.data⟩ (by simp) rfl)).trans VF.out.1;clear UD HI;refine aa rfl fun K HK=>?_;simp only [e0];go_simp;exact HK.out _ _ ⟨Value.pointer (some ⟨D,0,none⟩),by simp [upd, *],hW.put (by omega) (by omega) VF.out.2.2.2.2.2.2.2.2.1.symm⟩
    cases ho;have hW:=HI.out;have e8:=(HI.out.val 8 (by omega) (by omega) (UD.out ⟨8,.data⟩ (by simp) rfl)).trans VF.out.2.2.2.2.2.2.2.2.1;have h8:=UD.out ⟨8,.data⟩ (by simp) rfl;clear UD HI;refine aa rfl fun K HK=>?_;simp only [e8];go_simp;exact HK.out _ _ ⟨Value.pointer (some ⟨D,4,none⟩),by simp [upd, *],hW.put (by omega) (fun _=>h8) VF.out.2.2.2.2.2.2.2.2.2.symm⟩
   case finC =>
    rintro o ho l fs w' hall hI;obtain rfl:=Option.some.inj ho;obtain ⟨hval,w1,hb1,hown,has,hbl⟩:=hI.last hall;have e9:=(hval 9 (by omega) (by omega)).trans VF.out.2.2.2.2.2.2.2.2.2;have VR:=YE.out.below hb1;have hDn:=VR.newO hown has;have Yq:=(Zm.out.1.below hb1).aside (by obtain ⟨cur,e⟩:=Zm.out.2; exact ⟨cur,(hb1.block _ Zm.out.1.2.2.2.2.2.2).trans e⟩) VR.objs has;obtain ⟨cur,hkd⟩:=VR.kind;have XD:Zn.ownBlock ≠ some D:=fun e=>absurd (dI VR.objs e hkd) (by decide);have XF:=(has.block D VR.lt XD).trans hkd;have fz:=fun o=>gJ XF o;have d4:=(Ul (w:=w1) (a:=⟨D,4,none⟩) (has.block D VR.lt XD)).trans VR.c4;obtain ⟨adn,cpn,e7,-⟩:=kC hown;rw [e7] at hown has hDn;obtain ⟨w5,hwn⟩:∃ x,x=w'.setCell ⟨D,4,none⟩ (Value.slice adn (aZ (aZ xo ⟨t.a,t.b⟩) ⟨t.c,t.d⟩).length cpn):=⟨_,rfl⟩;rw [← hwn] at hDn;have Wu:=aD hDn;have WM:Hid (tZ w5 w.heap.size t∧∃ cur,w5.heap[w.heap.size]?=some (.cells cur 46 (0,0))):=by
     have hh:w5.heap[w.heap.size]?=w'.heap[w.heap.size]?:=by rw [hwn]; exact heap_setCell_other w' ⟨D,4,none⟩ w.heap.size _ (by show w.heap.size ≠ D; omega)
     obtain ⟨cr,ecr⟩:=Yq.2;exact ⟨Yq.1.block hh (by rw [hwn]; simpa using Yq.1.2.2.2.2.2.2),cr,hh.trans ecr⟩
    have Zo:Hid (Below bp w w5):=by
     have b1:Below bp w w1:=HB3n.out.trans (hb1.mono (by omega));have b2:Below bp w w':=b1.trans (hbl bp (fun g hg=>by have:=(VR.objs.lt g hg).1; omega) (by have:=hb1.size; omega));show Below _ _ _; rw [hwn]; exact b2.setCell (by show bp≤D; omega) _
    have hsn:w4.heap.size≤w5.heap.size:=by rw [hwn]; have:=hb1.size; have:=has.size; simp; omega
    have YF:bp + 1≤w5.heap.size:=by omega
    clear hval;refine aa rfl fun K HK=>?_;simp only [e9,e7];go_simp;rw [← hwn];refine HK.out _ _ ?_;obtain ⟨vo2,hvo2⟩:∃ v,v=Value.slice adn (aZ (aZ xo ⟨t.a,t.b⟩) ⟨t.c,t.d⟩).length cpn:=⟨_,rfl⟩;rw [← hvo2] at Wu ⊢;clear hb1 hown has hbl VR hDn Yq hkd XF XD fz d4 HK K hI hall ho hwn e9 e7 hvo2 hsn hbz YE Zm HB3n VF;obtain ⟨zC0,hz0⟩:∃ y,y=fs 0:=⟨_,rfl⟩;rw [← hz0];obtain ⟨zC1,hz1⟩:∃ y,y=fs 1:=⟨_,rfl⟩;rw [← hz1];obtain ⟨zC2,hz2⟩:∃ y,y=fs 2:=⟨_,rfl⟩;rw [← hz2];obtain ⟨zC3,hz3⟩:∃ y,y=fs 3:=⟨_,rfl⟩;rw [← hz3];obtain ⟨zC4,Xj⟩:∃ y,y=fs 4:=⟨_,rfl⟩;rw [← Xj];obtain ⟨zC5,hz5⟩:∃ y,y=fs 5:=⟨_,rfl⟩;rw [← hz5];obtain ⟨zC6,hz6⟩:∃ y,y=fs 6:=⟨_,rfl⟩;rw [← hz6];obtain ⟨zC8,hz8⟩:∃ y,y=fs 8:=⟨_,rfl⟩;rw [← hz8];clear hz0 hz1 hz2 hz3 Xj hz5 hz6 hz8 fs l
    skip
    have hbz:=YF;clear YF;obtain ⟨t0,t1,t2,t3,t4,t5,tl⟩:=WM.out.1;cases hs:(t.s.toList == ([]:List UInt8));case false=>
     have HU:Hid (cu xu t=xu):=by show _=_; unfold cu; rw [hs]; rfl
     go_wp2
     go_end0
     exact ⟨rfl,⟨_,_,_,by rw [HU.out]; exact Wu.out⟩,Zo.out⟩
    have HU:Hid (cu xu t=aZ xu ⟨t.c,t.d⟩):=by show _=_; unfold cu; rw [hs]; rfl
    clear t0 t1 t2 t3 t4 tl;go_wp2_with fail;clear t5 hs;obtain ⟨CD,hCD⟩:∃ C:Nat→Value,C=fun n=>(Value.pointer (some ⟨D,0,none⟩)::.pointer (some ⟨D,0,none⟩)::.pointer (some ⟨D,0,none⟩)::.pointer (some ⟨D,5,none⟩)::vu::.pointer (some ⟨w.heap.size,3,none⟩)::.agg #[.string t.c,.string t.d]::undef::.pointer (some ⟨D,0,none⟩)::.pointer (some ⟨D,5,none⟩)::[]).getD n undef:=⟨_,rfl⟩;have WX:Hid (CD 0=Value.pointer (some ⟨D,0,none⟩)∧CD 1=Value.pointer (some ⟨D,0,none⟩)∧CD 2=Value.pointer (some ⟨D,0,none⟩)∧CD 3=Value.pointer (some ⟨D,5,none⟩)∧CD 4=vu∧CD 5=Value.pointer (some ⟨w.heap.size,3,none⟩)∧CD 6=Value.agg #[.string t.c,.string t.d]∧CD 7=undef∧CD 8=Value.pointer (some ⟨D,0,none⟩)∧CD 9=Value.pointer (some ⟨D,5,none⟩)):=by show _∧_; rw [hCD]; exact ⟨rfl,rfl,rfl,rfl,rfl,rfl,rfl,rfl,rfl,rfl⟩
    clear hCD;refine jT 10 (fun _=>undef) (fun ft=>{ tmps:=List.toArray (Value.pointer (some ⟨D,0,none⟩)::.agg #[.string t.a,.string t.b,.string t.r,.string t.c,.string t.d,.string t.s]::undef::.pointer (some ⟨w.heap.size,0,none⟩)::.pointer (some ⟨w.heap.size + 1,0,none⟩)::.pointer (some ⟨w.heap.size,0,none⟩)::.agg #[.string t.a,.string t.b]::.pointer (some ⟨w.heap.size,2,none⟩)::.string t.r::.agg #[.string t.a,.string t.b,.string t.r]::y0::y1::y2::.map (some bp)::y4::y8::y5::y6::y7::y9::.int .i64 st::zB0::zB1::zB2::zB3::zB4::zB5::zB6::Zn::zB8::.pointer (some ⟨D,4,none⟩)::zC0::zC1::zC2::zC3::zC4::zC5::zC6::vo2::zC8::.pointer (some ⟨D,4,none⟩)::.pointer (some ⟨w.heap.size,5,none⟩)::.string t.s::.bool true::(ft 0)::(ft 1)::(ft 2)::(ft 3)::(ft 4)::(ft 5)::(ft 6)::(ft 7)::(ft 8)::(ft 9)::[]),defers:=[] }) (G.WI CD w5 (fun v' w'=>∃ w1,ag w5 w1∧w'.ownsRow (bp + 1) 27 2 v' (aZ xu ⟨t.c,t.d⟩).length (pairs (aZ xu ⟨t.c,t.d⟩))∧Aside w1 vu w' v'∧∀ B',(∀ g,vu.ownBlock=some g→B'≤g)→B'≤w1.heap.size→Below B' w1 w')) (by kernel_rfl) rfl (by kernel_rfl) (fun o ho l f w' hI hp=>?clD) rfl (G.wi_start w5) ?stepD ?finD;case clD =>
     cases ho;intro k hk;have h9:=hp ⟨9,.data⟩ (by simp) rfl;have hc:=uf (i:=k) (by omega)
     repeat' rcases hc with rfl | hc
     all_goals first | exact hI.nin h9 | exact h9 | exact hp ⟨_,.phase⟩ (by simp) rfl
    case stepD =>
     rintro i hi o ho l ft w' Vl hI hpre;have HI:Hid (G.WI CD w5 (fun v' w'=>∃ w1,ag w5 w1∧w'.ownsRow (bp + 1) 27 2 v' (aZ xu ⟨t.c,t.d⟩).length (pairs (aZ xu ⟨t.c,t.d⟩))∧Aside w1 vu w' v'∧∀ B',(∀ g,vu.ownBlock=some g→B'≤g)→B'≤w1.heap.size→Below B' w1 w') l ft w'):=hI;have UD:Hid (∀ e ∈ o.after,Region.binds .any e=true→l e.on=true):=hpre;clear hI hpre;have hc:=uf (i:=i) (by omega);clear hi
     repeat' rcases hc with rfl | hc
     ·cases ho;have hW:=HI.out;clear UD HI;refine aa rfl fun K HK=>?_;go_simp;exact HK.out _ _ ⟨Value.pointer (some ⟨D,0,none⟩),by simp [upd, *],hW.put (by omega) (by omega) WX.out.1.symm⟩
     ·cases ho;have hW:=HI.out;clear UD HI;refine aa rfl fun K HK=>?_;go_simp;exact HK.out _ _ ⟨Value.pointer (some ⟨D,0,none⟩),by simp [upd, *],hW.put (by omega) (by omega) WX.out.2.1.symm⟩
     ·cases ho;have hW:=HI.out;have e1:=(HI.out.val 1 (by omega) (by omega) (UD.out ⟨1,.data⟩ (by simp) rfl)).trans WX.out.2.1;clear UD HI;refine aa rfl fun K HK=>?_;simp only [e1];go_simp;exact HK.out _ _ ⟨Value.pointer (some ⟨D,0,none⟩),by simp [upd, *],hW.put (by omega) (by omega) WX.out.2.2.1.symm⟩
     ·cases ho;have hW:=HI.out;have e2:=(HI.out.val 2 (by omega) (by omega) (UD.out ⟨2,.data⟩ (by simp) rfl)).trans WX.out.2.2.1;clear UD HI;refine aa rfl fun K HK=>?_;simp only [e2];go_simp;exact HK.out _ _ ⟨Value.pointer (some ⟨D,5,none⟩),by simp [upd, *],hW.put (by omega) (by omega) WX.out.2.2.2.1.symm⟩
     ·cases ho;have hW:=HI.out;have e3:=(HI.out.val 3 (by omega) (by omega) (UD.out ⟨3,.data⟩ (by simp) rfl)).trans WX.out.2.2.2.1;have hb':=HI.out.early (.inl Vl);have d4:=(hb'.cell (p:=⟨D,5,none⟩) Wu.out.lt).trans Wu.out.c5;clear UD HI;refine aa rfl fun K HK=>?_;simp only [e3];go_simp;exact HK.out _ _ ⟨vu,by simp [upd, *],hW.put (by omega) (by omega) WX.out.2.2.2.2.1.symm⟩
     ·cases ho;have hW:=HI.out;clear UD HI;refine aa rfl fun K HK=>?_;go_simp;exact HK.out _ _ ⟨Value.pointer (some ⟨w.heap.size,3,none⟩),by simp [upd, *],hW.put (by omega) (by omega) WX.out.2.2.2.2.2.1.symm⟩
     ·cases ho;have hW:=HI.out;have e5:=(HI.out.val 5 (by omega) (by omega) (UD.out ⟨5,.data⟩ (by simp) rfl)).trans WX.out.2.2.2.2.2.1;have hb':=HI.out.early (.inr Vl);obtain ⟨t0,t1,t2,t3,t4,t5,tl⟩:=WM.out.1.below hb';clear UD HI;refine aa rfl fun K HK=>?_;simp only [e5];go_simp;exact HK.out _ _ ⟨Value.agg #[.string t.c,.string t.d],by simp [upd, *],hW.put (by omega) (by omega) WX.out.2.2.2.2.2.2.1.symm⟩
     ·cases ho;have hW:=HI.out;have e4:=(HI.out.val 4 (by omega) (by omega) (UD.out ⟨4,.data⟩ (by simp) rfl)).trans WX.out.2.2.2.2.1;have e6:=(HI.out.val 6 (by omega) (by omega) (UD.out ⟨6,.data⟩ (by simp) rfl)).trans WX.out.2.2.2.2.2.2.1;have h4:=UD.out ⟨4,.data⟩ (by simp) rfl;have h6:=UD.out ⟨6,.data⟩ (by simp) rfl;have hb':=HI.out.before Vl;have hown:=cO Wu.out.users hb';clear UD HI;refine aa rfl fun K HK=>?_;simp only [e4,e6];go_simp;refine (mg (bp + 1) vu xu ⟨t.c,t.d⟩ w' (by omega) (TZ hbz hb'.size) hown).mono ?_;rintro e w2 ⟨v',rfl,hown2,has,hbl⟩;exact HK.out _ _ ⟨v',by simp [upd,e4,e6],hW.call h4 h6 ⟨w',hb',hown2,has,hbl⟩⟩
     ·cases ho;have hW:=HI.out;have e0:=(HI.out.val 0 (by omega) (by omega) (UD.out ⟨0,.data⟩ (by simp) rfl)).trans WX.out.1;clear UD HI;refine aa rfl fun K HK=>?_;simp only [e0];go_simp;exact HK.out _ _ ⟨Value.pointer (some ⟨D,0,none⟩),by simp [upd, *],hW.put (by omega) (by omega) WX.out.2.2.2.2.2.2.2.2.1.symm⟩
     cases ho;have hW:=HI.out;have e8:=(HI.out.val 8 (by omega) (by omega) (UD.out ⟨8,.data⟩ (by simp) rfl)).trans WX.out.2.2.2.2.2.2.2.2.1;have h8:=UD.out ⟨8,.data⟩ (by simp) rfl;clear UD HI;refine aa rfl fun K HK=>?_;simp only [e8];go_simp;exact HK.out _ _ ⟨Value.pointer (some ⟨D,5,none⟩),by simp [upd, *],hW.put (by omega) (fun _=>h8) WX.out.2.2.2.2.2.2.2.2.2.symm⟩
    case finD =>
     rintro o ho l ft w' hall hI;cases ho;obtain ⟨hval,w1,hb1,hown,has,hbl⟩:=hI.last hall;have e9:=(hval 9 (by omega) (by omega)).trans WX.out.2.2.2.2.2.2.2.2.2;have VR:=Wu.out.below hb1;have hDn:=VR.newU hown has;have Yq:=(WM.out.1.below hb1).aside (by obtain ⟨cur,e⟩:=WM.out.2; exact ⟨cur,(hb1.block _ WM.out.1.2.2.2.2.2.2).trans e⟩) VR.users has;obtain ⟨cur,hkd⟩:=VR.kind;have XD:vu.ownBlock ≠ some D:=fun e=>absurd (dI VR.users e hkd) (by decide);have XF:=(has.block D VR.lt XD).trans hkd;have fz:=fun o=>gJ XF o;have d4:=(Ul (w:=w1) (a:=⟨D,5,none⟩) (has.block D VR.lt XD)).trans VR.c5;obtain ⟨adn,cpn,e7,-⟩:=kC hown;rw [e7] at hown has hDn;obtain ⟨w6,hwn⟩:∃ x,x=w'.setCell ⟨D,5,none⟩ (Value.slice adn (aZ xu ⟨t.c,t.d⟩).length cpn):=⟨_,rfl⟩;rw [← hwn] at hDn;have Zp:=aD hDn;have HT3nnn:Hid (tZ w6 w.heap.size t∧∃ cur,w6.heap[w.heap.size]?=some (.cells cur 46 (0,0))):=by
      have hh:w6.heap[w.heap.size]?=w'.heap[w.heap.size]?:=by rw [hwn]; exact heap_setCell_other w' ⟨D,5,none⟩ w.heap.size _ (by show w.heap.size ≠ D; omega)
      obtain ⟨cr,ecr⟩:=Yq.2;exact ⟨Yq.1.block hh (by rw [hwn]; simpa using Yq.1.2.2.2.2.2.2),cr,hh.trans ecr⟩
     have HB3nnn:Hid (Below bp w w6):=by
      have b1:Below bp w w1:=Zo.out.trans (hb1.mono (by omega));have b2:Below bp w w':=b1.trans (hbl bp (fun g hg=>by have:=(VR.users.lt g hg).1; omega) (by have:=hb1.size; omega));show Below _ _ _; rw [hwn]; exact b2.setCell (by show bp≤D; omega) _
     have hsn:w5.heap.size≤w6.heap.size:=by rw [hwn]; have:=hb1.size; have:=has.size; simp; omega
     have YF:bp + 1≤w6.heap.size:=by omega
     clear hval;refine aa rfl fun K HK=>?_;simp only [e9,e7];go_simp;rw [← hwn];refine HK.out _ _ ?_;obtain ⟨vu2,hvu2⟩:∃ v,v=Value.slice adn (aZ xu ⟨t.c,t.d⟩).length cpn:=⟨_,rfl⟩;rw [← hvu2] at Zp ⊢;clear hb1 hown has hbl VR hDn Yq hkd XF XD fz d4 HK K hI hall hwn e9 e7 hvu2 hsn hbz Wu WM Zo WX;obtain ⟨zD0,hz0⟩:∃ y,y=ft 0:=⟨_,rfl⟩;rw [← hz0];obtain ⟨zD1,hz1⟩:∃ y,y=ft 1:=⟨_,rfl⟩;rw [← hz1];obtain ⟨zD2,hz2⟩:∃ y,y=ft 2:=⟨_,rfl⟩;rw [← hz2];obtain ⟨zD3,hz3⟩:∃ y,y=ft 3:=⟨_,rfl⟩;rw [← hz3];obtain ⟨zD4,Xj⟩:∃ y,y=ft 4:=⟨_,rfl⟩;rw [← Xj];obtain ⟨zD5,hz5⟩:∃ y,y=ft 5:=⟨_,rfl⟩;rw [← hz5];obtain ⟨zD6,hz6⟩:∃ y,y=ft 6:=⟨_,rfl⟩;rw [← hz6];obtain ⟨zD8,hz8⟩:∃ y,y=ft 8:=⟨_,rfl⟩;rw [← hz8];clear hz0 hz1 hz2 hz3 Xj hz5 hz6 hz8 ft l
     skip
     go_wp2
     go_end0
     exact ⟨rfl,⟨_,_,_,by rw [HU.out]; exact Zp.out⟩,HB3nnn.out⟩
set_option maxRecDepth 8000 in
theorem om (ad:Option Addr) (cap:Nat) (ts:List Fc) (t:Fc) (w:af) (hlen:ts.length≤1048576) (hs:Bu w ad ts) :
  Calls prog 56 #[.slice ad ts.length cap,.agg #[.string t.a,.string t.b,.string t.r,.string t.c,.string t.d]] w fun e w'=>e=.returned (.bool (bP ts t))∧ag w w':=by
 have HS:=az hs;clear hs;obtain ⟨W0,hW0⟩:∃ W0,W0=w.alloc (.cells #[.string t.a,.string t.b,.string t.r,.string t.c,.string t.d] 29):=⟨_,rfl⟩;have HB0:=qY hW0;have HX0:Hid (W0.cell? ⟨w.heap.size,0,none⟩=some (.string t.a)∧W0.cell? ⟨w.heap.size,1,none⟩=some (.string t.b)∧W0.cell? ⟨w.heap.size,2,none⟩=some (.string t.r)∧W0.cell? ⟨w.heap.size,3,none⟩=some (.string t.c)∧W0.cell? ⟨w.heap.size,4,none⟩=some (.string t.d)∧w.heap.size < W0.heap.size):=by show _∧_; rw [hW0]; refine ⟨?_,?_,?_,?_,?_,?_⟩ <;> simp
 go_enter func56,ntmps56;go_wp2;rw [← hW0];clear hW0;go_loopw [5] (fun i wr=>∃ k:Nat,k≤ts.length∧i=.int .i64 k∧Hid (bP (ts.drop k) t=bP ts t)∧Hid (ag W0 wr)) (fun i _=>ts.length - (intOf i).toNat);case atStart=>exact ⟨0,TW _,rfl,rfl,TT _ _⟩
 obtain ⟨k,hk,rfl,HP,HB⟩:=hrel;have UG:Hid (ag w wr):=HB0.out.trans (HB.out.mono HB0.out.size);by_cases hlt:k < ts.length
 ·rcases HS.out.below UG.out with hnil | ⟨b,off,rfl,hb,hr⟩
  ·rw [hnil] at hlt; simp at hlt
  obtain ⟨t0,t1,t2,t3,t4⟩:=hr k hlt;have x0:=mK HB.out HX0.out.2.2.2.2.2 HX0.out.1;have x1:=mK HB.out HX0.out.2.2.2.2.2 HX0.out.2.1;have x2:=mK HB.out HX0.out.2.2.2.2.2 HX0.out.2.2.1;have x3:=mK HB.out HX0.out.2.2.2.2.2 HX0.out.2.2.2.1;have x4:=mK HB.out HX0.out.2.2.2.2.2 HX0.out.2.2.2.2.1;have hk1:=bB k;have hk2:(k:Int) < (ts.length:Int):=by omega
  have HD:Hid (bP ts t=(wJ ts[k] t || bP (ts.drop (k + 1)) t)):=by show _=_; rw [← HP.out]; exact CZ hlt
  clear hr;cases hq:wJ ts[k] t;case true=>
   have heq:=Es ts[k] t hq;have HN:Hid (bP ts t=true):=by show _=_; rw [HD.out,hq]; rfl
   clear hq;go_wp2_with fail;go_region_held3 (fun w'=>w'.cell? ⟨b,off + k * 5,none⟩=some (.string ts[k].a)∧w'.cell? ⟨b,off + k * 5 + 1,none⟩=some (.string ts[k].b)∧w'.cell? ⟨b,off + k * 5 + 2,none⟩=some (.string ts[k].r)∧w'.cell? ⟨b,off + k * 5 + 3,none⟩=some (.string ts[k].c)∧w'.cell? ⟨b,off + k * 5 + 4,none⟩=some (.string ts[k].d)∧w'.cell? ⟨w.heap.size,0,none⟩=some (.string t.a)∧w'.cell? ⟨w.heap.size,1,none⟩=some (.string t.b)∧w'.cell? ⟨w.heap.size,2,none⟩=some (.string t.r)∧w'.cell? ⟨w.heap.size,3,none⟩=some (.string t.c)∧w'.cell? ⟨w.heap.size,4,none⟩=some (.string t.d)∧ag wr w') (first | assumption | exact ⟨t0,t1,t2,t3,t4,x0,x1,x2,x3,x4,(TT _ _).drew⟩) (fail);rename_i hH;have HG:Hid (ag wr _):=hH.2.2.2.2.2.2.2.2.2.2;clear hH t0 t1 t2 t3 t4 x0 x1 x2 x3 x4 heq;go_wp2;go_ret;exact ⟨by rw [HN.out]; rfl,UG.out.trans (HG.out.mono UG.out.size)⟩
  have heq:=Es ts[k] t hq;have UI:Hid (bP (ts.drop (k + 1)) t=bP ts t):=by show _=_; rw [HD.out,hq]; rfl
  clear hq;go_wp2_with fail;go_region_held3 (fun w'=>w'.cell? ⟨b,off + k * 5,none⟩=some (.string ts[k].a)∧w'.cell? ⟨b,off + k * 5 + 1,none⟩=some (.string ts[k].b)∧w'.cell? ⟨b,off + k * 5 + 2,none⟩=some (.string ts[k].r)∧w'.cell? ⟨b,off + k * 5 + 3,none⟩=some (.string ts[k].c)∧w'.cell? ⟨b,off + k * 5 + 4,none⟩=some (.string ts[k].d)∧w'.cell? ⟨w.heap.size,0,none⟩=some (.string t.a)∧w'.cell? ⟨w.heap.size,1,none⟩=some (.string t.b)∧w'.cell? ⟨w.heap.size,2,none⟩=some (.string t.r)∧w'.cell? ⟨w.heap.size,3,none⟩=some (.string t.c)∧w'.cell? ⟨w.heap.size,4,none⟩=some (.string t.d)∧ag wr w') (first | assumption | exact ⟨t0,t1,t2,t3,t4,x0,x1,x2,x3,x4,(TT _ _).drew⟩) (fail);rename_i hH;have HG:Hid (ag W0 _):=HB.out.trans (hH.2.2.2.2.2.2.2.2.2.2.mono HB.out.size);clear hH t0 t1 t2 t3 t4 x0 x1 x2 x3 x4 heq;go_wp2;go_roundw;case rel=>exact ⟨k + 1,by omega,by go_num,UI,HG⟩
  simp [intOf] <;> omega
 have HN:Hid (bP ts t=false):=by show _=_; rw [← HP.out,List.drop_of_length_le (by omega)]; rfl
 go_wp2;go_ret;exact ⟨by rw [HN.out]; rfl,UG.out⟩
theorem aC {p:Prop} (h:p):Hid p:=h
structure HW (w:World) (V8:Option Addr) (ts:List Tp) (UC:Option Addr) (rows:List ER) (adK:Option Addr) (known:List Fc) (V9:Option Addr) (truth:List Fc):Prop where
 tup:Sl w V8 ts
 ex:iH w UC rows
 kn:Bu w adK known
 tr:Bu w V9 truth
theorem HW.below {w w':af} {V8:Option Addr} {ts:List Tp} {UC:Option Addr} {rows:List ER} {adK:Option Addr} {known:List Fc} {V9:Option Addr} {truth:List Fc} (h:HW w V8 ts UC rows adK known V9 truth) (hB:ag w w'):HW w' V8 ts UC rows adK known V9 truth :=
 ⟨h.tup.below hB,h.ex.below hB,h.kn.below hB,h.tr.below hB⟩
def Ak (a b c d:ByteArray):Bool:=a.toList == c.toList && b.toList == d.toList
theorem jI (a b c d:bH) {v:Bool} (h:Ak a b c d=v) (w:af) :
  (binOp .eql 27 (.agg #[.string a,.string b]) (.agg #[.string c,.string d])).run prog w=.ok (.bool v) w:=by
 subst h;go_simp;unfold Ak
 (repeat' split) <;> simp_all
theorem Gc (a b c d:bH) {v:Bool} (h:Ak a b c d=v) (w:af) :
  (binOp .neq 27 (.agg #[.string a,.string b]) (.agg #[.string c,.string d])).run prog w=.ok (.bool (!v)) w:=by
 subst h;go_simp;unfold Ak
 (repeat' split) <;> simp_all
theorem iH.at0 {w:af} {ad:Option Addr} {rs:List ER} (h:iH w ad rs) {k:Nat} (hk:k < rs.length):∃ b off,ad=some ⟨b,off,none⟩∧x8 w b (off + k * 5) rs[k]∧b < w.heap.size∧rs[k].ok w:=by
 rcases h with h | ⟨b',off',e,hb,hr,hok⟩
 ·rw [h] at hk; simp at hk
 exact ⟨b',off',e,hr k hk,hb,hok _ (TQ hk)⟩
theorem Sl.at0 {w:af} {ad:Option Addr} {ts:List Tp} (h:Sl w ad ts) {k:Nat} (hk:k < ts.length):∃ b off,ad=some ⟨b,off,none⟩∧Rv w b (off + k * 6) ts[k]∧b < w.heap.size:=by
 rcases h with h | ⟨b',off',e,hb,hr⟩
 ·rw [h] at hk; simp at hk
 exact ⟨b',off',e,hr k hk,hb⟩
theorem pX.at0 {w:af} {ad:Option Addr} {zs:List Int} (h:pX w ad zs) {k:Nat} (hk:k < zs.length):∃ b off,ad=some ⟨b,off,none⟩∧w.cell? ⟨b,off + k,none⟩=some (.int .i64 zs[k])∧b < w.heap.size:=by
 rcases h with h | ⟨b',off',e,hb,hr⟩
 ·rw [h] at hk; simp at hk
 exact ⟨b',off',e,hr k hk,hb⟩
def Gd (w:World) (f:Fc) (x:ER):World:=(w.alloc (.cells #[.string f.a,.string f.b,.string f.r,.string f.c,.string f.d] 29)).alloc (.cells #[.int .i64 x.e.kind,.slice x.adA x.e.allow.length x.capA,.string x.e.over,.string x.e.name,.slice x.adK x.e.kids.length x.capK] 39)
theorem jU (w:af) (f:Fc) (x:ER):ag w (Gd w f x):=by
 unfold Gd;exact ((TT _ _).alloc (TS _) _).alloc (by simp) _
structure EnB (w:World) (B:Nat) (f:Fc) (x:ER):Prop where
 lt:B + 1 < w.heap.size
 f0:w.cell? ⟨B,0,none⟩=some (.string f.a)
 f1:w.cell? ⟨B,1,none⟩=some (.string f.b)
 f2:w.cell? ⟨B,2,none⟩=some (.string f.r)
 f3:w.cell? ⟨B,3,none⟩=some (.string f.c)
 f4:w.cell? ⟨B,4,none⟩=some (.string f.d)
 x0:w.cell? ⟨B + 1,0,none⟩=some (.int .i64 x.e.kind)
 x1:w.cell? ⟨B + 1,1,none⟩=some (.slice x.adA x.e.allow.length x.capA)
 x2:w.cell? ⟨B + 1,2,none⟩=some (.string x.e.over)
 x3:w.cell? ⟨B + 1,3,none⟩=some (.string x.e.name)
 x4:w.cell? ⟨B + 1,4,none⟩=some (.slice x.adK x.e.kids.length x.capK)
theorem EnB.below {w w':af} {B:Nat} {f:Fc} {x:ER} (h:EnB w B f x) (hB:ag w w'):EnB w' B f x:=by
 have h0:B < w.heap.size:=by have:=h.lt; omega
 have c0:∀ o,w'.cell? ⟨B,o,none⟩=w.cell? ⟨B,o,none⟩:=fun o=>hB.cell (p:=⟨B,o,none⟩) h0;have c1:∀ o,w'.cell? ⟨B + 1,o,none⟩=w.cell? ⟨B + 1,o,none⟩:=fun o=>hB.cell (p:=⟨B + 1,o,none⟩) h.lt;exact ⟨TP h.lt hB.size,(c0 _).trans h.f0,(c0 _).trans h.f1,(c0 _).trans h.f2,(c0 _).trans h.f3,(c0 _).trans h.f4,(c1 _).trans h.x0,(c1 _).trans h.x1,(c1 _).trans h.x2,(c1 _).trans h.x3,(c1 _).trans h.x4⟩
theorem oo (w:af) (f:Fc) (x:ER):EnB (Gd w f x) w.heap.size f x:=by
 unfold Gd;constructor <;> simp
def Am (known:List Fc) (f:Fc) (t:Tp):Bool:=(t.a.toList == f.a.toList && t.b.toList == f.b.toList && t.r.toList == f.r.toList) && (if t.s.toList.isEmpty then t.c.toList == f.c.toList && t.d.toList == f.d.toList else bP known ⟨t.c,t.d,t.s,f.c,f.d⟩)
theorem Jb {ts:List Tp} {k:Nat} (h:k < ts.length) (known:List Fc) (f:Fc):dY (ts.drop k) known f=(Am known f ts[k] || dY (ts.drop (k + 1)) known f):=by
 unfold dY; rw [Un h]; rfl
def Da (known:List Fc) (over name:ByteArray) (f:Fc) (t:Tp):Bool:=(t.a.toList == f.a.toList && t.b.toList == f.b.toList && t.r.toList == over.toList) && bP known ⟨t.c,t.d,name,f.c,f.d⟩
theorem Jc {ts:List Tp} {k:Nat} (h:k < ts.length) (known:List Fc) (over name:bH) (f:Fc):gp (ts.drop k) known over name f=(Da known over name f ts[k] || gp (ts.drop (k + 1)) known over name f):=by
 unfold gp; rw [Un h]; rfl
theorem mX {s:ByteArray}:(s.toList == [])=s.toList.isEmpty:=by cases s.toList <;> rfl
end Go.Proofs.YtajkkeikihhejaaGreat
