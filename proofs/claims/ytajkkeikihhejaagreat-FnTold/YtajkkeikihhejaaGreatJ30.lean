/- A range over an iterator whose rounds all go on, where what the iterator hands on leans on what the rounds have written so far. -/
import Derived.Test.YtajkkeikihhejaaGreatSq
import Derived.RangeFuncNested
import Derived.Test.YtajkkeikihhejaaGreatJ29
open Go.Proofs.Tryz
set_option maxHeartbeats 80000000
namespace Go.Proofs.YtajkkeikihhejaaGreat
set_option linter.unusedVariables false
open Go.RowKit
def EM {α:Type} (F:Fence) (n:Nat) (P:Program) (g:Nat) (lb:Array Value) (encs:α→Array Value) (Kp:Nat→World→World→Prop) (Q:List α→World→Prop) (E:List α→α→Prop) (S:List α→Prop) (w:World):Prop :=
 ∀ (l:Nat) (J:List α→World→Prop) (W:World),ag w W→l < W.heap.size→w.heap.size≤l→OwnFrom W.heap.size J→(∀ pre W1,J pre W1→Q pre W1) →
  (∀ pre x W1,J pre W1→E pre x→YieldAt F (n - 1) P l (encs x) W1 fun e W'=>e=.returned (.bool true)∧J (pre ++ [x]) W'∧Kp l W1 W') →
  J [] W →
  CallsIn F n P g (#[.func (.yield l) #[] #[]] ++ lb) W fun e W'=>(∃ v,e=.returned v)∧∃ xs,S xs∧J xs W'
def O7 (B:Nat) (R:World→Prop) (W:World):Exit→Act→World→Prop
 | .normal,_,W'=>KeepsFrom B W W'∧R W'
 | _,_,_=>False
theorem Ko {β:Type} {B k:Nat} {o:Obj} (hk:k < B):OwnFrom B (fun (_:β) W=>W.heap[k]?=some o):=fun _ X Y row hs hg hr=>(hg.block k (Array.getElem?_eq_some_iff.1 hs).1 fun e=>by have:=(hr k e.symm).1; omega).trans hs
theorem Sr {β:Type} {B B':Nat} {I:β→World→Prop} (h:OwnFrom B I) (hB:B≤B'):OwnFrom B' I:=fun s X Y row hs hg hr=>h s X Y row hs hg fun r e=>⟨TZ hB (hr r e).1,(hr r e).2⟩
theorem qM {α:Type} {F:Fence} {n:Nat} {P:Program} {g:Operand} {ps:Array Tmp} {assign body:Code} {Q:Exit→Act→World→Prop} {a:Act} {w:af} (hro:F.round=none) (h1:1≤n) {gf:Nat} {lb:Array Value} (hg:a.eval g=.func (.func gf) #[] lb) (hFg:F.fn gf) (eg:∀ args w,(callFunc gf args).run P w=.ok (.enter gf args) w)
  {encs:α→Array Value} {Kp:Nat→World→World→Prop} {Tell:List α→World→Prop} {E:List α→α→Prop} {S:List α→Prop} {w0:World} (hseq:EM F (n - 1) P gf lb encs Kp Tell E S w0) (hb0:ag w0 w) (hps:∀ x,(encs x).size=ps.size)
  (hKt:∀ {l:Nat} {X Y Z:World},Kp l X Y→Kp l Y Z→Kp l X Z) (hKb:∀ (W:World) (l:Nat) (o o':Obj),W.heap[l]?=some o→o.isCells=false→Kp l W (W.putObj l o'))
  (I:List α→World→Prop) (hI:OwnFrom w.heap.size I) (hT:∀ pre W,I pre W→Tell pre W) (h0:I [] w)
  (Ax:α→Act→World→Prop) (hAx:∀ x a',OwnFrom w.heap.size (fun (_:Unit) W=>Ax x a' W))
  (hassign:∀ (l:Nat) (pre:List α) (x:α) (W:World) (K:Act→World→Prop),I pre W→(∀ a' W',KeepsFrom w.heap.size W W'→Kp l W W'→I pre W'→Ax x a' W'→K a' W') →
   assign.wpIn (F.inRound l) (n - 1 - 1) P (Exit.then K (fun _ _ _=>False)) { tmps:=(ps.zip (encs x)).foldl (fun t (p,v)=>t.setIfInBounds p v) a.tmps,defers:=[] } W)
  (hbody:∀ (l:Nat) (pre:List α) (x:α) (a':Act) (W:World),w.heap.size≤l→E pre x→I pre W→Ax x a' W→body.wpIn (F.inRound l) (n - 1 - 1) P (O7 w.heap.size (fun W'=>Kp l W W'∧I (pre ++ [x]) W') W) a' W)
  (hdone:∀ (D:Nat) (xs:List α) (W:World),w.heap.size≤D→S xs→I xs W→W.heap[D]?=some (.deferred (some []))→Q .normal { a with defers:={ target:=.collected D,args:=#[] }::a.defers } W) :
  (Code.rangeFunc g ps assign body).wpIn F n P Q a w:=by
 refine wpIn_rangeFunc fun fn hfn=>?_;rw [hro];obtain ⟨rc,hrc⟩:∃ rc:LoopState→Loop,rc=fun st=>{ state:=st,pending:=none,fn,tmps:=a.tmps,params:=ps,assign,body,defers:=w.heap.size }:=⟨_,rfl⟩;obtain ⟨W0,hW0⟩:∃ W0,W0=w.alloc (.deferred (some [])):=⟨_,rfl⟩;have s0:W0.heap.size=w.heap.size + 1:=by rw [hW0]; simp
 obtain ⟨W1,hW1⟩:∃ W1,W1=W0.alloc (.loop (rc .ready)):=⟨_,rfl⟩;have s1:W1.heap.size=w.heap.size + 2:=by rw [hW1]; simp; omega
 have k0:W0.heap[w.heap.size]?=some (.deferred (some [])):=by rw [hW0]; exact World.alloc_heap_new w _
 have k1:W1.heap[w.heap.size]?=some (.deferred (some [])):=by rw [hW1]; exact (Below.heap_alloc _ _ _ (by omega)).trans k0
 have r1:W1.heap[w.heap.size + 1]?=some (.loop (rc .ready)):=by rw [hW1,← s0]; exact World.alloc_heap_new W0 _
 have i1:I [] W1:=by rw [hW1,hW0]; exact hI.alloc _ (hI.alloc _ h0)
 have b1:ag w W1:=by rw [hW1,hW0]; exact ((TT _ w).alloc (TS _) _).alloc (by simp) _
 have bb:ag w0 W1:=hb0.trans (b1.mono hb0.size);refine ⟨w.heap.size + 1,[{ target:=.collected w.heap.size,args:=#[] }],W1,{ target:=.fn (.func gf) lb,args:=#[.func (.yield (w.heap.size + 1)) #[] #[]] },W1,gf,#[.func (.yield (w.heap.size + 1)) #[] #[]] ++ lb,W1,?_,?_,?_,?_,fun _=>h1,?_⟩
 ·rw [hW1,hW0,hrc]; exact run_enterLoop_outer _ _ _ _ _
 ·simp only [resolve,hg];simp [go_sem]
 ·intro f hf; simp [Target.leads] at hf; subst hf; exact hFg
 ·simp [invoke,go_sem,eg]
 have hJ:OwnFrom W1.heap.size (fun pre W=>I pre W∧W.heap[w.heap.size + 1]?=some (.loop (rc .ready))∧W.heap[w.heap.size]?=some (.deferred (some []))) :=
  (Sr hI (by omega)).and ((Ko (by omega)).and (Ko (by omega)))
 refine (hseq (w.heap.size + 1) _ W1 bb (by omega) (by have:=hb0.size; omega) hJ (fun pre W h=>hT pre W h.1) ?_ ⟨i1,r1,k1⟩).mono ?_
 ·rintro pre x W ⟨hi,hl,hk⟩ hEx;have hy:=run_yield (P:=P) (args:=encs x) hl (by rw [hrc]; exact hps x);rw [hrc] at hy;refine ⟨fn,_,assign,body,hy,roundIn_of_wpIn hfn (hassign _ pre x W _ hi ?_)⟩;clear hy;intro a' Wa hka hkp hia hax;have hla:=hka.same _ _ (by omega) hl rfl;have hda:=hka.same _ _ (TS _) hk rfl;have hlt:w.heap.size + 1 < Wa.heap.size:=(Array.getElem?_eq_some_iff.1 hla).1;refine ⟨_,run_beginRound hla (by rw [hrc]),?_⟩;obtain ⟨Wb,hWb⟩:∃ Wb,Wb=Wa.putObj (w.heap.size + 1) (.loop { rc .ready with state:=.busy }):=⟨_,rfl⟩;rw [← hWb];have lb2:Wb.heap[w.heap.size + 1]?=some (.loop { rc .ready with state:=.busy }):=by rw [hWb]; exact World.putObj_heap_same hlt
  have db2:Wb.heap[w.heap.size]?=some (.deferred (some [])):=by rw [hWb]; exact (World.putObj_heap_other (by omega)).trans hda
  have kb2:Kp (w.heap.size + 1) Wa Wb:=by rw [hWb]; exact hKb _ _ _ _ hla rfl
  have ib2:I pre Wb:=by rw [hWb]; exact hI.putObj _ hia (by omega) hla rfl
  have ab2:Ax x a' Wb:=by rw [hWb]; exact (hAx x a').putObj (s:=()) _ hax (by omega) hla rfl
  refine wpIn_mono (hbody _ pre x a' _ (by omega) hEx ib2 ab2) ?_;intro e a3 W3 hp;cases e;case normal=>
   obtain ⟨hk3,hkp3,hi3⟩:=hp;have hl3:=hk3.same _ _ (by omega) lb2 rfl;have hd3:=hk3.same _ _ (TS _) db2 rfl;have hend:=run_endRound (P:=P) none hl3;rw [hrc] at hend;refine ⟨_,_,hend,rfl,⟨hI.putObj _ hi3 (by omega) hl3 rfl,?_,(World.putObj_heap_other (by omega)).trans hd3⟩,hKt hkp (hKt (hKt kb2 hkp3) (hKb _ _ _ _ hl3 rfl))⟩;rw [hrc];exact World.putObj_heap_same (Array.getElem?_eq_some_iff.1 hl3).1
  case ret=>exact hp.elim
  case exit id=>exact hp.elim
  case goto t=>exact hp.elim
  case panic ch=>exact hp.elim
  exact hp.elim
 rintro e W2 ⟨⟨v,rfl⟩,xs,hS,hi,hl,hk⟩;have hend:=run_endLoop (P:=P) hl (by rw [hrc]; simp);rw [hrc] at hend;exact ⟨none,_,hend,hdone _ xs _ (TS _) hS (hI.putObj _ hi (by omega) hl rfl) ((World.putObj_heap_other (by omega)).trans hk)⟩
structure KpO (b l:Nat) (W W':World):Prop where
 size:W.heap.size≤W'.heap.size
 cells:∀ (g:Nat) (cs:Array Value) (T:TypeId) (m:Nat × Nat),W.heap[g]?=some (.cells cs T m)→T ≠ 29→T ≠ 40→W'.heap[g]?=some (.cells cs T m)
 other:∀ (g:Nat) (o:Obj),W.heap[g]?=some o→o.isCells=false→g ≠ l→g ≠ b→W'.heap[g]?=some o
structure KpI (W W':World):Prop where
 size:W.heap.size≤W'.heap.size
 cells:∀ (g:Nat) (cs:Array Value) (T:TypeId) (m:Nat × Nat),W.heap[g]?=some (.cells cs T m)→T=27 ∨ T=147→W'.heap[g]?=some (.cells cs T m)
theorem KpO.trans {b l:Nat} {X Y Z:af} (h:KpO b l X Y) (k:KpO b l Y Z):KpO b l X Z :=
 ⟨TZ h.size k.size,fun g cs T m hg h1 h2=>k.cells g cs T m (h.cells g cs T m hg h1 h2) h1 h2,fun g o hg hc h1 h2=>k.other g o (h.other g o hg hc h1 h2) hc h1 h2⟩
theorem KpI.trans {X Y Z:af} (h:KpI X Y) (k:KpI Y Z):KpI X Z :=
 ⟨TZ h.size k.size,fun g cs T m hg h1=>k.cells g cs T m (h.cells g cs T m hg h1) h1⟩
theorem ol {W:af} {l g:Nat} {o':Obj} (h:g ≠ l):(W.putObj l o').heap[g]?=W.heap[g]?:=World.putObj_heap_other h
theorem KpO.put {b l:Nat} {W:af} {o o':Obj} (h:W.heap[l]?=some o) (hc:o.isCells=false):KpO b l W (W.putObj l o') where
 size:=by simp
 cells g cs T m hg _ _:=by
  have:g ≠ l:=fun e=>by subst e; rw [h] at hg; injection hg with hg; subst hg; cases hc
  rw [ol this]; exact hg
 other g x hg _ h1 _:=by rw [ol h1]; exact hg
theorem KpI.put {l:Nat} {W:af} {o o':Obj} (h:W.heap[l]?=some o) (hc:o.isCells=false):KpI W (W.putObj l o') where
 size:=by simp
 cells g cs T m hg _:=by
  have:g ≠ l:=fun e=>by subst e; rw [h] at hg; injection hg with hg; subst hg; cases hc
  rw [ol this]; exact hg
theorem KpO.below {b l:Nat} {W W':af} (h:ag W W'):KpO b l W W' :=
 ⟨h.size,fun g cs T m hg _ _=>(h.block g (Array.getElem?_eq_some_iff.1 hg).1).trans hg,fun g o hg _ _ _=>(h.block g (Array.getElem?_eq_some_iff.1 hg).1).trans hg⟩
theorem KpI.below {W W':af} (h:ag W W'):KpI W W' :=
 ⟨h.size,fun g cs T m hg _=>(h.block g (Array.getElem?_eq_some_iff.1 hg).1).trans hg⟩
theorem KpO.toI {b l:Nat} {W W':af} (h:KpO b l W W'):KpI W W' :=
 ⟨h.size,fun g cs T m hg hT=>h.cells g cs T m hg (by rcases hT with e | e <;> (rw [e]; decide)) (by rcases hT with e | e <;> (rw [e]; decide))⟩
theorem AU {W W':af} (h:ag W W'):W.grownBy W' none:=⟨h.os,h.tape,h.output,h.size,fun k hk _=>h.block k hk⟩
theorem mY {β:Type} {B:Nat} {I:β→World→Prop} (h:OwnFrom B I) {s:β} {W W':af} (hs:I s W) (hb:ag W W'):I s W':=h s W W' none hs (AU hb) (fun r e=>by cases e)
open Go.ChangeAt Go.ChangeShapes Go.WideShapes
theorem bi {B:Nat} {w w':af} (hB:Below B w w') {n o:Nat} {v:Value} (hn:n < B) (h:w.cell? ⟨n,o,none⟩=some v):w'.cell? ⟨n,o,none⟩=some v:=(hB.cell (p:=⟨n,o,none⟩) hn).trans h
theorem aD {p:Prop} (h:p):Hid p:=h
theorem cO {w w':af} {base:Nat} {e:TypeId} {size:Nat} {v:Value} {n:Nat} {xs:List Value} (h:w.ownsRow base e size v n xs) (hb:ag w w'):w'.ownsRow base e size v n xs:=by
 have hl:=fun g hg=>(h.lt g hg).2;refine ⟨h.1,?_⟩;rcases h.2 with h0 | ⟨g,cap,cur,rfl,h1,h2,h3⟩
 ·exact .inl h0
 exact .inr ⟨g,cap,cur,rfl,h1,(hb.block g (hl g rfl)).trans h2,h3⟩
open Pl
set_option maxRecDepth 100000
theorem vF {x y:Al}:jQ x y=true ↔ x=y:=by
 unfold jQ;simp only [TU,beq_iff_eq];constructor
 ·rintro ⟨h0,h1⟩;obtain ⟨xa,xb⟩:=x;obtain ⟨ya,yb⟩:=y;simp only at h0 h1;rw [Gd h0,Gd h1]
 rintro rfl; simp
theorem Dv (x y:Al):jQ x y=jQ y x:=by
 rw [Bool.eq_iff_iff,vF,vF];exact ⟨Eq.symm,Eq.symm⟩
theorem O8 (x y:Al) {v:Bool} (h:jQ x y=v) (w:af) :
  (binOp .eql 27 (.agg #[.string x.t,.string x.s]) (.agg #[.string y.t,.string y.s])).run prog w=.ok (.bool v) w:=by
 subst h;go_simp;unfold jQ
 (repeat' split) <;> simp_all
def mJ (xs:List Al) (o:Al):Bool:=xs.any fun x=>jQ x o
theorem O9 {xs:List Al} {o:Al}:mJ xs o=true ↔ o ∈ xs:=by
 unfold mJ;rw [Uo];constructor
 ·rintro ⟨x,hx,e⟩; rw [← vF.1 e]; exact hx
 intro h; exact ⟨o,h,vF.2 rfl⟩
theorem Ml {xs:List Al} {o:Al} {k:Nat} (h:k < xs.length):mJ (xs.take (k + 1)) o=(mJ (xs.take k) o || jQ xs[k] o):=by
 rw [TV h];unfold mJ;rw [List.any_append];simp only [List.any_cons,List.any_nil,Bool.or_false]
theorem Pb {xs:List Al} {o:Al} {k:Nat} (h:k < xs.length) (he:jQ xs[k] o=true):mJ xs o=true:=Uo.2 ⟨xs[k],TQ h,he⟩
theorem Js (ad:Option Addr) (cap:Nat) (ts:List Al) (t:Al) (w:af) (hlen:ts.length≤1048576) (hs:jM w ad ts) :
  Calls prog 226 #[.slice ad ts.length cap,.agg #[.string t.t,.string t.s]] w fun e w'=>(∃ r:Int,e=.returned (.int .i64 r)∧decide (0≤r)=mJ ts t)∧ag w w':=by
 obtain ⟨W,hW⟩:∃ W,W=w.alloc (.cells #[.string t.t,.string t.s] 27):=⟨_,rfl⟩;have HB0:Hid (ag w W):=by show Below _ _ _; rw [hW]; exact (TT w.heap.size w).alloc (TS _) _
 have hz:w.heap.size < W.heap.size:=by rw [hW]; simp
 have b0:W.cell? ⟨w.heap.size,0,none⟩=some (.string t.t):=by rw [hW]; simp
 have b1:W.cell? ⟨w.heap.size,1,none⟩=some (.string t.s):=by rw [hW]; simp
 have HS:=az (hs.below HB0.out);clear hs;go_enter func226,ntmps226;go_wp2_with fail;rw [← hW];clear hW;go_loopw [8] (fun i wr=>∃ k:Nat,k≤ts.length∧i=.int .i64 k∧Hid (mJ (ts.take k) t=false)∧ag W wr) (fun i _=>ts.length - (intOf i).toNat);case atStart=>exact ⟨0,TW _,rfl,rfl,TT _ _⟩
 obtain ⟨k,hk,rfl,HP,hB⟩:=hrel;have a0:=bi hB hz b0;have a1:=bi hB hz b1;by_cases hlt:k < ts.length
 ·rcases HS.out.below hB with hnil | ⟨b,off,rfl,hb,hr⟩
  ·rw [hnil] at hlt; simp at hlt
  obtain ⟨t0,t1⟩:=hr k hlt;have hk1:=bB k;have hk2:(k:Int) < (ts.length:Int):=by omega
  clear hr;cases hq:jQ t ts[k];case true=>
   have HE:=O8 t ts[k] hq;have HN:Hid (mJ ts t=true):=Pb hlt (by rw [Dv]; exact hq);go_wp2_with fail;go_quiet (fail);go_wp2;go_ret;exact ⟨⟨_,rfl,by rw [HN.out]; simp⟩,HB0.out.trans (below_drewN (hB.mono HB0.out.size) _)⟩
  have HE:=O8 t ts[k] hq;have UI:Hid (mJ (ts.take (k + 1)) t=false):=by show _=_; rw [Ml hlt,HP.out,Dv,hq]; rfl
  go_wp2_with fail;go_quiet (fail);go_wp2;go_roundw;case rel=>exact ⟨k + 1,by omega,by go_num,UI,below_drewN hB _⟩
  simp [intOf] <;> omega
 obtain rfl:k=ts.length:=by omega
 have HN:Hid (mJ ts t=false):=by have:=HP.out; rw [Ug] at this; exact this
 go_wp2;go_ret;exact ⟨⟨-1,rfl,by rw [HN.out]; rfl⟩,HB0.out.trans (hB.mono HB0.out.size)⟩
theorem BP (ad:Option Addr) (cap:Nat) (ts:List Al) (t:Al) (w:af) (hlen:ts.length≤1048576) (hs:jM w ad ts) :
  Calls prog 198 #[.slice ad ts.length cap,.agg #[.string t.t,.string t.s]] w fun e w'=>e=.returned (.bool (mJ ts t))∧ag w w':=by
 have HB0:Hid (ag w (w.alloc (.cells #[.string t.t,.string t.s] 27))):=(TT w.heap.size w).alloc (TS _) _;have HS:=aD hs;clear hs;go_enter func198,ntmps198;go_wp2_with fail;refine (Js ad cap ts t _ hlen (HS.out.below HB0.out)).mono ?_;rintro e w1 ⟨⟨r,rfl,hr⟩,hb1⟩;have HR:=aD hr;have HB1:=aD (HB0.out.trans (hb1.mono HB0.out.size));clear hr hb1;go_wp2;go_ret;exact ⟨ah HR.out,HB1.out⟩
def aZ (xs:List Al) (o:Al):List Al:=if mJ xs o then xs else xs ++ [o]
theorem AV:∃ i,prog.info? 27=some i∧i.zero=some (.agg #[.string ⟨#[]⟩,.string ⟨#[]⟩])∧i.size=2∧i.bytes=32 :=
 info_parts (P:=prog) (e:=27) (z:=.agg #[.string ⟨#[]⟩,.string ⟨#[]⟩]) (size:=2) (bytes:=32) (by kernel_rfl)
theorem kE {w:af} {base:Nat} {v:Value} {xs:List Al} (h:w.ownsRow base 27 2 v xs.length (pairs xs)):∃ ad cap,v=.slice ad xs.length cap∧jM w ad xs:=by
 rcases h.2 with ⟨rfl,h0⟩ | ⟨g,cap,cur,rfl,hbg,hg,hnc,-⟩
 ·exact ⟨none,0,by rw [h0],.inl (Ui.1 h0)⟩
 refine ⟨_,cap,rfl,.inr ⟨g,0,rfl,(h.lt g rfl).2,fun i hi=>?_⟩⟩;obtain ⟨h0,h1⟩:=nH xs i hi;have hl:=lq xs;refine ⟨?_,?_⟩
 ·rw [h.cellAt (0 + i * 2) (by omega),Um]; exact h0
 rw [h.cellAt (0 + i * 2 + 1) (by omega),Um]; exact h1
theorem mE (B:Nat) (v:Value) (xs:List Al) (o:Al) (w:af) (hlen:xs.length≤1000) (hB:B≤w.heap.size) (hown:w.ownsRow B 27 2 v xs.length (pairs xs)) :
  Calls prog 143 #[v,.agg #[.string o.t,.string o.s]] w fun e w'=>∃ v',e=.returned v'∧w'.ownsRow B 27 2 v' (aZ xs o).length (pairs (aZ xs o))∧Aside w v w' v'∧∀ B',(∀ g,v.ownBlock=some g→B'≤g)→B'≤w.heap.size→Below B' w w':=by
 obtain ⟨iO,h0,h1,h2,h3⟩:=AV;have Yv:=aD (And.intro h0 (And.intro h1 (And.intro h2 h3)));obtain ⟨ad,cap,rfl,hsl⟩:=kE hown;obtain ⟨W,hW⟩:∃ W,W=w.alloc (.cells #[.string o.t,.string o.s] 27):=⟨_,rfl⟩;have HB0:Hid (ag w W):=by show Below _ _ _; rw [hW]; exact (TT w.heap.size w).alloc (TS _) _
 have hz:w.heap.size < W.heap.size:=by rw [hW]; simp
 have b0:W.cell? ⟨w.heap.size,0,none⟩=some (.string o.t):=by rw [hW]; simp
 have b1:W.cell? ⟨w.heap.size,1,none⟩=some (.string o.s):=by rw [hW]; simp
 have WQ:=aD hsl;have HO:=aD hown;clear hsl hown h0 h1 h2 h3;go_enter func143,ntmps143;go_wp2_with fail;rw [← hW];clear hW;refine (BP ad cap xs o _ (by omega) (WQ.out.below HB0.out)).mono ?_;rintro e w1 ⟨rfl,hb1⟩;have HB1:=aD (HB0.out.trans (hb1.mono HB0.out.size));have c0:=bi hb1 hz b0;have c1:=bi hb1 hz b1;have UV:=aD (cO HO.out HB1.out);have HA1:Hid (Aside w (.slice ad xs.length cap) w1 (.slice ad xs.length cap)):=Aside.below HB1.out;clear hb1 b0 b1;cases hh:mJ xs o;case true=>
  have HW:Hid (aZ xs o=xs):=by show _=_; unfold aZ; rw [hh]; rfl
  go_wp2;go_ret;exact ⟨_,rfl,by rw [HW.out]; exact UV.out,HA1.out,fun B' _ hB'=>HB1.out.mono hB'⟩
 have HW:Hid (aZ xs o=xs ++ [o]):=by show _=_; unfold aZ; rw [hh]; rfl
 obtain ⟨W2,hW2⟩:∃ W2,W2=w1.alloc (.cells #[.string o.t,.string o.s] 27):=⟨_,rfl⟩;have UB:Hid (W2.ownsRow B 27 2 (.slice ad xs.length cap) xs.length (pairs xs)):=by show World.ownsRow _ _ _ _ _ _ _; rw [hW2]; exact UV.out.alloc _
 have HA2:Hid (Aside w (.slice ad xs.length cap) W2 (.slice ad xs.length cap)):=by show Aside _ _ _ _; rw [hW2]; exact HA1.out.trans (Aside.below ((TT _ _).alloc (TS _) _))
 have YQ:Hid (ag w W2):=by show Below _ _ _; rw [hW2]; exact HB1.out.alloc HB1.out.size _
 have V9:Hid (∀ j u,[Value.string o.t,.string o.s][j]?=some u→W2.cell? ((⟨w1.heap.size,0,none⟩:Addr).add j)=some u):=fun j u hu=>by
  rw [hW2]
  match j,hu with
  | 0,hu=>simp at hu; subst hu; simp [Addr.add]
  | 1,hu=>simp at hu; subst hu; simp [Addr.add]
 have hsz2:B≤W2.heap.size:=by have:=HB1.out.size; rw [hW2]; simp; omega
 clear hh;go_wp2_with (at_builtin; rw [← hW2]; clear hW2; refine wpList_append_own_at _ rfl _ _ 49 rfl B 27 iO (.agg #[.string ⟨#[]⟩,.string ⟨#[]⟩]) 2 32 underlying49 Yv.out.1 Yv.out.2.1 Yv.out.2.2.1 Yv.out.2.2.2 rfl (by decide) _ xs.length (pairs xs) rfl UB.out ⟨w1.heap.size,0,none⟩ 1 1 [.string o.t,.string o.s] rfl rfl V9.out (by simp [Value.oneCell']) (by unfold maxLen; omega) (by omega) hsz2 ?_);intro v' w3 hown hgr _ hat;have HE:Hid (w3.ownsRow B 27 2 v' (aZ xs o).length (pairs (aZ xs o))):=by
  show World.ownsRow _ _ _ _ _ _ _;rw [HW.out,T9];have:pairs (xs ++ [o])=pairs xs ++ [.string o.t,.string o.s]:=by simp [pairs]
  rw [this]; exact hown
 have HA3:Hid (Aside w (.slice ad xs.length cap) w3 v'):=HA2.out.trans (Aside.app hgr hat);have Yo:Hid (∀ B',(∀ g,(Value.slice ad xs.length cap).ownBlock=some g→B'≤g)→B'≤w.heap.size→Below B' w w3):=fun B' hv hB'=>(YQ.out.mono hB').grown hgr (TZ hB' YQ.out.size) hv;clear hown hgr hat;go_wp2;go_ret;exact ⟨_,rfl,HE.out,HA3.out,Yo.out⟩
open Go.Maps
def aH (fs:List Fc):List Value:=fs.flatMap Fc.row
theorem lH:∀ fs:List Fc,(aH fs).length=fs.length * 5
 | []=>rfl
 | f::fs=>by have:=lH fs; simp only [aH,List.flatMap_cons,T9,List.length_cons,Fc.row,List.length_nil] at this ⊢; omega
theorem AX (fs:List Fc) (f:Fc):aH (fs ++ [f])=aH fs ++ f.row:=by simp [aH]
theorem qN:∀ (fs:List Fc) (i:Nat) (h:i < fs.length) (c:Nat),c < 5→(aH fs)[i * 5 + c]?=fs[i].row[c]?
 | [],i,h,_,_=>by simp at h
 | f::fs,0,_,c,hc=>by
  simp only [aH,List.flatMap_cons,Nat.zero_mul,Um,List.getElem_cons_zero];rw [List.getElem?_append_left (by simp [Fc.row]; omega)]
 | f::fs,i + 1,h,c,hc=>by
  have ih:=qN fs i (by simpa using h) c hc;simp only [aH,List.flatMap_cons,List.getElem_cons_succ] at ih ⊢;rw [List.getElem?_append_right (by simp [Fc.row]; omega)];have:(i + 1) * 5 + c - f.row.length=i * 5 + c:=by simp [Fc.row]; omega
  rw [this]; exact ih
theorem mZ {w:af} {base:Nat} {v:Value} {fs:List Fc} (h:w.ownsRow base 29 5 v fs.length (aH fs)):∃ ad cap,v=.slice ad fs.length cap∧BA w ad fs:=by
 rcases h.2 with ⟨rfl,h0⟩ | ⟨g,cap,cur,rfl,hbg,hg,hnc,-⟩
 ·exact ⟨none,0,by rw [h0],.inl (Ui.1 h0)⟩
 refine ⟨_,cap,rfl,.inr ⟨g,0,rfl,(h.lt g rfl).2,fun i hi=>?_⟩⟩;have hl:=lH fs;have hc:∀ c,c < 5→w.cell? ⟨g,0 + i * 5 + c,none⟩=fs[i].row[c]?:=fun c hc=>by
  rw [h.cellAt (0 + i * 5 + c) (by omega),Um]; exact qN fs i hi c hc
 exact ⟨hc 0 (by omega),hc 1 (by omega),hc 2 (by omega),hc 3 (by omega),hc 4 (by omega)⟩
theorem EN:∃ i,prog.info? 29=some i∧i.zero=some (.agg #[.string ⟨#[]⟩,.string ⟨#[]⟩,.string ⟨#[]⟩,.string ⟨#[]⟩,.string ⟨#[]⟩])∧i.size=5∧i.bytes=80 :=
 info_parts (P:=prog) (e:=29) (z:=.agg #[.string ⟨#[]⟩,.string ⟨#[]⟩,.string ⟨#[]⟩,.string ⟨#[]⟩,.string ⟨#[]⟩]) (size:=5) (bytes:=80) (by kernel_rfl)
theorem Kq (w:af) (f:Fc):∀ j u,f.row[j]?=some u→(w.alloc (.cells #[.string f.a,.string f.b,.string f.r,.string f.c,.string f.d] 29)).cell? ((⟨w.heap.size,0,none⟩:Addr).add j)=some u:=fun j u hu=>by
 match j,hu with
 | 0,hu=>simp [Fc.row] at hu; subst hu; simp [Addr.add]
 | 1,hu=>simp [Fc.row] at hu; subst hu; simp [Addr.add]
 | 2,hu=>simp [Fc.row] at hu; subst hu; simp [Addr.add]
 | 3,hu=>simp [Fc.row] at hu; subst hu; simp [Addr.add]
 | 4,hu=>simp [Fc.row] at hu; subst hu; simp [Addr.add]
structure OutI (w W wr:World) (v:Value) (out:List Fc):Prop where
 row:wr.ownsRow w.heap.size 29 5 v out.length (aH out)
 keep:∀ g o x,W.cell? ⟨g,o,none⟩=some x→wr.cell? ⟨g,o,none⟩=some x
 size:W.heap.size≤wr.heap.size
 bel:ag w wr
 free:∀ g,v.ownBlock=some g→∀ o,W.cell? ⟨g,o,none⟩=none
theorem aF {w:af} {g o:Nat} {x:Value} (h:w.cell? ⟨g,o,none⟩=some x):g < w.heap.size:=by
 unfold World.cell? at h;cases ho:w.heap[g]? with
 | none=>simp [ho] at h
 | some o=>exact (Array.getElem?_eq_some_iff.1 ho).1
theorem QI {w:af} {g o:Nat} (h:w.heap.size≤g):w.cell? ⟨g,o,none⟩=none:=by
 cases e:w.cell? ⟨g,o,none⟩ with
 | none=>rfl
 | some x=>have:=aF e; omega
theorem OutI.below {w W wr w':af} {v:Value} {out:List Fc} (h:OutI w W wr v out) (hb:ag wr w'):OutI w W w' v out where
 row:=cO h.row hb
 keep g o x hx:=(hb.cell (p:=⟨g,o,none⟩) (aF (h.keep g o x hx))).trans (h.keep g o x hx)
 size:=TZ h.size hb.size
 bel:=h.bel.trans (hb.mono h.bel.size)
 free:=h.free
theorem OutI.app {w W wr w':af} {v v':Value} {out:List Fc} {f:Fc} (h:OutI w W wr v out) (hown:w'.ownsRow w.heap.size 29 5 v' (out.length + 1) (aH out ++ f.row)) (hgr:wr.grownBy w' v.ownBlock) (hat:v'.ownBlock=v.ownBlock ∨ v'.ownBlock=some wr.heap.size):OutI w W w' v' (out ++ [f]) where
 row:=by rw [AX,T9]; exact hown
 keep g o x hx:=by
  have h1:=h.keep g o x hx;refine (Ul (w:=wr) (a:=⟨g,o,none⟩) (hgr.block g (aF h1) fun e=>?_)).trans h1;rw [h.free g e.symm o] at hx;cases hx
 size:=TZ h.size hgr.size
 bel:=h.bel.grown hgr h.bel.size (fun g hg=>(h.row.lt g hg).1)
 free g hg o:=by
  rcases hat with e | e
  ·rw [e] at hg; exact h.free g hg o
  rw [hg] at e; injection e with e; rw [e]; exact QI h.size
theorem jM.keepC {w w':af} {ad:Option Addr} {xs:List Al} (h:jM w ad xs) (hs:w.heap.size≤w'.heap.size) (hk:∀ g o x,w.cell? ⟨g,o,none⟩=some x→w'.cell? ⟨g,o,none⟩=some x):jM w' ad xs:=by
 rcases h with h | ⟨b,off,e,hb,hr⟩
 ·exact .inl h
 exact .inr ⟨b,off,e,TP hb hs,fun i hi=>⟨hk _ _ _ (hr i hi).1,hk _ _ _ (hr i hi).2⟩⟩
theorem Iz.keepC {w w':af} {ad:Option Addr} {xs:List St} (h:Iz w ad xs) (hs:w.heap.size≤w'.heap.size) (hk:∀ g o x,w.cell? ⟨g,o,none⟩=some x→w'.cell? ⟨g,o,none⟩=some x):Iz w' ad xs:=by
 rcases h with h | ⟨b,off,e,hb,hr⟩
 ·exact .inl h
 exact .inr ⟨b,off,e,TP hb hs,fun i hi=>⟨hk _ _ _ (hr i hi).1,hk _ _ _ (hr i hi).2.1,hk _ _ _ (hr i hi).2.2⟩⟩
theorem Iz.at0 {w:af} {ad:Option Addr} {xs:List St} (h:Iz w ad xs) {k:Nat} (hk:k < xs.length):∃ b off,ad=some ⟨b,off,none⟩∧SY w b (off + k * 3) xs[k]∧b < w.heap.size:=by
 rcases h with h | ⟨b',off',e,hb,hr⟩
 ·rw [h] at hk; simp at hk
 exact ⟨b',off',e,hr k hk,hb⟩
def Su:Value→Nat
 | .slice _ n _=>n
 | _=>0
def TG:Value→Nat
 | .bool true=>1
 | _=>0
def Fc.fits (t:Fc):Prop:=t.a.size≤maxLen∧t.b.size≤maxLen∧t.r.size≤maxLen∧t.c.size≤maxLen∧t.d.size≤maxLen
def om (k:Fc):Value:=.agg #[.string k.a,.string k.b,.string k.r,.string k.c,.string k.d]
theorem Pd (x y:Fc) (h:om x=om y):x=y:=by
 unfold om at h;injection h with h;have h1:=congrArg Array.toList h;simp at h1;obtain ⟨xa,xb,xr,xc,xd⟩:=x;obtain ⟨ya,yb,yr,yc,yd⟩:=y;simp only at h1;obtain ⟨rfl,rfl,rfl,rfl,rfl⟩:=h1;rfl
theorem Pe:laidOutB prog=true:=by kernel_rfl
theorem Sv:(29:TypeId) < prog.types.size:=of_decide_eq_true (by kernel_rfl)
theorem QJ:(match prog.underlying 29 with | some (.array _ _) | some (.struct _)=>true | _=>false)=true:=by rw [underlying29]
set_option maxRecDepth 100000 in
theorem QK:WideMaps.KeyLaw prog 29:=deep_law_laid Pe (m:=3) (by omega) Sv (by kernel_rfl) QJ
theorem Pf:Keyed prog 29:=Keyed.of_law QK
theorem QL:prog.keyType 29=true:=by kernel_rfl
theorem Gw:prog.cellsOf 29=5:=by kernel_rfl
theorem Mm:prog.cellsOf 27=2:=by kernel_rfl
theorem Mo:prog.cellsOf 9=1:=by kernel_rfl
theorem Mq:2≤prog.types.size:=of_decide_eq_true (by kernel_rfl)
theorem Jt:∃ n,prog.types.size=n + 2:=⟨prog.types.size - 2,by have:=Mq; omega⟩
set_option maxRecDepth 100000 in
theorem Gx (k:Fc) (h:k.fits):∃ kl,keyOf prog 29 (om k)=some kl:=by
 obtain ⟨n,hn⟩:=Jt;obtain ⟨h0,h1,h2,h3,h4⟩:=h;refine ⟨.string (keyBytes [.string k.a.data.toList,.string k.b.data.toList,.string k.r.data.toList,.string k.c.data.toList,.string k.d.data.toList]),?_⟩;unfold keyOf;rw [underlying29];simp only [QL,om,Value.formed,underlying29,Gw,hn,Value.cells];simp +decide [Program.keyLits,underlying29,underlying27,underlying9,Gw,Mm,Mo,h0,h1,h2,h3,h4]
theorem Pg (w:af):(zeroValue 113).run prog w=.ok (.agg #[]) w:=by kernel_rfl
theorem Gy (b n:Nat) (M:Fc→Option Value) (f:Fc) (w:af) (hf:f.fits) (hV:aM om prog 29 w b n M) (hM:∀ v,M f=some v→v=.agg #[]) :
  Calls prog 65 #[.map (some b),.agg #[.string f.a,.string f.b,.string f.r,.string f.c,.string f.d]] w fun e w'=>e=.returned (.bool (M f).isSome)∧ag w w':=by
 obtain ⟨kl,hkl⟩:=Gx f hf;have Vo:Hid (keyOf prog 29 (om f)=some kl):=hkl;have HM:Hid ((M f).getD (.agg #[])=.agg #[]):=by
  show _=_;cases e:M f with
  | none=>rfl
  | some v=>exact hM v e
 obtain ⟨W,hW⟩:∃ W,W=w.alloc (.cells #[.string f.a,.string f.b,.string f.r,.string f.c,.string f.d] 29):=⟨_,rfl⟩;have HB:=qZ hW;have HV:=az (hV.below HB.out);have HB2:Hid (ag w (W.alloc (.cells #[] 113))):=HB.out.alloc HB.out.size _;clear hkl hV hM;go_enter func65,ntmps65;go_wp2_with (at_lookup; rw [← hW]; clear hW; refine bZ _ rfl _ _ 107 rfl 29 113 Pf underlying107 (Pg _) b n M rfl HV.out f kl rfl Vo.out ?_; rw [HM.out]);go_ret;exact ⟨rfl,HB2.out⟩
end Go.Proofs.YtajkkeikihhejaaGreat
