/- A range over an iterator whose rounds all go on, where what the iterator hands on leans on what the rounds have written so far. -/
import Derived.RangeFuncNested
import Derived.Test.YtdaoiceeidoehaaGreatJ20
open Go.Proofs.Tryz
set_option maxHeartbeats 80000000
namespace Go.Proofs.YtdaoiceeidoehaaGreat
set_option linter.unusedVariables false
open Go.RowKit
def wZ {α:Type} (F:Fence) (n:Nat) (P:Program) (g:Nat) (lb:Array Value) (encs:α→Array Value) (Kp:Nat→World→World→Prop) (Q:List α→World→Prop) (E:List α→α→Prop) (S:List α→Prop) (w:World):Prop :=
 ∀ (l:Nat) (J:List α→World→Prop) (W:World),Below w.heap.size w W→l < W.heap.size→w.heap.size≤l→OwnFrom W.heap.size J→(∀ pre W1,J pre W1→Q pre W1) →
  (∀ pre x W1,J pre W1→E pre x→YieldAt F (n - 1) P l (encs x) W1 fun e W'=>e=.returned (.bool true)∧J (pre ++ [x]) W'∧Kp l W1 W') →
  J [] W →
  CallsIn F n P g (#[.func (.yield l) #[] #[]] ++ lb) W fun e W'=>(∃ v,e=.returned v)∧∃ xs,S xs∧J xs W'
def Nb (B:Nat) (R:World→Prop) (W:World):Exit→Act→World→Prop
 | .normal,_,W'=>KeepsFrom B W W'∧R W'
 | _,_,_=>False
theorem Jh {β:Type} {B k:Nat} {o:Obj} (hk:k < B):OwnFrom B (fun (_:β) W=>W.heap[k]?=some o):=fun _ X Y row hs hg hr=>(hg.block k (Array.getElem?_eq_some_iff.1 hs).1 fun e=>by have:=(hr k e.symm).1; omega).trans hs
theorem Qt {β:Type} {B B':Nat} {I:β→World→Prop} (h:OwnFrom B I) (hB:B≤B'):OwnFrom B' I:=fun s X Y row hs hg hr=>h s X Y row hs hg fun r e=>⟨Sb hB (hr r e).1,(hr r e).2⟩
theorem kL {α:Type} {F:Fence} {n:Nat} {P:Program} {g:Operand} {ps:Array Tmp} {assign body:Code} {Q:Exit→Act→World→Prop} {a:Act} {w:World} (hro:F.round=none) (h1:1≤n) {gf:Nat} {lb:Array Value} (hg:a.eval g=.func (.func gf) #[] lb) (hFg:F.fn gf) (eg:∀ args w,(callFunc gf args).run P w=.ok (.enter gf args) w)
  {encs:α→Array Value} {Kp:Nat→World→World→Prop} {Tell:List α→World→Prop} {E:List α→α→Prop} {S:List α→Prop} {w0:World} (hseq:wZ F (n - 1) P gf lb encs Kp Tell E S w0) (hb0:Below w0.heap.size w0 w) (hps:∀ x,(encs x).size=ps.size)
  (hKt:∀ {l:Nat} {X Y Z:World},Kp l X Y→Kp l Y Z→Kp l X Z) (hKb:∀ (W:World) (l:Nat) (o o':Obj),W.heap[l]?=some o→o.isCells=false→Kp l W (W.putObj l o'))
  (I:List α→World→Prop) (hI:OwnFrom w.heap.size I) (hT:∀ pre W,I pre W→Tell pre W) (h0:I [] w)
  (Ax:α→Act→World→Prop) (hAx:∀ x a',OwnFrom w.heap.size (fun (_:Unit) W=>Ax x a' W))
  (hassign:∀ (l:Nat) (pre:List α) (x:α) (W:World) (K:Act→World→Prop),I pre W→(∀ a' W',KeepsFrom w.heap.size W W'→Kp l W W'→I pre W'→Ax x a' W'→K a' W') →
   assign.wpIn (F.inRound l) (n - 1 - 1) P (Exit.then K (fun _ _ _=>False)) { tmps:=(ps.zip (encs x)).foldl (fun t (p,v)=>t.setIfInBounds p v) a.tmps,defers:=[] } W)
  (hbody:∀ (l:Nat) (pre:List α) (x:α) (a':Act) (W:World),w.heap.size≤l→E pre x→I pre W→Ax x a' W→body.wpIn (F.inRound l) (n - 1 - 1) P (Nb w.heap.size (fun W'=>Kp l W W'∧I (pre ++ [x]) W') W) a' W)
  (hdone:∀ (D:Nat) (xs:List α) (W:World),w.heap.size≤D→S xs→I xs W→W.heap[D]?=some (.deferred (some []))→Q .normal { a with defers:={ target:=.collected D,args:=#[] }::a.defers } W) :
  (Code.rangeFunc g ps assign body).wpIn F n P Q a w:=by
 refine wpIn_rangeFunc fun fn hfn=>?_;rw [hro];obtain ⟨rc,hrc⟩:∃ rc:LoopState→Loop,rc=fun st=>{ state:=st,pending:=none,fn,tmps:=a.tmps,params:=ps,assign,body,defers:=w.heap.size }:=⟨_,rfl⟩;obtain ⟨W0,hW0⟩:∃ W0,W0=w.alloc (.deferred (some [])):=⟨_,rfl⟩;have s0:W0.heap.size=w.heap.size + 1:=by rw [hW0]; simp
 obtain ⟨W1,hW1⟩:∃ W1,W1=W0.alloc (.loop (rc .ready)):=⟨_,rfl⟩;have s1:W1.heap.size=w.heap.size + 2:=by rw [hW1]; simp; omega
 have k0:W0.heap[w.heap.size]?=some (.deferred (some [])):=by rw [hW0]; exact World.alloc_heap_new w _
 have k1:W1.heap[w.heap.size]?=some (.deferred (some [])):=by rw [hW1]; exact (Below.heap_alloc _ _ _ (by omega)).trans k0
 have r1:W1.heap[w.heap.size + 1]?=some (.loop (rc .ready)):=by rw [hW1,← s0]; exact World.alloc_heap_new W0 _
 have i1:I [] W1:=by rw [hW1,hW0]; exact hI.alloc _ (hI.alloc _ h0)
 have b1:Below w.heap.size w W1:=by rw [hW1,hW0]; exact ((R3 _ w).alloc (R4 _) _).alloc (by simp) _
 have bb:Below w0.heap.size w0 W1:=hb0.trans (b1.mono hb0.size);refine ⟨w.heap.size + 1,[{ target:=.collected w.heap.size,args:=#[] }],W1,{ target:=.fn (.func gf) lb,args:=#[.func (.yield (w.heap.size + 1)) #[] #[]] },W1,gf,#[.func (.yield (w.heap.size + 1)) #[] #[]] ++ lb,W1,?_,?_,?_,?_,fun _=>h1,?_⟩
 ·rw [hW1,hW0,hrc]; exact run_enterLoop_outer _ _ _ _ _
 ·simp only [resolve,hg];simp [go_sem]
 ·intro f hf; simp [Target.leads] at hf; subst hf; exact hFg
 ·simp [invoke,go_sem,eg]
 have hJ:OwnFrom W1.heap.size (fun pre W=>I pre W∧W.heap[w.heap.size + 1]?=some (.loop (rc .ready))∧W.heap[w.heap.size]?=some (.deferred (some []))) :=
  (Qt hI (by omega)).and ((Jh (by omega)).and (Jh (by omega)))
 refine (hseq (w.heap.size + 1) _ W1 bb (by omega) (by have:=hb0.size; omega) hJ (fun pre W h=>hT pre W h.1) ?_ ⟨i1,r1,k1⟩).mono ?_
 ·rintro pre x W ⟨hi,hl,hk⟩ hEx;have hy:=run_yield (P:=P) (args:=encs x) hl (by rw [hrc]; exact hps x);rw [hrc] at hy;refine ⟨fn,_,assign,body,hy,roundIn_of_wpIn hfn (hassign _ pre x W _ hi ?_)⟩;clear hy;intro a' Wa hka hkp hia hax;have hla:=hka.same _ _ (by omega) hl rfl;have hda:=hka.same _ _ (R4 _) hk rfl;have hlt:w.heap.size + 1 < Wa.heap.size:=(Array.getElem?_eq_some_iff.1 hla).1;refine ⟨_,run_beginRound hla (by rw [hrc]),?_⟩;obtain ⟨Wb,hWb⟩:∃ Wb,Wb=Wa.putObj (w.heap.size + 1) (.loop { rc .ready with state:=.busy }):=⟨_,rfl⟩;rw [← hWb];have lb2:Wb.heap[w.heap.size + 1]?=some (.loop { rc .ready with state:=.busy }):=by rw [hWb]; exact World.putObj_heap_same hlt
  have db2:Wb.heap[w.heap.size]?=some (.deferred (some [])):=by rw [hWb]; exact (World.putObj_heap_other (by omega)).trans hda
  have kb2:Kp (w.heap.size + 1) Wa Wb:=by rw [hWb]; exact hKb _ _ _ _ hla rfl
  have ib2:I pre Wb:=by rw [hWb]; exact hI.putObj _ hia (by omega) hla rfl
  have ab2:Ax x a' Wb:=by rw [hWb]; exact (hAx x a').putObj (s:=()) _ hax (by omega) hla rfl
  refine wpIn_mono (hbody _ pre x a' _ (by omega) hEx ib2 ab2) ?_;intro e a3 W3 hp;cases e with
  | normal =>
   obtain ⟨hk3,hkp3,hi3⟩:=hp;have hl3:=hk3.same _ _ (by omega) lb2 rfl;have hd3:=hk3.same _ _ (R4 _) db2 rfl;have hend:=run_endRound (P:=P) none hl3;rw [hrc] at hend;refine ⟨_,_,hend,rfl,⟨hI.putObj _ hi3 (by omega) hl3 rfl,?_,(World.putObj_heap_other (by omega)).trans hd3⟩,hKt hkp (hKt (hKt kb2 hkp3) (hKb _ _ _ _ hl3 rfl))⟩;rw [hrc];exact World.putObj_heap_same (Array.getElem?_eq_some_iff.1 hl3).1
  | ret=>exact hp.elim
  | exit id=>exact hp.elim
  | goto t=>exact hp.elim
  | panic ch=>exact hp.elim
  | outgrown=>exact hp.elim
 ·rintro e W2 ⟨⟨v,rfl⟩,xs,hS,hi,hl,hk⟩;have hend:=run_endLoop (P:=P) hl (by rw [hrc]; simp);rw [hrc] at hend;exact ⟨none,_,hend,hdone _ xs _ (R4 _) hS (hI.putObj _ hi (by omega) hl rfl) ((World.putObj_heap_other (by omega)).trans hk)⟩
structure KpO (b l:Nat) (W W':World):Prop where
 size:W.heap.size≤W'.heap.size
 cells:∀ (g:Nat) (cs:Array Value) (T:TypeId) (m:Nat × Nat),W.heap[g]?=some (.cells cs T m)→T ≠ 42→T ≠ 38→W'.heap[g]?=some (.cells cs T m)
 other:∀ (g:Nat) (o:Obj),W.heap[g]?=some o→o.isCells=false→g ≠ l→g ≠ b→W'.heap[g]?=some o
structure KpI (W W':World):Prop where
 size:W.heap.size≤W'.heap.size
 cells:∀ (g:Nat) (cs:Array Value) (T:TypeId) (m:Nat × Nat),W.heap[g]?=some (.cells cs T m)→T=40 ∨ T=152→W'.heap[g]?=some (.cells cs T m)
theorem KpO.trans {b l:Nat} {X Y Z:World} (h:KpO b l X Y) (k:KpO b l Y Z):KpO b l X Z :=
 ⟨Sb h.size k.size,fun g cs T m hg h1 h2=>k.cells g cs T m (h.cells g cs T m hg h1 h2) h1 h2,fun g o hg hc h1 h2=>k.other g o (h.other g o hg hc h1 h2) hc h1 h2⟩
theorem KpI.trans {X Y Z:World} (h:KpI X Y) (k:KpI Y Z):KpI X Z :=
 ⟨Sb h.size k.size,fun g cs T m hg h1=>k.cells g cs T m (h.cells g cs T m hg h1) h1⟩
theorem ko {W:World} {l g:Nat} {o':Obj} (h:g ≠ l):(W.putObj l o').heap[g]?=W.heap[g]?:=World.putObj_heap_other h
theorem KpO.put {b l:Nat} {W:World} {o o':Obj} (h:W.heap[l]?=some o) (hc:o.isCells=false):KpO b l W (W.putObj l o') where
 size:=by simp
 cells g cs T m hg _ _:=by
  have:g ≠ l:=fun e=>by subst e; rw [h] at hg; injection hg with hg; subst hg; cases hc
  rw [ko this]; exact hg
 other g x hg _ h1 _:=by rw [ko h1]; exact hg
theorem KpI.put {l:Nat} {W:World} {o o':Obj} (h:W.heap[l]?=some o) (hc:o.isCells=false):KpI W (W.putObj l o') where
 size:=by simp
 cells g cs T m hg _:=by
  have:g ≠ l:=fun e=>by subst e; rw [h] at hg; injection hg with hg; subst hg; cases hc
  rw [ko this]; exact hg
theorem KpO.below {b l:Nat} {W W':World} (h:Below W.heap.size W W'):KpO b l W W' :=
 ⟨h.size,fun g cs T m hg _ _=>(h.block g (Array.getElem?_eq_some_iff.1 hg).1).trans hg,fun g o hg _ _ _=>(h.block g (Array.getElem?_eq_some_iff.1 hg).1).trans hg⟩
theorem KpI.below {W W':World} (h:Below W.heap.size W W'):KpI W W' :=
 ⟨h.size,fun g cs T m hg _=>(h.block g (Array.getElem?_eq_some_iff.1 hg).1).trans hg⟩
theorem KpO.toI {b l:Nat} {W W':World} (h:KpO b l W W'):KpI W W' :=
 ⟨h.size,fun g cs T m hg hT=>h.cells g cs T m hg (by rcases hT with e | e <;> (rw [e]; decide)) (by rcases hT with e | e <;> (rw [e]; decide))⟩
theorem yO {W W':World} (h:Below W.heap.size W W'):W.grownBy W' none:=⟨h.os,h.tape,h.output,h.size,fun k hk _=>h.block k hk⟩
theorem kW {β:Type} {B:Nat} {I:β→World→Prop} (h:OwnFrom B I) {s:β} {W W':World} (hs:I s W) (hb:Below W.heap.size W W'):I s W':=h s W W' none hs (yO hb) (fun r e=>by cases e)
open Go.ChangeAt Go.ChangeShapes Go.Maps Go.WideShapes
def Fc.fits (t:Fc):Prop:=t.a.size≤maxLen∧t.b.size≤maxLen∧t.r.size≤maxLen∧t.c.size≤maxLen∧t.d.size≤maxLen
def dH (k:Fc):Value:=.agg #[.string k.a,.string k.b,.string k.r,.string k.c,.string k.d]
theorem lY (x y:Fc) (h:dH x=dH y):x=y:=by
 unfold dH at h;injection h with h;have h1:=congrArg Array.toList h;simp at h1;obtain ⟨xa,xb,xr,xc,xd⟩:=x;obtain ⟨ya,yb,yr,yc,yd⟩:=y;simp only at h1;obtain ⟨rfl,rfl,rfl,rfl,rfl⟩:=h1;rfl
theorem Nc:laidOutB prog=true:=by kernel_rfl
theorem Qu:(42:TypeId) < prog.types.size:=of_decide_eq_true (by kernel_rfl)
theorem Pb:(match prog.underlying 42 with | some (.array _ _) | some (.struct _)=>true | _=>false)=true:=by rw [underlying42]
set_option maxRecDepth 100000 in
theorem Ji:WideMaps.KeyLaw prog 42:=deep_law_laid Nc (m:=3) (by omega) Qu (by kernel_rfl) Pb
theorem mR:Keyed prog 42:=Keyed.of_law Ji
theorem Pd:prog.keyType 42=true:=by kernel_rfl
theorem EW:prog.cellsOf 42=5:=by kernel_rfl
theorem Kk:prog.cellsOf 40=2:=by kernel_rfl
theorem Kl:prog.cellsOf 9=1:=by kernel_rfl
theorem Km:2≤prog.types.size:=of_decide_eq_true (by kernel_rfl)
theorem Hr:∃ n,prog.types.size=n + 2:=⟨prog.types.size - 2,by have:=Km; omega⟩
set_option maxRecDepth 100000 in
theorem kM (k:Fc) (h:k.fits):∃ kl,keyOf prog 42 (dH k)=some kl:=by
 obtain ⟨n,hn⟩:=Hr;obtain ⟨h0,h1,h2,h3,h4⟩:=h;refine ⟨.string (keyBytes [.string k.a.data.toList,.string k.b.data.toList,.string k.r.data.toList,.string k.c.data.toList,.string k.d.data.toList]),?_⟩;unfold keyOf;rw [underlying42];simp only [Pd,dH,Value.formed,underlying42,EW,hn,Value.cells];simp +decide [Program.keyLits,underlying42,underlying40,underlying9,EW,Kk,Kl,h0,h1,h2,h3,h4]
theorem Nf (w:World):(zeroValue 90).run prog w=.ok (.agg #[]) w:=by kernel_rfl
theorem EX (b n:Nat) (M:Fc→Option Value) (f:Fc) (w:World) (hf:f.fits) (hV:aD dH prog 42 w b n M) (hM:∀ v,M f=some v→v=.agg #[]) :
  Calls prog 41 #[.map (some b),.agg #[.string f.a,.string f.b,.string f.r,.string f.c,.string f.d]] w fun e w'=>e=.returned (.bool (M f).isSome)∧Below w.heap.size w w':=by
 obtain ⟨kl,hkl⟩:=kM f hf;have Ur:Hid (keyOf prog 42 (dH f)=some kl):=hkl;have HM:Hid ((M f).getD (.agg #[])=.agg #[]):=by
  show _=_;cases e:M f with
  | none=>rfl
  | some v=>exact hM v e
 obtain ⟨W,hW⟩:∃ W,W=w.alloc (.cells #[.string f.a,.string f.b,.string f.r,.string f.c,.string f.d] 42):=⟨_,rfl⟩;have HB:=pu hW;have HV:=aC (hV.below HB.out);have HB2:Hid (Below w.heap.size w (W.alloc (.cells #[] 90))):=HB.out.alloc HB.out.size _;clear hkl hV hM;go_enter func41,ntmps41;go_wp2_with (at_lookup; rw [← hW]; clear hW; refine bW _ rfl _ _ 84 rfl 42 90 mR underlying84 (Nf _) b n M rfl HV.out f kl rfl Ur.out ?_; rw [HM.out]);go_ret;exact ⟨rfl,HB2.out⟩
open Pl
set_option maxRecDepth 8000 in
theorem lZ (ad:Option Addr) (cap:Nat) (ts:List Fc) (t:Fc) (w:World) (hlen:ts.length≤1048576) (hs:gX w ad ts) :
  Calls prog 61 #[.slice ad ts.length cap,.agg #[.string t.a,.string t.b,.string t.r,.string t.c,.string t.d]] w fun e w'=>e=.returned (.bool (aO ts t))∧Below w.heap.size w w':=by
 have HS:=aC hs;clear hs;obtain ⟨W0,hW0⟩:∃ W0,W0=w.alloc (.cells #[.string t.a,.string t.b,.string t.r,.string t.c,.string t.d] 42):=⟨_,rfl⟩;have HB0:=pu hW0;have HX0:Hid (W0.cell? ⟨w.heap.size,0,none⟩=some (.string t.a)∧W0.cell? ⟨w.heap.size,1,none⟩=some (.string t.b)∧W0.cell? ⟨w.heap.size,2,none⟩=some (.string t.r)∧W0.cell? ⟨w.heap.size,3,none⟩=some (.string t.c)∧W0.cell? ⟨w.heap.size,4,none⟩=some (.string t.d)∧w.heap.size < W0.heap.size):=by show _∧_; rw [hW0]; refine ⟨?_,?_,?_,?_,?_,?_⟩ <;> simp
 go_enter func61,ntmps61;go_wp2;rw [← hW0];clear hW0;go_loopw [5] (fun i wr=>∃ k:Nat,k≤ts.length∧i=.int .i64 k∧Hid (aO (ts.drop k) t=aO ts t)∧Hid (Below W0.heap.size W0 wr)) (fun i _=>ts.length - (intOf i).toNat);case atStart=>exact ⟨0,R6 _,rfl,rfl,R3 _ _⟩
 case round =>
  obtain ⟨k,hk,rfl,HP,HB⟩:=hrel;have S9:Hid (Below w.heap.size w wr):=HB0.out.trans (HB.out.mono HB0.out.size);by_cases hlt:k < ts.length
  ·rcases HS.out.below S9.out with hnil | ⟨b,off,rfl,hb,hr⟩
   ·rw [hnil] at hlt; simp at hlt
   obtain ⟨t0,t1,t2,t3,t4⟩:=hr k hlt;have x0:=mK HB.out HX0.out.2.2.2.2.2 HX0.out.1;have x1:=mK HB.out HX0.out.2.2.2.2.2 HX0.out.2.1;have x2:=mK HB.out HX0.out.2.2.2.2.2 HX0.out.2.2.1;have x3:=mK HB.out HX0.out.2.2.2.2.2 HX0.out.2.2.2.1;have x4:=mK HB.out HX0.out.2.2.2.2.2 HX0.out.2.2.2.2.1;have hk1:=bn k;have hk2:(k:Int) < (ts.length:Int):=by omega
   have HD:Hid (aO ts t=(rq ts[k] t || aO (ts.drop (k + 1)) t)):=by show _=_; rw [← HP.out]; exact Bn hlt
   clear hr;cases hq:rq ts[k] t with
   | true =>
    have heq:=ut ts[k] t hq;have HN:Hid (aO ts t=true):=by show _=_; rw [HD.out,hq]; rfl
    clear hq;go_wp2_with fail;go_region_held3 (fun w'=>w'.cell? ⟨b,off + k * 5,none⟩=some (.string ts[k].a)∧w'.cell? ⟨b,off + k * 5 + 1,none⟩=some (.string ts[k].b)∧w'.cell? ⟨b,off + k * 5 + 2,none⟩=some (.string ts[k].r)∧w'.cell? ⟨b,off + k * 5 + 3,none⟩=some (.string ts[k].c)∧w'.cell? ⟨b,off + k * 5 + 4,none⟩=some (.string ts[k].d)∧w'.cell? ⟨w.heap.size,0,none⟩=some (.string t.a)∧w'.cell? ⟨w.heap.size,1,none⟩=some (.string t.b)∧w'.cell? ⟨w.heap.size,2,none⟩=some (.string t.r)∧w'.cell? ⟨w.heap.size,3,none⟩=some (.string t.c)∧w'.cell? ⟨w.heap.size,4,none⟩=some (.string t.d)∧Below wr.heap.size wr w') (first | assumption | exact ⟨t0,t1,t2,t3,t4,x0,x1,x2,x3,x4,(R3 _ _).drew⟩) (fail);rename_i hH;have HG:Hid (Below wr.heap.size wr _):=hH.2.2.2.2.2.2.2.2.2.2;clear hH t0 t1 t2 t3 t4 x0 x1 x2 x3 x4 heq;go_wp2;go_ret;exact ⟨by rw [HN.out]; rfl,S9.out.trans (HG.out.mono S9.out.size)⟩
   | false =>
    have heq:=ut ts[k] t hq;have Td:Hid (aO (ts.drop (k + 1)) t=aO ts t):=by show _=_; rw [HD.out,hq]; rfl
    clear hq;go_wp2_with fail;go_region_held3 (fun w'=>w'.cell? ⟨b,off + k * 5,none⟩=some (.string ts[k].a)∧w'.cell? ⟨b,off + k * 5 + 1,none⟩=some (.string ts[k].b)∧w'.cell? ⟨b,off + k * 5 + 2,none⟩=some (.string ts[k].r)∧w'.cell? ⟨b,off + k * 5 + 3,none⟩=some (.string ts[k].c)∧w'.cell? ⟨b,off + k * 5 + 4,none⟩=some (.string ts[k].d)∧w'.cell? ⟨w.heap.size,0,none⟩=some (.string t.a)∧w'.cell? ⟨w.heap.size,1,none⟩=some (.string t.b)∧w'.cell? ⟨w.heap.size,2,none⟩=some (.string t.r)∧w'.cell? ⟨w.heap.size,3,none⟩=some (.string t.c)∧w'.cell? ⟨w.heap.size,4,none⟩=some (.string t.d)∧Below wr.heap.size wr w') (first | assumption | exact ⟨t0,t1,t2,t3,t4,x0,x1,x2,x3,x4,(R3 _ _).drew⟩) (fail);rename_i hH;have HG:Hid (Below W0.heap.size W0 _):=HB.out.trans (hH.2.2.2.2.2.2.2.2.2.2.mono HB.out.size);clear hH t0 t1 t2 t3 t4 x0 x1 x2 x3 x4 heq;go_wp2;go_roundw;case rel=>exact ⟨k + 1,by omega,by go_num,Td,HG⟩
    case measure=>simp [intOf] <;> omega
  ·have HN:Hid (aO ts t=false):=by show _=_; rw [← HP.out,List.drop_of_length_le (by omega)]; rfl
   go_wp2;go_ret;exact ⟨by rw [HN.out]; rfl,S9.out⟩
theorem ag {p:Prop} (h:p):Hid p:=h
structure HW (w:World) (UR:Option Addr) (ts:List Tp) (SN:Option Addr) (rows:List ER) (adK:Option Addr) (known:List Fc) (TE:Option Addr) (truth:List Fc):Prop where
 tup:Sl w UR ts
 ex:eX w SN rows
 kn:gX w adK known
 tr:gX w TE truth
theorem HW.below {w w':World} {UR:Option Addr} {ts:List Tp} {SN:Option Addr} {rows:List ER} {adK:Option Addr} {known:List Fc} {TE:Option Addr} {truth:List Fc} (h:HW w UR ts SN rows adK known TE truth) (hB:Below w.heap.size w w'):HW w' UR ts SN rows adK known TE truth :=
 ⟨h.tup.below hB,h.ex.below hB,h.kn.below hB,h.tr.below hB⟩
def sI (a b c d:ByteArray):Bool:=a.toList == c.toList && b.toList == d.toList
theorem dS (a b c d:ByteArray) {v:Bool} (h:sI a b c d=v) (w:World) :
  (binOp .eql 40 (.agg #[.string a,.string b]) (.agg #[.string c,.string d])).run prog w=.ok (.bool v) w:=by
 subst h;go_simp;unfold sI
 (repeat' split) <;> simp_all
theorem EY (a b c d:ByteArray) {v:Bool} (h:sI a b c d=v) (w:World) :
  (binOp .neq 40 (.agg #[.string a,.string b]) (.agg #[.string c,.string d])).run prog w=.ok (.bool (!v)) w:=by
 subst h;go_simp;unfold sI
 (repeat' split) <;> simp_all
theorem eX.at0 {w:World} {ad:Option Addr} {rs:List ER} (h:eX w ad rs) {k:Nat} (hk:k < rs.length):∃ b off,ad=some ⟨b,off,none⟩∧sP w b (off + k * 5) rs[k]∧b < w.heap.size∧rs[k].ok w:=by
 rcases h with h | ⟨b',off',e,hb,hr,hok⟩
 ·rw [h] at hk; simp at hk
 ·exact ⟨b',off',e,hr k hk,hb,hok _ (RY hk)⟩
theorem Sl.at0 {w:World} {ad:Option Addr} {ts:List Tp} (h:Sl w ad ts) {k:Nat} (hk:k < ts.length):∃ b off,ad=some ⟨b,off,none⟩∧Md w b (off + k * 6) ts[k]∧b < w.heap.size:=by
 rcases h with h | ⟨b',off',e,hb,hr⟩
 ·rw [h] at hk; simp at hk
 ·exact ⟨b',off',e,hr k hk,hb⟩
theorem lF.at0 {w:World} {ad:Option Addr} {zs:List Int} (h:lF w ad zs) {k:Nat} (hk:k < zs.length):∃ b off,ad=some ⟨b,off,none⟩∧w.cell? ⟨b,off + k,none⟩=some (.int .i64 zs[k])∧b < w.heap.size:=by
 rcases h with h | ⟨b',off',e,hb,hr⟩
 ·rw [h] at hk; simp at hk
 ·exact ⟨b',off',e,hr k hk,hb⟩
def rT (w:World) (f:Fc) (x:ER):World:=(w.alloc (.cells #[.string f.a,.string f.b,.string f.r,.string f.c,.string f.d] 42)).alloc (.cells #[.int .i64 x.e.kind,.slice x.adA x.e.allow.length x.capA,.string x.e.over,.string x.e.name,.slice x.adK x.e.kids.length x.capK] 166)
theorem dN (w:World) (f:Fc) (x:ER):Below w.heap.size w (rT w f x):=by
 unfold rT;exact ((R3 _ _).alloc (R4 _) _).alloc (by simp) _
structure EnB (w:World) (B:Nat) (f:Fc) (x:ER):Prop where
 lt:B + 1 < w.heap.size
 f0:w.cell? ⟨B,0,none⟩=some (.string f.a)
 f1:w.cell? ⟨B,1,none⟩=some (.string f.b)
 f2:w.cell? ⟨B,2,none⟩=some (.string f.r)
 f3:w.cell? ⟨B,3,none⟩=some (.string f.c)
 f4:w.cell? ⟨B,4,none⟩=some (.string f.d)
 x0:w.cell? ⟨B + 1,0,none⟩=some (.int .i64 x.e.kind)
 x1:w.cell? ⟨B + 1,1,none⟩=some (.slice x.adA x.e.allow.length x.capA)
 x2:w.cell? ⟨B + 1,2,none⟩=some (.string x.e.over)
 x3:w.cell? ⟨B + 1,3,none⟩=some (.string x.e.name)
 x4:w.cell? ⟨B + 1,4,none⟩=some (.slice x.adK x.e.kids.length x.capK)
theorem EnB.below {w w':World} {B:Nat} {f:Fc} {x:ER} (h:EnB w B f x) (hB:Below w.heap.size w w'):EnB w' B f x:=by
 have h0:B < w.heap.size:=by have:=h.lt; omega
 have c0:∀ o,w'.cell? ⟨B,o,none⟩=w.cell? ⟨B,o,none⟩:=fun o=>hB.cell (p:=⟨B,o,none⟩) h0;have c1:∀ o,w'.cell? ⟨B + 1,o,none⟩=w.cell? ⟨B + 1,o,none⟩:=fun o=>hB.cell (p:=⟨B + 1,o,none⟩) h.lt;exact ⟨RZ h.lt hB.size,(c0 _).trans h.f0,(c0 _).trans h.f1,(c0 _).trans h.f2,(c0 _).trans h.f3,(c0 _).trans h.f4,(c1 _).trans h.x0,(c1 _).trans h.x1,(c1 _).trans h.x2,(c1 _).trans h.x3,(c1 _).trans h.x4⟩
theorem eT (w:World) (f:Fc) (x:ER):EnB (rT w f x) w.heap.size f x:=by
 unfold rT;constructor <;> simp
def yP (known:List Fc) (f:Fc) (t:Tp):Bool:=(t.a.toList == f.a.toList && t.b.toList == f.b.toList && t.r.toList == f.r.toList) && (if t.s.toList.isEmpty then t.c.toList == f.c.toList && t.d.toList == f.d.toList else aO known ⟨t.c,t.d,t.s,f.c,f.d⟩)
theorem Ht {ts:List Tp} {k:Nat} (h:k < ts.length) (known:List Fc) (f:Fc):eG (ts.drop k) known f=(yP known f ts[k] || eG (ts.drop (k + 1)) known f):=by
 unfold eG; rw [Sr h]; rfl
def Bo (known:List Fc) (over name:ByteArray) (f:Fc) (t:Tp):Bool:=(t.a.toList == f.a.toList && t.b.toList == f.b.toList && t.r.toList == over.toList) && aO known ⟨t.c,t.d,name,f.c,f.d⟩
theorem Hu {ts:List Tp} {k:Nat} (h:k < ts.length) (known:List Fc) (over name:ByteArray) (f:Fc):fG (ts.drop k) known over name f=(Bo known over name f ts[k] || fG (ts.drop (k + 1)) known over name f):=by
 unfold fG; rw [Sr h]; rfl
theorem kX {s:ByteArray}:(s.toList == [])=s.toList.isEmpty:=by cases s.toList <;> rfl
set_option maxRecDepth 100000
def uw (out:List Fc) (f:Fc):Option Value:=if aO out f then some (.agg #[]) else none
theorem Ng (out:List Fc) (f:Fc):(uw out f).isSome=aO out f:=by unfold uw; cases aO out f <;> rfl
theorem Pe (out:List Fc) (f:Fc):∀ v,uw out f=some v→v=.agg #[]:=fun v h=>by
 unfold uw at h; split at h
 ·injection h with h; exact h.symm
 ·cases h
theorem rU (b n:Nat) (out:List Fc) (f:Fc) (w:World) (hf:f.fits) (hV:aD dH prog 42 w b n (uw out)) :
  Calls prog 41 #[.map (some b),.agg #[.string f.a,.string f.b,.string f.r,.string f.c,.string f.d]] w fun e w'=>e=.returned (.bool (aO out f))∧Below w.heap.size w w':=by
 have h:=EX b n (uw out) f w hf hV (Pe out f);rw [Ng] at h;exact h
theorem rV {w:World} {bp np:Nat} {Mp:K3→Option Value} {E:List (K3 × Tp)} (h:G.Grp oI prog 216 73 6 Tp.row w bp np Mp E) (k:K3):∃ ad cap,(Mp k).getD (.slice none 0 0)=.slice ad (G.lookL E k).length cap∧Sl w ad (G.lookL E k):=by
 obtain ⟨ad,cap,e,hs,-⟩:=Rh (ts:=G.lookL E k) (A7 h k) rfl;exact ⟨ad,cap,e,hs⟩
theorem Bp (p:Tp→Bool) {ts:List Tp} {k:Nat} (h:k < ts.length):(ts.drop k).any p=(p ts[k] || (ts.drop (k + 1)).any p):=by rw [Sr h]; rfl
theorem rW {ts:List Tp} {k:K3} {t:Tp} (h:t ∈ G.lookL (aW ts) k):t ∈ ts:=by
 have:=G.mem_lookL.1 h;unfold aW at this;obtain ⟨x,hx,e⟩:=Sa.1 this;injection e with e1 e2;rw [← e2]; exact hx
theorem rX (ts:List Tp) (k:K3):(G.lookL (aW ts) k).length≤ts.length:=by
 unfold G.lookL aW;exact Sb (List.length_filterMap_le _ _) (by simp)
section
variable {w:World} {rs:List TR} {D br bp bt bK nK:Nat} {n1:Int} {nr:Nat} {Mr:KL→Option Value} {Er:List (KL × RR)} {ts:List Tp} {xo xu:List Al} {np:Nat} {Mp:K3→Option Value} {vo vu:Value} {out:List Fc} {f:Fc}
theorem zU (hD:DatA w rs D br bp bt n1 nr Mr Er (aW ts) xo xu np Mp vo vu) (hK:aD dH prog 42 w bK nK (uw out)) (hf:f.fits) (hts:∀ t ∈ ts,t.fits) (htl:ts.length≤1000) :
  Calls prog 134 #[.pointer (some ⟨D,0,none⟩),.agg #[.string f.a,.string f.b,.string f.r,.string f.c,.string f.d],.map (some bK)] w fun e w'=>e=.returned (.bool (eG ts out f))∧Below w.heap.size w w':=by
 obtain ⟨kl,hkl⟩:=rz (f.a,f.b,f.r) hf.1 hf.2.1 hf.2.2.1;obtain ⟨Tt,SV,hgd,hsl⟩:=rV hD.dat.told (f.a,f.b,f.r);have HL:=ag (G8 ts out f);have hll:=rX ts (f.a,f.b,f.r);have XH:Hid (∀ t ∈ G.lookL (aW ts) (f.a,f.b,f.r),t.fits):=fun t ht=>hts t (rW ht);obtain ⟨L,Uw⟩:∃ L,L=G.lookL (aW ts) (f.a,f.b,f.r):=⟨_,rfl⟩;rw [← Uw] at hgd hsl HL hll XH;obtain ⟨W0,hW0⟩:∃ W0,W0=w.alloc (.cells #[.string f.a,.string f.b,.string f.r,.string f.c,.string f.d] 42):=⟨_,rfl⟩;have HB0:=pu hW0;have c0:W0.cell? ⟨w.heap.size,0,none⟩=some (.string f.a):=by rw [hW0]; simp
 have c1:W0.cell? ⟨w.heap.size,1,none⟩=some (.string f.b):=by rw [hW0]; simp
 have c2:W0.cell? ⟨w.heap.size,2,none⟩=some (.string f.r):=by rw [hW0]; simp
 have c3:W0.cell? ⟨w.heap.size,3,none⟩=some (.string f.c):=by rw [hW0]; simp
 have c4:W0.cell? ⟨w.heap.size,4,none⟩=some (.string f.d):=by rw [hW0]; simp
 have d3:=HB0.out.cell (p:=⟨D,3,none⟩) hD.dat.lt |>.trans hD.dat.c3;have hlk:∀ m,(Instr.lookup 126 (.map (some bp)) (.agg #[.string f.a,.string f.b,.string f.r]) false).run prog (W0.drewN m)=.ok (.slice Tt L.length SV) (W0.drewN m):=fun m=>by
  have h:=((hD.dat.told.map.below HB0.out).below (below_drewN (R3 _ _) m)).look (t:=126) (e:=36) I8 underlying126 (yo _) (x:=(f.a,f.b,f.r)) hkl;rw [hgd] at h;exact h
 have Uh:=ag hsl;have Wu:=ag hK;have HF:=ag hf;have Uk:Hid (W0.cell? ⟨w.heap.size,3,none⟩=some (.string f.c)∧W0.cell? ⟨w.heap.size,4,none⟩=some (.string f.d)∧w.heap.size < W0.heap.size):=⟨c3,c4,by rw [hW0]; simp⟩;clear hsl hK hf Uw hgd hkl;go_enter func134,ntmps134;go_wp2_with fail;rw [← hW0];clear hW0;go_quiet (fail);clear c0 c1 c2 c3 c4 d3 hlk;go_wp2;go_loopw [20] (fun i wr=>∃ k:Nat,k≤L.length∧i=.int .i64 k∧Hid ((L.drop k).any (kV out f)=L.any (kV out f))∧Hid (Below w.heap.size w wr)∧Hid (wr.cell? ⟨w.heap.size,3,none⟩=some (.string f.c)∧wr.cell? ⟨w.heap.size,4,none⟩=some (.string f.d)∧w.heap.size < wr.heap.size)) (fun i _=>L.length - (intOf i).toNat);case atStart=>exact ⟨0,R6 _,rfl,rfl,below_drewN HB0.out _,Uk⟩
 case round =>
  clear Uk HB0;obtain ⟨k,hk,rfl,HP,HB,HC⟩:=hrel;by_cases hlt:k < L.length
  ·obtain ⟨bT,YK,UH,⟨a0,a1,a2,a3,a4,a5⟩,hbT⟩:=Sl.at0 (Uh.out.below HB.out) hlt;obtain ⟨c3,c4,cl⟩:=HC.out;have hi1:=bn k;have hi2:(k:Int) < (L.length:Int):=by omega
   have HTF:=ag (XH.out _ (RY hlt));have HD2:Hid (L.any (kV out f)=(kV out f L[k] || (L.drop (k + 1)).any (kV out f))):=by show _=_; rw [← HP.out]; exact Bp _ hlt
   obtain ⟨t,ht⟩:∃ t,t=L[k]:=⟨_,rfl⟩;rw [← ht] at a0 a1 a2 a3 a4 a5 HTF HD2;clear ht;obtain ⟨W1,hW1⟩:∃ W1,W1=wr.alloc (.cells #[.string t.a,.string t.b,.string t.r,.string t.c,.string t.d,.string t.s] 73):=⟨_,rfl⟩;have Tu:=pu hW1;have HB1:=ag (HB.out.trans (Tu.out.mono HB.out.size));have TY:Hid (W1.cell? ⟨w.heap.size,3,none⟩=some (.string f.c)∧W1.cell? ⟨w.heap.size,4,none⟩=some (.string f.d)∧w.heap.size < W1.heap.size):=⟨mK Tu.out cl c3,mK Tu.out cl c4,RZ cl Tu.out.size⟩;subst UH;cases hs:t.s.toList.isEmpty with
   | true =>
    have hs2:(t.s.toList == [])=true:=by rw [kX]; exact hs
    have HTT:Hid (kV out f t=sI t.c t.d f.c f.d):=by show _=_; unfold kV; rw [if_pos hs]; rfl
    cases hu:sI t.c t.d f.c f.d with
    | true =>
     have heq:=dS _ _ _ _ hu;have HN:Hid (eG ts out f=true):=by show _=_; rw [HL.out,HD2.out,HTT.out,hu]; rfl
     clear hu hs;go_wp2;rw [← hW1];go_ret;exact ⟨by rw [HN.out]; rfl,HB1.out⟩
    | false =>
     have heq:=dS _ _ _ _ hu;have Td:Hid ((L.drop (k + 1)).any (kV out f)=L.any (kV out f)):=by show _=_; rw [HD2.out,HTT.out,hu]; rfl
     clear hu hs;go_wp2;rw [← hW1];clear hW1;go_roundw;case rel=>exact ⟨k + 1,by omega,by go_num,Td,HB1,TY⟩
     case measure=>simp [intOf] <;> omega
   | false =>
    have hs2:(t.s.toList == [])=false:=by rw [kX]; exact hs
    have HTT:Hid (kV out f t=aO out ⟨t.c,t.d,t.s,f.c,f.d⟩):=by show _=_; unfold kV; rw [if_neg (by rw [hs]; decide)]
    clear hs;go_wp2_with fail;rw [← hW1];clear hW1;refine (rU bK nK out ⟨t.c,t.d,t.s,f.c,f.d⟩ W1 ⟨HTF.out.2.2.2.1,HTF.out.2.2.2.2.1,HTF.out.2.2.2.2.2,HF.out.2.2.2.1,HF.out.2.2.2.2⟩ (Wu.out.below HB1.out)).mono ?_;rintro e w2 ⟨rfl,hb2⟩;have HB2:=ag (HB1.out.trans (hb2.mono HB1.out.size));have Tn:Hid (w2.cell? ⟨w.heap.size,3,none⟩=some (.string f.c)∧w2.cell? ⟨w.heap.size,4,none⟩=some (.string f.d)∧w.heap.size < w2.heap.size):=⟨mK hb2 TY.out.2.2 TY.out.1,mK hb2 TY.out.2.2 TY.out.2.1,RZ TY.out.2.2 hb2.size⟩;clear hb2;cases hh:aO out ⟨t.c,t.d,t.s,f.c,f.d⟩ with
    | true =>
     have HN:Hid (eG ts out f=true):=by show _=_; rw [HL.out,HD2.out,HTT.out,hh]; rfl
     go_wp2;go_ret;exact ⟨by rw [HN.out]; rfl,HB2.out⟩
    | false =>
     have Td:Hid ((L.drop (k + 1)).any (kV out f)=L.any (kV out f)):=by show _=_; rw [HD2.out,HTT.out,hh]; rfl
     go_wp2;go_roundw;case rel=>exact ⟨k + 1,by omega,by go_num,Td,HB2,Tn⟩
     case measure=>simp [intOf] <;> omega
  ·have HN:Hid (eG ts out f=false):=by show _=_; rw [HL.out,← HP.out,List.drop_of_length_le (by omega)]; rfl
   go_wp2;go_ret;exact ⟨by rw [HN.out]; rfl,HB.out⟩
theorem zV (hD:DatA w rs D br bp bt n1 nr Mr Er (aW ts) xo xu np Mp vo vu) (hK:aD dH prog 42 w bK nK (uw out)) (x:ER) (XI:x.e.over.size≤maxLen∧x.e.name.size≤maxLen) (hf:f.fits) (hts:∀ t ∈ ts,t.fits) (htl:ts.length≤1000) :
  Calls prog 135 #[.pointer (some ⟨D,0,none⟩),.agg #[.int .i64 x.e.kind,.slice x.adA x.e.allow.length x.capA,.string x.e.over,.string x.e.name,.slice x.adK x.e.kids.length x.capK],.agg #[.string f.a,.string f.b,.string f.r,.string f.c,.string f.d],.map (some bK)] w fun e w'=>e=.returned (.bool (fG ts out x.e.over x.e.name f))∧Below w.heap.size w w':=by
 obtain ⟨kl,hkl⟩:=rz (f.a,f.b,x.e.over) hf.1 hf.2.1 XI.1;obtain ⟨Tt,SV,hgd,hsl⟩:=rV hD.dat.told (f.a,f.b,x.e.over);have HL:=ag (G9 ts out x.e.over x.e.name f);have hll:=rX ts (f.a,f.b,x.e.over);have XH:Hid (∀ t ∈ G.lookL (aW ts) (f.a,f.b,x.e.over),t.fits):=fun t ht=>hts t (rW ht);obtain ⟨L,Uw⟩:∃ L,L=G.lookL (aW ts) (f.a,f.b,x.e.over):=⟨_,rfl⟩;rw [← Uw] at hgd hsl HL hll XH;obtain ⟨W0,hW0⟩:∃ W0,W0=(w.alloc (.cells #[.int .i64 x.e.kind,.slice x.adA x.e.allow.length x.capA,.string x.e.over,.string x.e.name,.slice x.adK x.e.kids.length x.capK] 166)).alloc (.cells #[.string f.a,.string f.b,.string f.r,.string f.c,.string f.d] 42):=⟨_,rfl⟩;have HB0:Hid (Below w.heap.size w W0):=by show Below _ _ _; rw [hW0]; exact ((R3 _ _).alloc (R4 _) _).alloc (by simp) _
 have c0:W0.cell? ⟨w.heap.size + 1,0,none⟩=some (.string f.a):=by rw [hW0]; simp
 have c1:W0.cell? ⟨w.heap.size + 1,1,none⟩=some (.string f.b):=by rw [hW0]; simp
 have c2:W0.cell? ⟨w.heap.size + 1,2,none⟩=some (.string f.r):=by rw [hW0]; simp
 have c3:W0.cell? ⟨w.heap.size + 1,3,none⟩=some (.string f.c):=by rw [hW0]; simp
 have c4:W0.cell? ⟨w.heap.size + 1,4,none⟩=some (.string f.d):=by rw [hW0]; simp
 have x2:W0.cell? ⟨w.heap.size,2,none⟩=some (.string x.e.over):=by rw [hW0]; simp
 have x3:W0.cell? ⟨w.heap.size,3,none⟩=some (.string x.e.name):=by rw [hW0]; simp
 have d3:=HB0.out.cell (p:=⟨D,3,none⟩) hD.dat.lt |>.trans hD.dat.c3;have hlk:∀ m,(Instr.lookup 126 (.map (some bp)) (.agg #[.string f.a,.string f.b,.string x.e.over]) false).run prog (W0.drewN m)=.ok (.slice Tt L.length SV) (W0.drewN m):=fun m=>by
  have h:=((hD.dat.told.map.below HB0.out).below (below_drewN (R3 _ _) m)).look (t:=126) (e:=36) I8 underlying126 (yo _) (x:=(f.a,f.b,x.e.over)) hkl;rw [hgd] at h;exact h
 have Uh:=ag hsl;have Wu:=ag hK;have HF:=ag hf;have Vm:=ag XI;have Uk:Hid (W0.cell? ⟨w.heap.size + 1,3,none⟩=some (.string f.c)∧W0.cell? ⟨w.heap.size + 1,4,none⟩=some (.string f.d)∧W0.cell? ⟨w.heap.size,3,none⟩=some (.string x.e.name)∧w.heap.size + 1 < W0.heap.size):=⟨c3,c4,x3,by rw [hW0]; simp⟩;clear hsl hK hf Uw hgd hkl;go_enter func135,ntmps135;go_wp2_with fail;rw [← hW0];clear hW0;go_quiet (fail);clear c0 c1 c2 c3 c4 d3 x2 x3 hlk;go_wp2;go_loopw [22] (fun i wr=>∃ k:Nat,k≤L.length∧i=.int .i64 k∧Hid ((L.drop k).any (rR out x.e.name f)=L.any (rR out x.e.name f))∧Hid (Below w.heap.size w wr)∧Hid (wr.cell? ⟨w.heap.size + 1,3,none⟩=some (.string f.c)∧wr.cell? ⟨w.heap.size + 1,4,none⟩=some (.string f.d)∧wr.cell? ⟨w.heap.size,3,none⟩=some (.string x.e.name)∧w.heap.size + 1 < wr.heap.size)) (fun i _=>L.length - (intOf i).toNat);case atStart=>exact ⟨0,R6 _,rfl,rfl,below_drewN HB0.out _,Uk⟩
 case round =>
  clear Uk HB0;obtain ⟨k,hk,rfl,HP,HB,HC⟩:=hrel;by_cases hlt:k < L.length
  ·obtain ⟨bT,YK,UH,⟨a0,a1,a2,a3,a4,a5⟩,hbT⟩:=Sl.at0 (Uh.out.below HB.out) hlt;obtain ⟨c3,c4,x3,cl⟩:=HC.out;have cl0:w.heap.size < wr.heap.size:=by omega
   have hi1:=bn k;have hi2:(k:Int) < (L.length:Int):=by omega
   have HTF:=ag (XH.out _ (RY hlt));have HD2:Hid (L.any (rR out x.e.name f)=(rR out x.e.name f L[k] || (L.drop (k + 1)).any (rR out x.e.name f))):=by show _=_; rw [← HP.out]; exact Bp _ hlt
   obtain ⟨t,ht⟩:∃ t,t=L[k]:=⟨_,rfl⟩;rw [← ht] at a0 a1 a2 a3 a4 a5 HTF HD2;clear ht;obtain ⟨W1,hW1⟩:∃ W1,W1=wr.alloc (.cells #[.string t.a,.string t.b,.string t.r,.string t.c,.string t.d,.string t.s] 73):=⟨_,rfl⟩;have Tu:=pu hW1;have HB1:=ag (HB.out.trans (Tu.out.mono HB.out.size));have TY:Hid (W1.cell? ⟨w.heap.size + 1,3,none⟩=some (.string f.c)∧W1.cell? ⟨w.heap.size + 1,4,none⟩=some (.string f.d)∧W1.cell? ⟨w.heap.size,3,none⟩=some (.string x.e.name)∧w.heap.size + 1 < W1.heap.size):=⟨mK Tu.out cl c3,mK Tu.out cl c4,mK Tu.out cl0 x3,RZ cl Tu.out.size⟩;subst UH;have HTT:Hid (rR out x.e.name f t=aO out ⟨t.c,t.d,x.e.name,f.c,f.d⟩):=rfl;go_wp2_with fail;rw [← hW1];clear hW1;refine (rU bK nK out ⟨t.c,t.d,x.e.name,f.c,f.d⟩ W1 ⟨HTF.out.2.2.2.1,HTF.out.2.2.2.2.1,Vm.out.2,HF.out.2.2.2.1,HF.out.2.2.2.2⟩ (Wu.out.below HB1.out)).mono ?_;rintro e w2 ⟨rfl,hb2⟩;have HB2:=ag (HB1.out.trans (hb2.mono HB1.out.size));have Tn:Hid (w2.cell? ⟨w.heap.size + 1,3,none⟩=some (.string f.c)∧w2.cell? ⟨w.heap.size + 1,4,none⟩=some (.string f.d)∧w2.cell? ⟨w.heap.size,3,none⟩=some (.string x.e.name)∧w.heap.size + 1 < w2.heap.size):=⟨mK hb2 TY.out.2.2.2 TY.out.1,mK hb2 TY.out.2.2.2 TY.out.2.1,mK hb2 (by have:=TY.out.2.2.2; omega) TY.out.2.2.1,RZ TY.out.2.2.2 hb2.size⟩;clear hb2;cases hh:aO out ⟨t.c,t.d,x.e.name,f.c,f.d⟩ with
   | true =>
    have HN:Hid (fG ts out x.e.over x.e.name f=true):=by show _=_; rw [HL.out,HD2.out,HTT.out,hh]; rfl
    go_wp2;go_ret;exact ⟨by rw [HN.out]; rfl,HB2.out⟩
   | false =>
    have Td:Hid ((L.drop (k + 1)).any (rR out x.e.name f)=L.any (rR out x.e.name f)):=by show _=_; rw [HD2.out,HTT.out,hh]; rfl
    go_wp2;go_roundw;case rel=>exact ⟨k + 1,by omega,by go_num,Td,HB2,Tn⟩
    case measure=>simp [intOf] <;> omega
  ·have HN:Hid (fG ts out x.e.over x.e.name f=false):=by show _=_; rw [HL.out,← HP.out,List.drop_of_length_le (by omega)]; rfl
   go_wp2;go_ret;exact ⟨by rw [HN.out]; rfl,HB.out⟩
end
end Go.Proofs.YtdaoiceeidoehaaGreat
