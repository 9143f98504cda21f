/- Facts in memory: a row of them, one held against another one. -/
import Derived.Test.YtdaoiceeidoehaaGreatJ7
import Derived.Deep.DrawnRows
open Go.Proofs.Tryz
set_option maxHeartbeats 80000000
namespace Go.Proofs.YtdaoiceeidoehaaGreat
open Go.ChangeShapes Go.WideShapes Go.ChangeAt Go.RowKit Go.Maps
open Pl
def yV (w:World) (b off:Nat) (t:Fc):Prop :=
 w.cell? ⟨b,off,none⟩=some (.string t.a)∧w.cell? ⟨b,off + 1,none⟩=some (.string t.b)∧w.cell? ⟨b,off + 2,none⟩=some (.string t.r)∧w.cell? ⟨b,off + 3,none⟩=some (.string t.c)∧w.cell? ⟨b,off + 4,none⟩=some (.string t.d)
def yX (w:World) (b off:Nat) (ts:List Fc):Prop:=∀ (i:Nat) (h:i < ts.length),yV w b (off + i * 5) ts[i]
def jq (w:World) (ad:Option Addr) (ts:List Fc):Prop:=ts=[] ∨ ∃ b off,ad=some ⟨b,off,none⟩∧b < w.heap.size∧yX w b off ts
theorem yV.same {w w':World} {b off:Nat} {t:Fc} (h:yV w b off t) (hc:∀ o,w'.cell? ⟨b,o,none⟩=w.cell? ⟨b,o,none⟩):yV w' b off t:=by
 obtain ⟨h0,h1,h2,h3,h4⟩:=h;exact ⟨(hc _).trans h0,(hc _).trans h1,(hc _).trans h2,(hc _).trans h3,(hc _).trans h4⟩
theorem jq.below {w w':World} {ad:Option Addr} {ts:List Fc} (h:jq w ad ts) (hB:Below w.heap.size w w'):jq w' ad ts:=by
 rcases h with h | ⟨b,off,e,hb,hr⟩
 ·exact .inl h
 ·exact .inr ⟨b,off,e,Nat.lt_of_lt_of_le hb hB.size,fun i hi=>(hr i hi).same fun o=>hB.cell (p:=⟨b,o,none⟩) hb⟩
def Fc.row (t:Fc):List Value:=[.string t.a,.string t.b,.string t.r,.string t.c,.string t.d]
theorem Ia (x y:Fc) {v:Bool} (h:yT x y=v) (w:World) :
  (binOp .eql 42 (.agg #[.string x.a,.string x.b,.string x.r,.string x.c,.string x.d]) (.agg #[.string y.a,.string y.b,.string y.r,.string y.c,.string y.d])).run prog w=.ok (.bool v) w:=by
 subst h;go_simp;unfold yT
 (repeat' split) <;> simp_all
theorem FP {ts:List Fc} {k:Nat} (h:k < ts.length) {t:Fc}:df (ts.drop k) t=(yT ts[k] t || df (ts.drop (k + 1)) t):=by
 unfold df; rw [List.drop_eq_getElem_cons h]; rfl
set_option linter.unusedVariables false
structure KpO (b l:Nat) (W W':World):Prop where
 size:W.heap.size≤W'.heap.size
 cells:∀ (g:Nat) (cs:Array Value) (T:TypeId) (m:Nat × Nat),W.heap[g]?=some (.cells cs T m)→T ≠ 42→T ≠ 38→W'.heap[g]?=some (.cells cs T m)
 other:∀ (g:Nat) (o:Obj),W.heap[g]?=some o→o.isCells=false→g ≠ l→g ≠ b→W'.heap[g]?=some o
structure KpI (W W':World):Prop where
 size:W.heap.size≤W'.heap.size
 cells:∀ (g:Nat) (cs:Array Value) (T:TypeId) (m:Nat × Nat),W.heap[g]?=some (.cells cs T m)→T=40 ∨ T=152→W'.heap[g]?=some (.cells cs T m)
theorem KpO.trans {b l:Nat} {X Y Z:World} (h:KpO b l X Y) (k:KpO b l Y Z):KpO b l X Z :=
 ⟨Nat.le_trans h.size k.size,fun g cs T m hg h1 h2=>k.cells g cs T m (h.cells g cs T m hg h1 h2) h1 h2,fun g o hg hc h1 h2=>k.other g o (h.other g o hg hc h1 h2) hc h1 h2⟩
theorem KpI.trans {X Y Z:World} (h:KpI X Y) (k:KpI Y Z):KpI X Z :=
 ⟨Nat.le_trans h.size k.size,fun g cs T m hg h1=>k.cells g cs T m (h.cells g cs T m hg h1) h1⟩
theorem jU {W:World} {l g:Nat} {o':Obj} (h:g ≠ l):(W.putObj l o').heap[g]?=W.heap[g]?:=World.putObj_heap_other h
theorem KpO.put {b l:Nat} {W:World} {o o':Obj} (h:W.heap[l]?=some o) (hc:o.isCells=false):KpO b l W (W.putObj l o') where
 size:=by simp
 cells g cs T m hg _ _:=by
  have:g ≠ l:=fun e=>by subst e; rw [h] at hg; injection hg with hg; subst hg; cases hc
  rw [jU this]; exact hg
 other g x hg _ h1 _:=by rw [jU h1]; exact hg
theorem KpI.put {l:Nat} {W:World} {o o':Obj} (h:W.heap[l]?=some o) (hc:o.isCells=false):KpI W (W.putObj l o') where
 size:=by simp
 cells g cs T m hg _:=by
  have:g ≠ l:=fun e=>by subst e; rw [h] at hg; injection hg with hg; subst hg; cases hc
  rw [jU this]; exact hg
theorem KpO.below {b l:Nat} {W W':World} (h:Below W.heap.size W W'):KpO b l W W' :=
 ⟨h.size,fun g cs T m hg _ _=>(h.block g (Array.getElem?_eq_some_iff.1 hg).1).trans hg,fun g o hg _ _ _=>(h.block g (Array.getElem?_eq_some_iff.1 hg).1).trans hg⟩
theorem KpI.below {W W':World} (h:Below W.heap.size W W'):KpI W W' :=
 ⟨h.size,fun g cs T m hg _=>(h.block g (Array.getElem?_eq_some_iff.1 hg).1).trans hg⟩
theorem KpO.toI {b l:Nat} {W W':World} (h:KpO b l W W'):KpI W W' :=
 ⟨h.size,fun g cs T m hg hT=>h.cells g cs T m hg (by rcases hT with e | e <;> (rw [e]; decide)) (by rcases hT with e | e <;> (rw [e]; decide))⟩
theorem uG {W W':World} (h:Below W.heap.size W W'):W.grownBy W' none:=⟨h.os,h.tape,h.output,h.size,fun k hk _=>h.block k hk⟩
theorem jF {β:Type} {B:Nat} {I:β→World→Prop} (h:OwnFrom B I) {s:β} {W W':World} (hs:I s W) (hb:Below W.heap.size W W'):I s W':=h s W W' none hs (uG hb) (fun r e=>by cases e)
theorem AL {x y:ByteArray} (k:x.toList=y.toList):x=y:=by
 rw [Go.ByteArray.toList_eq,Go.ByteArray.toList_eq] at k;obtain ⟨x⟩:=x;obtain ⟨y⟩:=y;exact congrArg ByteArray.mk (Array.toList_inj.1 k)
def Tp.row (t:Tp):List Value:=[.string t.a,.string t.b,.string t.r,.string t.c,.string t.d,.string t.s]
def xA (ts:List Tp):List Value:=ts.flatMap Tp.row
theorem xB:∀ ts:List Tp,(xA ts).length=ts.length * 6
 | []=>rfl
 | r::rs=>by have:=xB rs; simp only [xA,Tp.row,List.flatMap_cons,List.length_append,List.length_cons,List.length_nil] at this ⊢; omega
theorem AO:∀ (rs:List Tp) (i:Nat) (h:i < rs.length) (j:Nat),j < 6→(xA rs)[i * 6 + j]?=(rs[i]).row[j]?
 | [],i,h,_,_=>by simp at h
 | r::rs,0,_,j,hj=>by
  simp only [xA,List.flatMap_cons,Nat.zero_mul,Nat.zero_add,List.getElem_cons_zero];rw [List.getElem?_append_left (by simpa [Tp.row] using hj)]
 | r::rs,i + 1,h,j,hj=>by
  have:=AO rs i (by simpa using h) j hj;simp only [xA,List.flatMap_cons,List.getElem_cons_succ] at this ⊢;rw [List.getElem?_append_right (by simp [Tp.row]; omega),← this];congr 1;simp [Tp.row]; omega
theorem LX {w:World} {base n:Nat} {v:Value} {ts:List Tp} (h:w.ownsRow base 73 6 v n (xA ts)) (hn:n=ts.length):∃ ad cap,v=.slice ad ts.length cap∧Sl w ad ts∧∀ g,ad=some ⟨g,0,none⟩→base≤g∧g < w.heap.size∧C8 w g:=by
 subst hn;have h2:=h;rcases h.2 with ⟨rfl,h0⟩ | ⟨g,cap,cur,rfl,hbg,hg,hnc,-⟩
 ·exact ⟨none,0,by rw [h0],.inl (List.length_eq_zero_iff.1 h0),fun g e=>by cases e⟩
 ·have hlt:=h2.lt g rfl;refine ⟨some ⟨g,0,none⟩,cap,rfl,.inr ⟨g,0,rfl,hlt.2,fun i hi=>?_⟩,fun g' e=>?_⟩
  ·have hl:=xB ts;have key:∀ j,j < 6→w.cell? ⟨g,0 + i * 6 + j,none⟩=(ts[i]).row[j]?:=fun j hj=>by
    rw [h2.cellAt (0 + i * 6 + j) (by omega),← AO ts i hi j hj,Nat.zero_add]
   exact ⟨key 0 (by omega),key 1 (by omega),key 2 (by omega),key 3 (by omega),key 4 (by omega),key 5 (by omega)⟩
  ·injection e with e; injection e with e1 e2;subst e1;exact ⟨hlt.1,hlt.2,fun y=>h2.frozenAt y⟩
theorem aD {B:Nat} {w w':World} (hB:Below B w w') {n o:Nat} {v:Value} (hn:n < B) (h:w.cell? ⟨n,o,none⟩=some v):w'.cell? ⟨n,o,none⟩=some v:=(hB.cell (p:=⟨n,o,none⟩) hn).trans h
theorem av {p:Prop} (h:p):Hid p:=h
theorem aK {w w':World} {base:Nat} {e:TypeId} {size:Nat} {v:Value} {n:Nat} {xs:List Value} (h:w.ownsRow base e size v n xs) (hb:Below w.heap.size w w'):w'.ownsRow base e size v n xs:=by
 have hl:=fun g hg=>(h.lt g hg).2;refine ⟨h.1,?_⟩;rcases h.2 with h0 | ⟨g,cap,cur,rfl,h1,h2,h3⟩
 ·exact .inl h0
 ·exact .inr ⟨g,cap,cur,rfl,h1,(hb.block g (hl g rfl)).trans h2,h3⟩
theorem Ib (n lo hi:Int) (w:World) :
  Calls prog 109 #[.int .i64 n,.int .i64 lo,.int .i64 hi] w fun e w'=>e=.returned (.bool (decide (lo≤n) && decide (n≤hi)))∧w'=w:=by
 go_enter func109,ntmps109;go_wp2
 all_goals go_ret
 all_goals exact ⟨af (by simp [*] <;> omega),rfl⟩
set_option maxRecDepth 8000 in
theorem uH (r:ER) (w:World) (hf:r.e.fits) (h1:r.e.kind ≠ 1) :
  Calls prog 108 #[r.val] w fun e w'=>e=.returned (.bool (ak r.e))∧Below w.heap.size w w':=by
 obtain ⟨⟨kind,allow,over,name,kids⟩,adA,capA,adK,capK⟩:=r;obtain ⟨f1,f2,f3,f4,f5⟩:=hf;simp only at f1 f2 f3 f4 f5 h1;simp only [ER.val];unfold maxLen at f4 f5;by_cases h2:kind=2
 ·subst h2;clear h1;go_enter func108,ntmps108;go_wp2_with (go_at_call 56; refine (ay _ _ (by assumption)).mono ?_; rintro e w' ⟨rfl,rfl⟩)
  all_goals go_ret
  all_goals exact ⟨af (by first | (simp [ak, *]; done) | (simp [ak, *]; omega) | (simp [ak, *]; rw [Bool.eq_iff_iff]; simp; done) | (simp [ak, *]; rw [Bool.eq_iff_iff]; simp; omega)),(Below.refl w.heap.size w).alloc (Nat.le_refl _) _⟩
 by_cases h3:kind=3
 ·subst h3;clear h1;go_enter func108,ntmps108;go_wp2_with (go_at_call 56; refine (ay _ _ (by assumption)).mono ?_; rintro e w' ⟨rfl,rfl⟩)
  all_goals go_ret
  all_goals exact ⟨af (by first | (simp [ak, *]; done) | (simp [ak, *]; omega) | (simp [ak, *]; rw [Bool.eq_iff_iff]; simp; done) | (simp [ak, *]; rw [Bool.eq_iff_iff]; simp; omega)),(Below.refl w.heap.size w).alloc (Nat.le_refl _) _⟩
 by_cases h4:kind=4
 ·subst h4;clear h1;go_enter func108,ntmps108;go_wp2_with (go_at_call 56; refine (ay _ _ (by assumption)).mono ?_; rintro e w' ⟨rfl,rfl⟩)
  all_goals go_ret
  all_goals exact ⟨af (by first | (simp [ak, *]; done) | (simp [ak, *]; omega) | (simp [ak, *]; rw [Bool.eq_iff_iff]; simp; done) | (simp [ak, *]; rw [Bool.eq_iff_iff]; simp; omega)),(Below.refl w.heap.size w).alloc (Nat.le_refl _) _⟩
 by_cases h5:kind=5
 ·subst h5;clear h1;go_enter func108,ntmps108;go_wp2_with (go_at_call 56; refine (ay _ _ (by assumption)).mono ?_; rintro e w' ⟨rfl,rfl⟩)
  all_goals go_ret
  all_goals exact ⟨af (by first | (simp [ak, *]; done) | (simp [ak, *]; omega) | (simp [ak, *]; rw [Bool.eq_iff_iff]; simp; done) | (simp [ak, *]; rw [Bool.eq_iff_iff]; simp; omega)),(Below.refl w.heap.size w).alloc (Nat.le_refl _) _⟩
 by_cases h6:kind=6
 ·subst h6;clear h1;go_enter func108,ntmps108;go_wp2_with (go_at_call 56; refine (ay _ _ (by assumption)).mono ?_; rintro e w' ⟨rfl,rfl⟩)
  all_goals go_ret
  all_goals exact ⟨af (by first | (simp [ak, *]; done) | (simp [ak, *]; omega) | (simp [ak, *]; rw [Bool.eq_iff_iff]; simp; done) | (simp [ak, *]; rw [Bool.eq_iff_iff]; simp; omega)),(Below.refl w.heap.size w).alloc (Nat.le_refl _) _⟩
 ·go_enter func108,ntmps108;go_wp2_with (go_at_call 56; refine (ay _ _ (by assumption)).mono ?_; rintro e w' ⟨rfl,rfl⟩)
  all_goals go_ret
  all_goals exact ⟨af (by first | (simp [ak, *]; done) | (simp [ak, *]; omega) | (simp [ak, *]; rw [Bool.eq_iff_iff]; simp; done) | (simp [ak, *]; rw [Bool.eq_iff_iff]; simp; omega)),(Below.refl w.heap.size w).alloc (Nat.le_refl _) _⟩
theorem qH (x y:Al) {v:Bool} (h:iq x y=v) (w:World) :
  (binOp .eql 163 (.agg #[.string x.t,.string x.s]) (.agg #[.string y.t,.string y.s])).run prog w=.ok (.bool v) w:=by
 subst h;go_simp;unfold iq;by_cases h1:x.t.toList=y.t.toList <;> by_cases h2:x.s.toList=y.s.toList <;> simp [h1,h2]
theorem qI {xs:List Al} {j k:Nat} {a:Al} (hjk:j < k) (hj:j < xs.length) (h:iq xs[j] a=true):cz xs k a=true:=by
 unfold cz;rw [List.any_eq_true];refine ⟨xs[j],?_,h⟩;rw [List.mem_take_iff_getElem];exact ⟨j,by omega,rfl⟩
set_option maxRecDepth 8000 in
theorem wE (r:ER) (w:World) (hf:r.e.fits) (hok:r.ok w) (h1:r.e.kind=1) :
  Calls prog 108 #[r.val] w fun e w'=>e=.returned (.bool (ak r.e))∧Below w.heap.size w w':=by
 obtain ⟨⟨kind,allow,over,name,kids⟩,adA,capA,adK,capK⟩:=r;obtain ⟨f1,f2,f3,f4,f5⟩:=hf;obtain ⟨hA,hK⟩:=hok;simp only at f1 f2 f3 f4 f5 h1 hA hK;subst h1;simp only [ER.val];unfold maxLen at f4 f5;by_cases hl:1≤allow.length∧allow.length≤6
 ·obtain ⟨hl1,hl2⟩:=hl;obtain ⟨W,hW⟩:∃ W,W=w.alloc (.cells #[.int .i64 1,.slice adA allow.length capA,.string over,.string name,.slice adK kids.length capK] 166):=⟨_,rfl⟩;have HB0:Hid (Below w.heap.size w W):=by show Below _ _ _; rw [hW]; exact (Below.refl w.heap.size w).alloc (Nat.le_refl _) _
  have hz:w.heap.size < W.heap.size:=by rw [hW]; simp
  have b1:W.cell? ⟨w.heap.size,1,none⟩=some (.slice adA allow.length capA):=by rw [hW]; simp
  have b2:W.cell? ⟨w.heap.size,2,none⟩=some (.string over):=by rw [hW]; simp
  have b3:W.cell? ⟨w.heap.size,3,none⟩=some (.string name):=by rw [hW]; simp
  have HA:Hid (fV W adA allow):=hA.below HB0.out;have HF1:Hid (∀ a ∈ allow,a.fits):=f1;clear hA hK f1;go_enter func108,ntmps108;go_wp2_with fail;rw [← hW];clear hW;go_loopw [4] (fun i wr=>∃ k:Nat,k≤allow.length∧i=.int .i64 k∧Hid (yO allow k=true)∧Below W.heap.size W wr) (fun i _=>allow.length - (intOf i).toNat);case atStart=>exact ⟨0,Nat.zero_le _,rfl,rfl,Below.refl _ _⟩
  case round =>
   obtain ⟨k,hk,rfl,HU,hB⟩:=hrel;have a1:=kept hB hz b1;have a2:=kept hB hz b2;have a3:=kept hB hz b3;by_cases hlt:k < allow.length
   ·rcases HA.out.below hB with rfl | ⟨b,off,rfl,hb,hr⟩
    ·simp at hlt
    obtain ⟨t0,t1⟩:=hr k hlt;obtain ⟨z0,z1⟩:=HF1.out allow[k] (List.getElem_mem hlt);have HR:Hid (∀ (i:Nat) (h:i < allow.length),KO wr b (off + i * 2) allow[i]):=hr;clear hr;obtain ⟨W1,hW1⟩:∃ W1,W1=wr.alloc (.cells #[.string allow[k].t,.string allow[k].s] 163):=⟨_,rfl⟩;have hal:Below wr.heap.size wr W1:=by rw [hW1]; exact (Below.refl _ _).alloc (Nat.le_refl _) _
    have hBW1:Below W.heap.size wr W1:=hal.mono hB.size;have hsz:w.heap.size < wr.heap.size:=Nat.lt_of_lt_of_le hz hB.size;have hWs:W.heap.size≤W1.heap.size:=Nat.le_trans hB.size hal.size;have c1:=kept hal hsz a1;have c2:=kept hal hsz a2;have c3:=kept hal hsz a3;have hbl:b < W1.heap.size:=Nat.lt_of_lt_of_le hb hal.size;have hgl:wr.heap.size < W1.heap.size:=by rw [hW1]; simp
    have g0:W1.cell? ⟨wr.heap.size,0,none⟩=some (.string allow[k].t):=by rw [hW1]; simp
    have g1:W1.cell? ⟨wr.heap.size,1,none⟩=some (.string allow[k].s):=by rw [hW1]; simp
    have HR1:Hid (∀ (i:Nat) (h:i < allow.length),KO W1 b (off + i * 2) allow[i]):=fun i hi=>(HR.out i hi).same fun o=>hal.cell (p:=⟨b,o,none⟩) hb;cases hn:aO allow[k].t with
    | false =>
     have HN:Hid (yO allow allow.length=false):=jD allow k hlt (by simp [GY,hn]) _ hlt;go_wp2_with (go_at_call 56; refine (ay _ _ (by assumption)).mono ?_; rintro e w' ⟨rfl,rfl⟩);go_ret;exact ⟨af (by simp [ak,fB,HN.out]),HB0.out.trans ((hB.trans ((Below.refl _ _).alloc hB.size _)).mono HB0.out.size)⟩
    | true =>
     cases he:allow[k].s.toList.isEmpty with
     | true =>
      have HAl:Hid (GY allow[k]=true):=by show _=_; simp [GY,tV,hn,he]
      go_wp2_with (go_at_call 56; refine (ay _ _ (by assumption)).mono ?_; rintro e w' ⟨rfl,rfl⟩);rw [← hW1];go_loopw [6] (fun i w2=>∃ j:Nat,j≤k∧i=.int .i64 j∧Hid (cz allow j allow[k]=false)∧Below W1.heap.size W1 w2) (fun i _=>k - (intOf i).toNat);case atStart=>exact ⟨0,Nat.zero_le _,rfl,kw _ _,Below.refl _ _⟩
      case round =>
       obtain ⟨j,hj,rfl,HP,hB2⟩:=hrel;rename_i w2 _;have d1:=kept hB2 (by omega) c1;have d2:=kept hB2 (by omega) c2;have d3:=kept hB2 (by omega) c3;have p0:=kept hB2 hgl g0;have p1:=kept hB2 hgl g1;by_cases hjk:j < k
       ·obtain ⟨q0,q1⟩:=(HR1.out j (by omega)).same fun o=>hB2.cell (p:=⟨b,o,none⟩) hbl;have hj1:=aY j;have hj2:(j:Int) < (allow.length:Int):=by omega
        cases hq:iq allow[j] allow[k] with
        | true =>
         have HE:=qH allow[j] allow[k] hq;have HN:Hid (yO allow allow.length=false):=jD allow k hlt (by rw [(qI hjk (by omega) hq)]; simp) _ hlt;go_wp2_with fail;go_quiet (fail);go_wp2;go_ret;exact ⟨af (by simp [ak,fB,HN.out]),HB0.out.trans ((hB.trans (hBW1.trans (hB2.mono (by omega)))).mono HB0.out.size |> fun h=>below_drewN h _)⟩
        | false =>
         have HE:=qH allow[j] allow[k] hq;have HP2:Hid (cz allow (j + 1) allow[k]=false):=by show _=_; rw [kv _ _ _ (by omega),HP.out,hq]; rfl
         go_wp2_with fail;go_quiet (fail);go_wp2;go_roundw;case rel=>exact ⟨j + 1,by omega,by go_num,HP2,below_drewN hB2 _⟩
         case measure=>simp [intOf]; omega
       ·obtain rfl:j=k:=by omega
        have HU2:Hid (yO allow (j + 1)=true):=by show _=_; rw [oZ _ _ hlt,HU.out,HAl.out,HP.out]; rfl
        go_wp2;go_roundw;case rel=>exact ⟨j + 1,by omega,by go_num,HU2,hB.trans (hBW1.trans (hB2.mono (by omega)))⟩
        case measure=>simp [intOf]; omega
     | false =>
      cases hm:aO allow[k].s with
      | false =>
       have HN:Hid (yO allow allow.length=false):=jD allow k hlt (by simp [GY,hn,tV,he,hm]) _ hlt;go_wp2_with (go_at_call 56; refine (ay _ _ (by assumption)).mono ?_; rintro e w' ⟨rfl,rfl⟩);go_ret;exact ⟨af (by simp [ak,fB,HN.out]),HB0.out.trans ((hB.trans ((Below.refl _ _).alloc hB.size _)).mono HB0.out.size)⟩
      | true =>
       have HAl:Hid (GY allow[k]=true):=by show _=_; simp [GY,tV,hn,he,hm]
       go_wp2_with (go_at_call 56; refine (ay _ _ (by assumption)).mono ?_; rintro e w' ⟨rfl,rfl⟩);rw [← hW1];go_loopw [6] (fun i w2=>∃ j:Nat,j≤k∧i=.int .i64 j∧Hid (cz allow j allow[k]=false)∧Below W1.heap.size W1 w2) (fun i _=>k - (intOf i).toNat);case atStart=>exact ⟨0,Nat.zero_le _,rfl,kw _ _,Below.refl _ _⟩
       case round =>
        obtain ⟨j,hj,rfl,HP,hB2⟩:=hrel;rename_i w2 _;have d1:=kept hB2 (by omega) c1;have d2:=kept hB2 (by omega) c2;have d3:=kept hB2 (by omega) c3;have p0:=kept hB2 hgl g0;have p1:=kept hB2 hgl g1;by_cases hjk:j < k
        ·obtain ⟨q0,q1⟩:=(HR1.out j (by omega)).same fun o=>hB2.cell (p:=⟨b,o,none⟩) hbl;have hj1:=aY j;have hj2:(j:Int) < (allow.length:Int):=by omega
         cases hq:iq allow[j] allow[k] with
         | true =>
          have HE:=qH allow[j] allow[k] hq;have HN:Hid (yO allow allow.length=false):=jD allow k hlt (by rw [(qI hjk (by omega) hq)]; simp) _ hlt;go_wp2_with fail;go_quiet (fail);go_wp2;go_ret;exact ⟨af (by simp [ak,fB,HN.out]),HB0.out.trans ((hB.trans (hBW1.trans (hB2.mono (by omega)))).mono HB0.out.size |> fun h=>below_drewN h _)⟩
         | false =>
          have HE:=qH allow[j] allow[k] hq;have HP2:Hid (cz allow (j + 1) allow[k]=false):=by show _=_; rw [kv _ _ _ (by omega),HP.out,hq]; rfl
          go_wp2_with fail;go_quiet (fail);go_wp2;go_roundw;case rel=>exact ⟨j + 1,by omega,by go_num,HP2,below_drewN hB2 _⟩
          case measure=>simp [intOf]; omega
        ·obtain rfl:j=k:=by omega
         have HU2:Hid (yO allow (j + 1)=true):=by show _=_; rw [oZ _ _ hlt,HU.out,HAl.out,HP.out]; rfl
         go_wp2;go_roundw;case rel=>exact ⟨j + 1,by omega,by go_num,HU2,hB.trans (hBW1.trans (hB2.mono (by omega)))⟩
         case measure=>simp [intOf]; omega
   ·obtain rfl:k=allow.length:=by omega
    have HAW:Hid (fB allow=true):=by show _=_; simp [fB,hl1,hl2,HU.out]
    go_wp2
    all_goals go_ret
    all_goals exact ⟨af (by first | (simp [ak,HAW.out, *]; done) | (simp [ak,HAW.out, *]; rw [Bool.eq_iff_iff]; simp; done)),HB0.out.trans (hB.mono HB0.out.size)⟩
 ·go_enter func108,ntmps108;go_wp2_with fail
  all_goals go_ret
  all_goals exact ⟨af (by simp [ak,fB]; omega),(Below.refl w.heap.size w).alloc (Nat.le_refl _) _⟩
theorem yY (r:ER) (w:World) (hf:r.e.fits) (hok:r.ok w) :
  Calls prog 108 #[r.val] w fun e w'=>e=.returned (.bool (ak r.e))∧Below w.heap.size w w':=by
 by_cases h:r.e.kind=1
 ·exact wE r w hf hok h
 ·exact uH r w hf h
end Go.Proofs.YtdaoiceeidoehaaGreat
