/- What a change of some blocks leaves as it was; the text of a mark. -/
import Derived.Test.YtogjfppkbkgaeaaGreatRows
import Derived.Below
import Derived.WalkKit
import Derived.WalkLawsBesides
import Derived.ProofKit
import Derived.Laws.IdiomStrings
import Derived.Test.YtogjfppkbkgaeaaGreatJ6
import Derived.OwnWalk
import Derived.Maps.AppendAt
import Derived.Deep.RegionHeld3
import Derived.Deep.DrawnRows
import Derived.Test.YtogjfppkbkgaeaaGreatJ4
import Derived.Test.YtogjfppkbkgaeaaGreatJ2
namespace Go.Proofs.YtogjfppkbkgaeaaGreat
open Go.ChangeShapes Go.WideShapes Go.ChangeAt Go.RowKit
theorem mO {w:World} {g i j:Nat} {v:Value} (h:i ≠ j):(w.setCell ⟨g,i,none⟩ v).cell? ⟨g,j,none⟩=w.cell? ⟨g,j,none⟩:=by
 apply World.cell?_setCell_other;intro e;exact h (congrArg Addr.off e)
theorem mS {w:World} {a:Addr} {v u:Value} (h:w.cell? a=some u):(w.setCell a v).cell? a=some v:=by
 apply World.cell?_setCell_same; exact h
theorem mK {W w1:World} {n o:Nat} {v:Value} (hb:Below W.heap.size W w1) (hn:n < W.heap.size) (h:W.cell? ⟨n,o,none⟩=some v):w1.cell? ⟨n,o,none⟩=some v:=by
 rw [hb.cell (p:=⟨n,o,none⟩) hn]; exact h
theorem mF {W w1:World} {n o:Nat} (hb:Below W.heap.size W w1) (hn:n < W.heap.size) (h:W.frozen? ⟨n,o,none⟩=false):w1.frozen? ⟨n,o,none⟩=false:=by
 rw [hb.frozen (p:=⟨n,o,none⟩) hn]; exact h
def cB (w:World) (g:Nat):Prop:=∀ j,w.frozen? ⟨g,j,none⟩=false
structure Chg (S:Nat→Prop) (w w':World):Prop where
 base:Below 0 w w'
 block:∀ k,k < w.heap.size→¬ S k→w'.heap[k]?=w.heap[k]?
 free:∀ g,g < w.heap.size→cB w g→cB w' g
theorem Chg.refl (S:Nat→Prop) (w:World):Chg S w w:=⟨Below.refl _ _,fun _ _ _=>rfl,fun _ _ h=>h⟩
theorem Chg.size {S:Nat→Prop} {w w':World} (h:Chg S w w'):w.heap.size≤w'.heap.size:=h.base.size
theorem Chg.trans {S:Nat→Prop} {a b c:World} (h:Chg S a b) (k:Chg S b c):Chg S a c :=
 ⟨h.base.trans k.base,fun i hi hs=>(k.block i (Nat.lt_of_lt_of_le hi h.size) hs).trans (h.block i hi hs),fun g hg hf=>k.free g (Nat.lt_of_lt_of_le hg h.size) (h.free g hg hf)⟩
theorem Chg.mono {S T:Nat→Prop} {a b:World} (h:Chg S a b) (hs:∀ g,S g→T g):Chg T a b :=
 ⟨h.base,fun i hi hn=>h.block i hi fun e=>hn (hs i e),h.free⟩
theorem Chg.of {S:Nat→Prop} {w w':World} (h:Below w.heap.size w w'):Chg S w w' :=
 ⟨h.mono (Nat.zero_le _),fun k hk _=>h.block k hk,fun g hg hf j=>by rw [h.frozen (p:=⟨g,j,none⟩) hg]; exact hf j⟩
theorem Chg.set {S:Nat→Prop} {w:World} {g j:Nat} (v:Value) (hs:S g):Chg S w (w.setCell ⟨g,j,none⟩ v) :=
 ⟨(Below.refl 0 w).setCell (Nat.zero_le _) v,fun k _ hk=>Below.heap_setCell _ _ _ _ (fun e=>hk (by rw [e]; exact hs)),fun g' _ hf j'=>by simpa using hf j'⟩
theorem Chg.below {S:Nat→Prop} {w w':World} {m:Nat} (h:Chg S w w') (hm:∀ g,S g→m≤g) (hw:m≤w.heap.size):Below m w w' :=
 ⟨h.base.os,h.base.tape,h.base.output,h.base.size,fun k hk=>h.block k (Nat.lt_of_lt_of_le hk hw) fun e=>by have:=hm k e; omega⟩
theorem Chg.cell {S:Nat→Prop} {w w':World} (h:Chg S w w') {g o:Nat} (hg:g < w.heap.size) (hs:¬ S g):w'.cell? ⟨g,o,none⟩=w.cell? ⟨g,o,none⟩:=by
 have:=h.block g hg hs;unfold World.cell?;simp only [this]
def I7 (k:Nat) (o:ByteArray):ByteArray:=if _h:k=0 then o else I7 (k / 10) (⟨#[UInt8.ofNat (48 + k % 10)]⟩ ++ o)
def bz (k:Nat):ByteArray:=⟨#[109]⟩ ++ I7 k ⟨#[]⟩
theorem I8 (o:ByteArray):I7 0 o=o:=by rw [I7,dif_pos rfl]
theorem I9 {k:Nat} (h:0 < k) (o:ByteArray):I7 k o=I7 (k / 10) (⟨#[UInt8.ofNat (48 + k % 10)]⟩ ++ o):=by
 rw [I7,dif_neg (Nat.ne_of_gt h)]
set_option maxRecDepth 8000 in
set_option maxHeartbeats 1000000 in
theorem Ac (k:Nat) (w:World) (h0:0 < k) (h1:k≤1000000000) :
  Calls Tryz.prog 47 #[.int .i64 (k:Int)] w fun e w'=>e=.returned (.string (bz k))∧Below w.heap.size w w':=by
 have hk0:¬ (k:Int)≤0:=by omega
 go_enter Tryz.func47,Tryz.ntmps47;go_wp2;go_loopw [0,3] (fun kv ov wr=>∃ (x:Nat) (o:ByteArray),kv=.int .i64 (x:Int)∧ov=.string o∧Hid (I7 x o=I7 k ⟨#[]⟩)∧x * 10 ^ o.size≤k∧x≤k∧(x=0→o.size≤12)∧Hid (Below w.heap.size w wr)) (fun kv _ _=>(intOf kv).toNat);case atStart=>exact ⟨k,⟨#[]⟩,rfl,rfl,rfl,(Nat.le_of_eq (Nat.mul_one k):k * 10 ^ 0≤k),Nat.le_refl _,fun _=>Nat.zero_le _,Below.refl _ _⟩
 case round =>
  obtain ⟨x,o,rfl,rfl,HD,hx,hxk,hz,HB⟩:=hrel;by_cases hpos:0 < x
  ·have hsz:o.size≤9:=by
    rcases Nat.lt_or_ge 9 o.size with h | h
    ·have:10 ^ 10≤10 ^ o.size:=Nat.pow_le_pow_right (by omega) h;have h2:1 * 10 ^ o.size≤x * 10 ^ o.size:=Nat.mul_le_mul_right _ hpos;omega
    ·exact h
   have hx0:(0:Int) < (x:Int):=by omega
   obtain ⟨dd,hdd⟩:∃ dd:UInt8,dd=UInt8.ofNat (48 + x % 10):=⟨_,rfl⟩;have hbt:(48 + (x:Int) % 10)=((dd).toNat:Int):=by
    rw [hdd,UInt8.toNat_ofNat']; omega
   have HCV:(convert 133 9 (.slice (some ⟨wr.heap.size,0,none⟩) 1 1)).run Tryz.prog (wr.alloc (.cells #[.int .u8 (48 + (x:Int) % 10)] 5))=.ok (.string ⟨#[dd]⟩) (wr.alloc (.cells #[.int .u8 (48 + (x:Int) % 10)] 5)) :=
    run_convert_bytes_back _ 133 9 5 ⟨wr.heap.size,0,none⟩ 1 [dd] Tryz.underlying133 Tryz.underlying5 Tryz.underlying9 (fun j hj=>by
     have:j=0:=by simpa using hj
     subst this;rw [hbt];exact World.cell?_alloc_mark wr #[.int .u8 ((dd).toNat:Int)] 5 (0,0) 0)
   have HBT:Hid ((48 + (x:Int) % 10)=((dd).toNat:Int)):=hbt;have hone:(⟨#[dd]⟩:ByteArray).size=1:=rfl;have HD2:Hid (I7 (x / 10) (⟨#[dd]⟩ ++ o)=I7 k ⟨#[]⟩):=by show _=_; rw [← HD.out]; rw [hdd]; exact (I9 hpos o).symm
   have HX2:Hid (x / 10 * 10 ^ ((⟨#[dd]⟩ ++ o:ByteArray)).size≤k):=by
    show _≤_;rw [ByteArray.size_append,hone,Nat.add_comm,Nat.pow_succ];have:x / 10 * (10 ^ o.size * 10)=(x / 10 * 10) * 10 ^ o.size:=by rw [Nat.mul_comm (10 ^ o.size),Nat.mul_assoc]
    rw [this];exact Nat.le_trans (Nat.mul_le_mul_right _ (by omega)) hx
   have HZ2:Hid ((⟨#[dd]⟩ ++ o:ByteArray).size≤12):=by show _≤_; rw [ByteArray.size_append,hone]; omega
   have HB2:Hid (Below w.heap.size w (wr.alloc (.cells #[.int .u8 (48 + (x:Int) % 10)] 5))):=HB.out.alloc HB.out.size _;have HQ:Hid ((x:Int) / 10=((x / 10:Nat):Int)):=by show _=_; omega
   clear hbt hone hdd;go_wp2;go_roundw;case rel=>exact ⟨x / 10,_,congrArg (Value.int .i64) HQ.out,rfl,HD2,HX2.out,by omega,fun _=>HZ2.out,HB2⟩
   case measure=>simp [intOf]; omega
  ·obtain rfl:x=0:=by omega
   have hz2:=hz rfl;have HN:Hid (bz k=⟨#[109]⟩ ++ o):=by show _=_; unfold bz; rw [← HD.out,I8]
   have hx0:¬ (0:Int) < ((0:Nat):Int):=by omega
   go_wp2;go_ret;exact ⟨by rw [HN.out]; rfl,HB.out⟩
theorem aQ (x:Int) (k:Nat) (w:World) (hx:x=(k:Int)) (h0:0 < k) (h1:k≤1000000000) :
  Calls Tryz.prog 47 #[.int .i64 x] w fun e w'=>e=.returned (.string (bz k))∧Below w.heap.size w w':=by
 rw [hx]; exact Ac k w h0 h1
open Go.Maps Pl
def GH (w:World) (b off:Nat) (t:Fc):Prop :=
 w.cell? ⟨b,off,none⟩=some (.string t.a)∧w.cell? ⟨b,off + 1,none⟩=some (.string t.b)∧w.cell? ⟨b,off + 2,none⟩=some (.string t.r)∧w.cell? ⟨b,off + 3,none⟩=some (.string t.c)∧w.cell? ⟨b,off + 4,none⟩=some (.string t.d)
def Nu (w:World) (b off:Nat) (ts:List Fc):Prop:=∀ (i:Nat) (h:i < ts.length),GH w b (off + i * 5) ts[i]
def qZ (w:World) (ad:Option Addr) (ts:List Fc):Prop:=ts=[] ∨ ∃ b off,ad=some ⟨b,off,none⟩∧b < w.heap.size∧Nu w b off ts
theorem GH.same {w w':World} {b off:Nat} {t:Fc} (h:GH w b off t) (hc:∀ o,w'.cell? ⟨b,o,none⟩=w.cell? ⟨b,o,none⟩):GH w' b off t:=by
 obtain ⟨h0,h1,h2,h3,h4⟩:=h;exact ⟨(hc _).trans h0,(hc _).trans h1,(hc _).trans h2,(hc _).trans h3,(hc _).trans h4⟩
theorem qZ.below {w w':World} {ad:Option Addr} {ts:List Fc} (h:qZ w ad ts) (hB:Below w.heap.size w w'):qZ w' ad ts:=by
 rcases h with h | ⟨b,off,e,hb,hr⟩
 ·exact .inl h
 ·exact .inr ⟨b,off,e,Nat.lt_of_lt_of_le hb hB.size,fun i hi=>(hr i hi).same fun o=>hB.cell (p:=⟨b,o,none⟩) hb⟩
def Fc.row (t:Fc):List Value:=[.string t.a,.string t.b,.string t.r,.string t.c,.string t.d]
theorem Ja (x y:Fc) {v:Bool} (h:Aa x y=v) (w:World) :
  (binOp .eql 47 (.agg #[.string x.a,.string x.b,.string x.r,.string x.c,.string x.d]) (.agg #[.string y.a,.string y.b,.string y.r,.string y.c,.string y.d])).run Tryz.prog w=.ok (.bool v) w:=by
 subst h;go_simp;unfold Aa
 (repeat' split) <;> simp_all
theorem GI {ts:List Fc} {k:Nat} (h:k < ts.length) {t:Fc}:dO (ts.drop k) t=(Aa ts[k] t || dO (ts.drop (k + 1)) t):=by
 unfold dO; rw [List.drop_eq_getElem_cons h]; rfl
theorem BN {x y:ByteArray} (k:x.toList=y.toList):x=y:=by
 rw [Go.ByteArray.toList_eq,Go.ByteArray.toList_eq] at k;obtain ⟨x⟩:=x;obtain ⟨y⟩:=y;exact congrArg ByteArray.mk (Array.toList_inj.1 k)
def Tp.row (t:Tp):List Value:=[.string t.a,.string t.b,.string t.r,.string t.c,.string t.d,.string t.s]
def yP (ts:List Tp):List Value:=ts.flatMap Tp.row
theorem yQ:∀ ts:List Tp,(yP ts).length=ts.length * 6
 | []=>rfl
 | r::rs=>by have:=yQ rs; simp only [yP,Tp.row,List.flatMap_cons,List.length_append,List.length_cons,List.length_nil] at this ⊢; omega
theorem BO:∀ (rs:List Tp) (i:Nat) (h:i < rs.length) (j:Nat),j < 6→(yP rs)[i * 6 + j]?=(rs[i]).row[j]?
 | [],i,h,_,_=>by simp at h
 | r::rs,0,_,j,hj=>by
  simp only [yP,List.flatMap_cons,Nat.zero_mul,Nat.zero_add,List.getElem_cons_zero];rw [List.getElem?_append_left (by simpa [Tp.row] using hj)]
 | r::rs,i + 1,h,j,hj=>by
  have:=BO rs i (by simpa using h) j hj;simp only [yP,List.flatMap_cons,List.getElem_cons_succ] at this ⊢;rw [List.getElem?_append_right (by simp [Tp.row]; omega),← this];congr 1;simp [Tp.row]; omega
theorem MX {w:World} {base n:Nat} {v:Value} {ts:List Tp} (h:w.ownsRow base 73 6 v n (yP ts)) (hn:n=ts.length):∃ ad cap,v=.slice ad ts.length cap∧Sl w ad ts∧∀ g,ad=some ⟨g,0,none⟩→base≤g∧g < w.heap.size∧cB w g:=by
 subst hn;have h2:=h;rcases h.2 with ⟨rfl,h0⟩ | ⟨g,cap,cur,rfl,hbg,hg,hnc,-⟩
 ·exact ⟨none,0,by rw [h0],.inl (List.length_eq_zero_iff.1 h0),fun g e=>by cases e⟩
 ·have hlt:=h2.lt g rfl;refine ⟨some ⟨g,0,none⟩,cap,rfl,.inr ⟨g,0,rfl,hlt.2,fun i hi=>?_⟩,fun g' e=>?_⟩
  ·have hl:=yQ ts;have key:∀ j,j < 6→w.cell? ⟨g,0 + i * 6 + j,none⟩=(ts[i]).row[j]?:=fun j hj=>by
    rw [h2.cellAt (0 + i * 6 + j) (by omega),← BO ts i hi j hj,Nat.zero_add]
   exact ⟨key 0 (by omega),key 1 (by omega),key 2 (by omega),key 3 (by omega),key 4 (by omega),key 5 (by omega)⟩
  ·injection e with e; injection e with e1 e2;subst e1;exact ⟨hlt.1,hlt.2,fun y=>h2.frozenAt y⟩
theorem aH {B:Nat} {w w':World} (hB:Below B w w') {n o:Nat} {v:Value} (hn:n < B) (h:w.cell? ⟨n,o,none⟩=some v):w'.cell? ⟨n,o,none⟩=some v:=(hB.cell (p:=⟨n,o,none⟩) hn).trans h
theorem aj {p:Prop} (h:p):Hid p:=h
theorem aJ {w w':World} {base:Nat} {e:TypeId} {size:Nat} {v:Value} {n:Nat} {xs:List Value} (h:w.ownsRow base e size v n xs) (hb:Below w.heap.size w w'):w'.ownsRow base e size v n xs:=by
 have hl:=fun g hg=>(h.lt g hg).2;refine ⟨h.1,?_⟩;rcases h.2 with h0 | ⟨g,cap,cur,rfl,h1,h2,h3⟩
 ·exact .inl h0
 ·exact .inr ⟨g,cap,cur,rfl,h1,(hb.block g (hl g rfl)).trans h2,h3⟩
theorem Jb (n lo hi:Int) (w:World) :
  Calls Tryz.prog 118 #[.int .i64 n,.int .i64 lo,.int .i64 hi] w fun e w'=>e=.returned (.bool (decide (lo≤n) && decide (n≤hi)))∧w'=w:=by
 go_enter Tryz.func118,Tryz.ntmps118;go_wp2
 all_goals go_ret
 all_goals exact ⟨ae (by simp [*] <;> omega),rfl⟩
set_option maxRecDepth 8000 in
set_option maxHeartbeats 2000000 in
theorem vM (r:ER) (w:World) (hf:r.e.fits) (h1:r.e.kind ≠ 1) :
  Calls Tryz.prog 117 #[r.val] w fun e w'=>e=.returned (.bool (ax r.e))∧Below w.heap.size w w':=by
 obtain ⟨⟨kind,allow,over,name,kids⟩,adA,capA,adK,capK⟩:=r;obtain ⟨f1,f2,f3,f4,f5⟩:=hf;simp only at f1 f2 f3 f4 f5 h1;simp only [ER.val];unfold maxLen at f4 f5;by_cases h2:kind=2
 ·subst h2;clear h1;go_enter Tryz.func117,Tryz.ntmps117;go_wp2_with (go_at_call 77; refine (aA _ _ (by assumption)).mono ?_; rintro e w' ⟨rfl,rfl⟩)
  all_goals go_ret
  all_goals exact ⟨ae (by first | (simp [ax, *]; done) | (simp [ax, *]; omega) | (simp [ax, *]; rw [Bool.eq_iff_iff]; simp; done) | (simp [ax, *]; rw [Bool.eq_iff_iff]; simp; omega)),(Below.refl w.heap.size w).alloc (Nat.le_refl _) _⟩
 by_cases h3:kind=3
 ·subst h3;clear h1;go_enter Tryz.func117,Tryz.ntmps117;go_wp2_with (go_at_call 77; refine (aA _ _ (by assumption)).mono ?_; rintro e w' ⟨rfl,rfl⟩)
  all_goals go_ret
  all_goals exact ⟨ae (by first | (simp [ax, *]; done) | (simp [ax, *]; omega) | (simp [ax, *]; rw [Bool.eq_iff_iff]; simp; done) | (simp [ax, *]; rw [Bool.eq_iff_iff]; simp; omega)),(Below.refl w.heap.size w).alloc (Nat.le_refl _) _⟩
 by_cases h4:kind=4
 ·subst h4;clear h1;go_enter Tryz.func117,Tryz.ntmps117;go_wp2_with (go_at_call 77; refine (aA _ _ (by assumption)).mono ?_; rintro e w' ⟨rfl,rfl⟩)
  all_goals go_ret
  all_goals exact ⟨ae (by first | (simp [ax, *]; done) | (simp [ax, *]; omega) | (simp [ax, *]; rw [Bool.eq_iff_iff]; simp; done) | (simp [ax, *]; rw [Bool.eq_iff_iff]; simp; omega)),(Below.refl w.heap.size w).alloc (Nat.le_refl _) _⟩
 by_cases h5:kind=5
 ·subst h5;clear h1;go_enter Tryz.func117,Tryz.ntmps117;go_wp2_with (go_at_call 77; refine (aA _ _ (by assumption)).mono ?_; rintro e w' ⟨rfl,rfl⟩)
  all_goals go_ret
  all_goals exact ⟨ae (by first | (simp [ax, *]; done) | (simp [ax, *]; omega) | (simp [ax, *]; rw [Bool.eq_iff_iff]; simp; done) | (simp [ax, *]; rw [Bool.eq_iff_iff]; simp; omega)),(Below.refl w.heap.size w).alloc (Nat.le_refl _) _⟩
 by_cases h6:kind=6
 ·subst h6;clear h1;go_enter Tryz.func117,Tryz.ntmps117;go_wp2_with (go_at_call 77; refine (aA _ _ (by assumption)).mono ?_; rintro e w' ⟨rfl,rfl⟩)
  all_goals go_ret
  all_goals exact ⟨ae (by first | (simp [ax, *]; done) | (simp [ax, *]; omega) | (simp [ax, *]; rw [Bool.eq_iff_iff]; simp; done) | (simp [ax, *]; rw [Bool.eq_iff_iff]; simp; omega)),(Below.refl w.heap.size w).alloc (Nat.le_refl _) _⟩
 ·go_enter Tryz.func117,Tryz.ntmps117;go_wp2_with (go_at_call 77; refine (aA _ _ (by assumption)).mono ?_; rintro e w' ⟨rfl,rfl⟩)
  all_goals go_ret
  all_goals exact ⟨ae (by first | (simp [ax, *]; done) | (simp [ax, *]; omega) | (simp [ax, *]; rw [Bool.eq_iff_iff]; simp; done) | (simp [ax, *]; rw [Bool.eq_iff_iff]; simp; omega)),(Below.refl w.heap.size w).alloc (Nat.le_refl _) _⟩
theorem q8 (x y:Al) {v:Bool} (h:iC x y=v) (w:World) :
  (binOp .eql 146 (.agg #[.string x.t,.string x.s]) (.agg #[.string y.t,.string y.s])).run Tryz.prog w=.ok (.bool v) w:=by
 subst h;go_simp;unfold iC;by_cases h1:x.t.toList=y.t.toList <;> by_cases h2:x.s.toList=y.s.toList <;> simp [h1,h2]
theorem q9 {xs:List Al} {j k:Nat} {a:Al} (hjk:j < k) (hj:j < xs.length) (h:iC xs[j] a=true):di xs k a=true:=by
 unfold di;rw [List.any_eq_true];refine ⟨xs[j],?_,h⟩;rw [List.mem_take_iff_getElem];exact ⟨j,by omega,rfl⟩
set_option maxRecDepth 8000 in
set_option maxHeartbeats 4000000 in
theorem xM (r:ER) (w:World) (hf:r.e.fits) (hok:r.ok w) (h1:r.e.kind=1) :
  Calls Tryz.prog 117 #[r.val] w fun e w'=>e=.returned (.bool (ax r.e))∧Below w.heap.size w w':=by
 obtain ⟨⟨kind,allow,over,name,kids⟩,adA,capA,adK,capK⟩:=r;obtain ⟨f1,f2,f3,f4,f5⟩:=hf;obtain ⟨hA,hK⟩:=hok;simp only at f1 f2 f3 f4 f5 h1 hA hK;subst h1;simp only [ER.val];unfold maxLen at f4 f5;by_cases hl:1≤allow.length∧allow.length≤6
 ·obtain ⟨hl1,hl2⟩:=hl;obtain ⟨W,hW⟩:∃ W,W=w.alloc (.cells #[.int .i64 1,.slice adA allow.length capA,.string over,.string name,.slice adK kids.length capK] 154):=⟨_,rfl⟩;have HB0:Hid (Below w.heap.size w W):=by show Below _ _ _; rw [hW]; exact (Below.refl w.heap.size w).alloc (Nat.le_refl _) _
  have hz:w.heap.size < W.heap.size:=by rw [hW]; simp
  have b1:W.cell? ⟨w.heap.size,1,none⟩=some (.slice adA allow.length capA):=by rw [hW]; simp
  have b2:W.cell? ⟨w.heap.size,2,none⟩=some (.string over):=by rw [hW]; simp
  have b3:W.cell? ⟨w.heap.size,3,none⟩=some (.string name):=by rw [hW]; simp
  have HA:Hid (dm W adA allow):=hA.below HB0.out;have HF1:Hid (∀ a ∈ allow,a.fits):=f1;clear hA hK f1;go_enter Tryz.func117,Tryz.ntmps117;go_wp2_with fail;rw [← hW];clear hW;go_loopw [4] (fun i wr=>∃ k:Nat,k≤allow.length∧i=.int .i64 k∧Hid (zW allow k=true)∧Below W.heap.size W wr) (fun i _=>allow.length - (intOf i).toNat);case atStart=>exact ⟨0,Nat.zero_le _,rfl,rfl,Below.refl _ _⟩
  case round =>
   obtain ⟨k,hk,rfl,HU,hB⟩:=hrel;have a1:=kept hB hz b1;have a2:=kept hB hz b2;have a3:=kept hB hz b3;by_cases hlt:k < allow.length
   ·rcases HA.out.below hB with rfl | ⟨b,off,rfl,hb,hr⟩
    ·simp at hlt
    obtain ⟨t0,t1⟩:=hr k hlt;obtain ⟨z0,z1⟩:=HF1.out allow[k] (List.getElem_mem hlt);have HR:Hid (∀ (i:Nat) (h:i < allow.length),Iw wr b (off + i * 2) allow[i]):=hr;clear hr;obtain ⟨W1,hW1⟩:∃ W1,W1=wr.alloc (.cells #[.string allow[k].t,.string allow[k].s] 146):=⟨_,rfl⟩;have hal:Below wr.heap.size wr W1:=by rw [hW1]; exact (Below.refl _ _).alloc (Nat.le_refl _) _
    have hBW1:Below W.heap.size wr W1:=hal.mono hB.size;have hsz:w.heap.size < wr.heap.size:=Nat.lt_of_lt_of_le hz hB.size;have hWs:W.heap.size≤W1.heap.size:=Nat.le_trans hB.size hal.size;have c1:=kept hal hsz a1;have c2:=kept hal hsz a2;have c3:=kept hal hsz a3;have hbl:b < W1.heap.size:=Nat.lt_of_lt_of_le hb hal.size;have hgl:wr.heap.size < W1.heap.size:=by rw [hW1]; simp
    have g0:W1.cell? ⟨wr.heap.size,0,none⟩=some (.string allow[k].t):=by rw [hW1]; simp
    have g1:W1.cell? ⟨wr.heap.size,1,none⟩=some (.string allow[k].s):=by rw [hW1]; simp
    have HR1:Hid (∀ (i:Nat) (h:i < allow.length),Iw W1 b (off + i * 2) allow[i]):=fun i hi=>(HR.out i hi).same fun o=>hal.cell (p:=⟨b,o,none⟩) hb;cases hn:aL allow[k].t with
    | false =>
     have HN:Hid (zW allow allow.length=false):=jP allow k hlt (by simp [Iy,hn]) _ hlt;go_wp2_with (go_at_call 77; refine (aA _ _ (by assumption)).mono ?_; rintro e w' ⟨rfl,rfl⟩);go_ret;exact ⟨ae (by simp [ax,fG,HN.out]),HB0.out.trans ((hB.trans ((Below.refl _ _).alloc hB.size _)).mono HB0.out.size)⟩
    | true =>
     cases he:allow[k].s.toList.isEmpty with
     | true =>
      have HAl:Hid (Iy allow[k]=true):=by show _=_; simp [Iy,uR,hn,he]
      go_wp2_with (go_at_call 77; refine (aA _ _ (by assumption)).mono ?_; rintro e w' ⟨rfl,rfl⟩);rw [← hW1];go_loopw [6] (fun i w2=>∃ j:Nat,j≤k∧i=.int .i64 j∧Hid (di allow j allow[k]=false)∧Below W1.heap.size W1 w2) (fun i _=>k - (intOf i).toNat);case atStart=>exact ⟨0,Nat.zero_le _,rfl,kZ _ _,Below.refl _ _⟩
      case round =>
       obtain ⟨j,hj,rfl,HP,hB2⟩:=hrel;rename_i w2 _;have d1:=kept hB2 (by omega) c1;have d2:=kept hB2 (by omega) c2;have d3:=kept hB2 (by omega) c3;have p0:=kept hB2 hgl g0;have p1:=kept hB2 hgl g1;by_cases hjk:j < k
       ·obtain ⟨q0,q1⟩:=(HR1.out j (by omega)).same fun o=>hB2.cell (p:=⟨b,o,none⟩) hbl;have hj1:(0:Int)≤(j:Int):=by omega
        have hj2:(j:Int) < (allow.length:Int):=by omega
        cases hq:iC allow[j] allow[k] with
        | true =>
         have HE:=q8 allow[j] allow[k] hq;have HN:Hid (zW allow allow.length=false):=jP allow k hlt (by rw [(q9 hjk (by omega) hq)]; simp) _ hlt;go_wp2_with fail;go_quiet (fail);go_wp2;go_ret;exact ⟨ae (by simp [ax,fG,HN.out]),HB0.out.trans ((hB.trans (hBW1.trans (hB2.mono (by omega)))).mono HB0.out.size |> fun h=>below_drewN h _)⟩
        | false =>
         have HE:=q8 allow[j] allow[k] hq;have HP2:Hid (di allow (j + 1) allow[k]=false):=by show _=_; rw [kY _ _ _ (by omega),HP.out,hq]; rfl
         go_wp2_with fail;go_quiet (fail);go_wp2;go_roundw;case rel=>exact ⟨j + 1,by omega,by go_num,HP2,below_drewN hB2 _⟩
         case measure=>simp [intOf]; omega
       ·obtain rfl:j=k:=by omega
        have HU2:Hid (zW allow (j + 1)=true):=by show _=_; rw [pV _ _ hlt,HU.out,HAl.out,HP.out]; rfl
        go_wp2;go_roundw;case rel=>exact ⟨j + 1,by omega,by go_num,HU2,hB.trans (hBW1.trans (hB2.mono (by omega)))⟩
        case measure=>simp [intOf]; omega
     | false =>
      cases hm:aL allow[k].s with
      | false =>
       have HN:Hid (zW allow allow.length=false):=jP allow k hlt (by simp [Iy,hn,uR,he,hm]) _ hlt;go_wp2_with (go_at_call 77; refine (aA _ _ (by assumption)).mono ?_; rintro e w' ⟨rfl,rfl⟩);go_ret;exact ⟨ae (by simp [ax,fG,HN.out]),HB0.out.trans ((hB.trans ((Below.refl _ _).alloc hB.size _)).mono HB0.out.size)⟩
      | true =>
       have HAl:Hid (Iy allow[k]=true):=by show _=_; simp [Iy,uR,hn,he,hm]
       go_wp2_with (go_at_call 77; refine (aA _ _ (by assumption)).mono ?_; rintro e w' ⟨rfl,rfl⟩);rw [← hW1];go_loopw [6] (fun i w2=>∃ j:Nat,j≤k∧i=.int .i64 j∧Hid (di allow j allow[k]=false)∧Below W1.heap.size W1 w2) (fun i _=>k - (intOf i).toNat);case atStart=>exact ⟨0,Nat.zero_le _,rfl,kZ _ _,Below.refl _ _⟩
       case round =>
        obtain ⟨j,hj,rfl,HP,hB2⟩:=hrel;rename_i w2 _;have d1:=kept hB2 (by omega) c1;have d2:=kept hB2 (by omega) c2;have d3:=kept hB2 (by omega) c3;have p0:=kept hB2 hgl g0;have p1:=kept hB2 hgl g1;by_cases hjk:j < k
        ·obtain ⟨q0,q1⟩:=(HR1.out j (by omega)).same fun o=>hB2.cell (p:=⟨b,o,none⟩) hbl;have hj1:(0:Int)≤(j:Int):=by omega
         have hj2:(j:Int) < (allow.length:Int):=by omega
         cases hq:iC allow[j] allow[k] with
         | true =>
          have HE:=q8 allow[j] allow[k] hq;have HN:Hid (zW allow allow.length=false):=jP allow k hlt (by rw [(q9 hjk (by omega) hq)]; simp) _ hlt;go_wp2_with fail;go_quiet (fail);go_wp2;go_ret;exact ⟨ae (by simp [ax,fG,HN.out]),HB0.out.trans ((hB.trans (hBW1.trans (hB2.mono (by omega)))).mono HB0.out.size |> fun h=>below_drewN h _)⟩
         | false =>
          have HE:=q8 allow[j] allow[k] hq;have HP2:Hid (di allow (j + 1) allow[k]=false):=by show _=_; rw [kY _ _ _ (by omega),HP.out,hq]; rfl
          go_wp2_with fail;go_quiet (fail);go_wp2;go_roundw;case rel=>exact ⟨j + 1,by omega,by go_num,HP2,below_drewN hB2 _⟩
          case measure=>simp [intOf]; omega
        ·obtain rfl:j=k:=by omega
         have HU2:Hid (zW allow (j + 1)=true):=by show _=_; rw [pV _ _ hlt,HU.out,HAl.out,HP.out]; rfl
         go_wp2;go_roundw;case rel=>exact ⟨j + 1,by omega,by go_num,HU2,hB.trans (hBW1.trans (hB2.mono (by omega)))⟩
         case measure=>simp [intOf]; omega
   ·obtain rfl:k=allow.length:=by omega
    have HAW:Hid (fG allow=true):=by show _=_; simp [fG,hl1,hl2,HU.out]
    go_wp2
    all_goals go_ret
    all_goals exact ⟨ae (by first | (simp [ax,HAW.out, *]; done) | (simp [ax,HAW.out, *]; rw [Bool.eq_iff_iff]; simp; done)),HB0.out.trans (hB.mono HB0.out.size)⟩
 ·go_enter Tryz.func117,Tryz.ntmps117;go_wp2_with fail
  all_goals go_ret
  all_goals exact ⟨ae (by simp [ax,fG]; omega),(Below.refl w.heap.size w).alloc (Nat.le_refl _) _⟩
theorem Ad (r:ER) (w:World) (hf:r.e.fits) (hok:r.ok w) :
  Calls Tryz.prog 117 #[r.val] w fun e w'=>e=.returned (.bool (ax r.e))∧Below w.heap.size w w':=by
 by_cases h:r.e.kind=1
 ·exact xM r w hf hok h
 ·exact vM r w hf h
end Go.Proofs.YtogjfppkbkgaeaaGreat
