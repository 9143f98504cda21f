/- The library's SortFunc over a row of facts: the same facts, each no higher than those behind it. -/
import Derived.Test.YtogjfppkbkgaeaaGreatJ27
import Derived.Test.YtogjfppkbkgaeaaGreatJ8
import Derived.Test.YtogjfppkbkgaeaaGreatShelf
import Derived.Test.YtogjfppkbkgaeaaGreatShelfS
import Derived.Sort.Grow
import Derived.Test.YtogjfppkbkgaeaaGreatJ7
namespace Go.Proofs.YtogjfppkbkgaeaaGreat
set_option maxRecDepth 100000
set_option linter.unusedVariables false
open Go.ChangeShapes Go.WideShapes Go.ChangeAt Go.RowKit Go.Maps Go.Shelf Go.Sort
open Pl
theorem ny (f:Fc) (w:World) :
  Calls Tryz.prog 72 #[.agg #[.string f.a,.string f.b,.string f.r,.string f.c,.string f.d]] w fun e w'=>e=.returned (.agg #[.string f.a,.string f.b,.string f.r,.string f.c,.string f.d,.string ⟨#[]⟩])∧BelowD w.heap.size w w':=by
 go_enter Tryz.func72,Tryz.ntmps72;go_wp2;exact bodyPost_ret (v:=.agg #[.string f.a,.string f.b,.string f.r,.string f.c,.string f.d,.string ⟨#[]⟩]) (by simp [results,Tryz.results72,go_sem, *]) rfl ⟨rfl,⟨by
  repeat (first | exact Below.refl _ _ | refine Below.setCell ?_ (by first | (simp; done) | (simp; omega)) _ | refine Below.alloc ?_ (by first | (simp; done) | (simp; omega)) _),Nat.le_refl _⟩⟩
def Ll (x y:Fc):Int:=DZ x.a x.b x.r x.c x.d ⟨#[]⟩ y.a y.b y.r y.c y.d ⟨#[]⟩
theorem Lm {w W w':World} {n m:Nat} {x0 x1 x2 x3 x4 y0 y1 y2 y3 y4:Value} (h:W.cell? ⟨n,0,none⟩=some x0∧W.cell? ⟨n,1,none⟩=some x1∧W.cell? ⟨n,2,none⟩=some x2∧W.cell? ⟨n,3,none⟩=some x3∧W.cell? ⟨n,4,none⟩=some x4∧W.cell? ⟨m,0,none⟩=some y0∧W.cell? ⟨m,1,none⟩=some y1∧W.cell? ⟨m,2,none⟩=some y2∧W.cell? ⟨m,3,none⟩=some y3∧W.cell? ⟨m,4,none⟩=some y4∧BelowD w.heap.size w W) (hb:BelowD W.heap.size W w'):w'.cell? ⟨n,0,none⟩=some x0∧w'.cell? ⟨n,1,none⟩=some x1∧w'.cell? ⟨n,2,none⟩=some x2∧w'.cell? ⟨n,3,none⟩=some x3∧w'.cell? ⟨n,4,none⟩=some x4∧w'.cell? ⟨m,0,none⟩=some y0∧w'.cell? ⟨m,1,none⟩=some y1∧w'.cell? ⟨m,2,none⟩=some y2∧w'.cell? ⟨m,3,none⟩=some y3∧w'.cell? ⟨m,4,none⟩=some y4∧BelowD w.heap.size w w':=by
 obtain ⟨h0,h1,h2,h3,h4,g0,g1,g2,g3,g4,hB⟩:=h;exact ⟨aH hb.b (av h0) h0,aH hb.b (av h1) h1,aH hb.b (av h2) h2,aH hb.b (av h3) h3,aH hb.b (av h4) h4,aH hb.b (av g0) g0,aH hb.b (av g1) g1,aH hb.b (av g2) g2,aH hb.b (av g3) g3,aH hb.b (av g4) g4,hB.trans (hb.mono hB.size)⟩
set_option maxHeartbeats 4000000 in
theorem r9 (x y:Fc) (w:World) (hx:x.fits) (hy:y.fits) :
  Calls Tryz.prog 43 #[.agg #[.string x.a,.string x.b,.string x.r,.string x.c,.string x.d],.agg #[.string y.a,.string y.b,.string y.r,.string y.c,.string y.d]] w fun e w'=>e=.returned (.int .i64 (Ll x y))∧BelowD w.heap.size w w':=by
 have he0:(⟨#[]⟩:ByteArray).size≤maxLen:=by decide
 obtain ⟨x0,x1,x2,x3,x4⟩:=hx;obtain ⟨y0,y1,y2,y3,y4⟩:=hy;obtain ⟨W0,hW0⟩:∃ W0,W0=(w.alloc (.cells #[.string x.a,.string x.b,.string x.r,.string x.c,.string x.d] 47)).alloc (.cells #[.string y.a,.string y.b,.string y.r,.string y.c,.string y.d] 47):=⟨_,rfl⟩;have HB0:BelowD w.heap.size w W0:=by rw [hW0]; exact FV _ _ _
 have c0:W0.cell? ⟨w.heap.size,0,none⟩=some (.string x.a):=by rw [hW0]; simp
 have c1:W0.cell? ⟨w.heap.size,1,none⟩=some (.string x.b):=by rw [hW0]; simp
 have c2:W0.cell? ⟨w.heap.size,2,none⟩=some (.string x.r):=by rw [hW0]; simp
 have c3:W0.cell? ⟨w.heap.size,3,none⟩=some (.string x.c):=by rw [hW0]; simp
 have c4:W0.cell? ⟨w.heap.size,4,none⟩=some (.string x.d):=by rw [hW0]; simp
 have e0:W0.cell? ⟨w.heap.size + 1,0,none⟩=some (.string y.a):=by rw [hW0]; simp
 have e1:W0.cell? ⟨w.heap.size + 1,1,none⟩=some (.string y.b):=by rw [hW0]; simp
 have e2:W0.cell? ⟨w.heap.size + 1,2,none⟩=some (.string y.r):=by rw [hW0]; simp
 have e3:W0.cell? ⟨w.heap.size + 1,3,none⟩=some (.string y.c):=by rw [hW0]; simp
 have e4:W0.cell? ⟨w.heap.size + 1,4,none⟩=some (.string y.d):=by rw [hW0]; simp
 unfold Ll;go_enter Tryz.func43,Tryz.ntmps43;go_wp2_with fail;rw [← hW0];clear hW0
 go_region_held3 (fun w'=>w'.cell? ⟨w.heap.size,0,none⟩=some (.string x.a)∧w'.cell? ⟨w.heap.size,1,none⟩=some (.string x.b)∧w'.cell? ⟨w.heap.size,2,none⟩=some (.string x.r)∧w'.cell? ⟨w.heap.size,3,none⟩=some (.string x.c)∧w'.cell? ⟨w.heap.size,4,none⟩=some (.string x.d)∧w'.cell? ⟨w.heap.size + 1,0,none⟩=some (.string y.a)∧w'.cell? ⟨w.heap.size + 1,1,none⟩=some (.string y.b)∧w'.cell? ⟨w.heap.size + 1,2,none⟩=some (.string y.r)∧w'.cell? ⟨w.heap.size + 1,3,none⟩=some (.string y.c)∧w'.cell? ⟨w.heap.size + 1,4,none⟩=some (.string y.d)∧BelowD w.heap.size w w')
  (first | assumption | exact Lm (by assumption) hbx | exact ⟨c0,c1,c2,c3,c4,e0,e1,e2,e3,e4,HB0.drew⟩)
  (first | (go_at_call_of 72 (Value.agg #[Value.string x.a,Value.string x.b,Value.string x.r,Value.string x.c,Value.string x.d]); refine (ny x _).mono ?_; rintro e w' ⟨rfl,hbx⟩) | (go_at_call_of 72 (Value.agg #[Value.string y.a,Value.string y.b,Value.string y.r,Value.string y.c,Value.string y.d]); refine (ny y _).mono ?_; rintro e w' ⟨rfl,hbx⟩) | (go_at_call 71; refine (pE x.a x.b x.r x.c x.d ⟨#[]⟩ y.a y.b y.r y.c y.d ⟨#[]⟩ _ x0 x1 x2 x3 x4 he0 y0 y1 y2 y3 y4 he0).mono ?_; rintro e w' ⟨rfl,hbx⟩))
 all_goals (rename_i hJ; obtain ⟨-,-,-,-,-,-,-,-,-,-,gB⟩:=hJ; clear c0 c1 c2 c3 c4 e0 e1 e2 e3 e4; go_wp2; go_ret; exact ⟨rfl,gB⟩)
abbrev FW:={ f:Fc // f.fits }
def kR (x:FW):List Value:=x.1.row
def Nt (x y:FW):Int:=Ll x.1 y.1
def Bq (x:Fc):List UInt8:=(aN x.a x.b x.r x.c x.d ⟨#[]⟩).toList
def L6 (x y:FW):Bool:=Op.bytesLess (Bq x.1) (Bq y.1)
theorem J9:ltOf Nt=L6:=by
 funext x y
 unfold ltOf Nt L6 Ll DZ Bq;rw [qa,Go.ByteArray.toList_eq,Go.ByteArray.toList_eq]
theorem Lp:Go.Sort.SWO L6 where
 irrefl x:=Ls.lt_irrefl _
 trans x y z h k:=Ls.lt_trans _ _ _ h k
 ntrans x y z h k:=by
  cases e:L6 x z with
  | false=>rfl
  | true =>
   by_cases e1:Bq y.1=Bq x.1
   ·unfold L6 at *; rw [e1] at k; rw [k] at e; cases e
   ·rcases Ls.lt_total _ _ e1 with h1 | h1
    ·have:L6 y z=true:=Ls.lt_trans _ _ _ h1 e;rw [k] at this; cases this
    ·have h:L6 x y=false:=h;have h1:L6 x y=true:=h1;rw [h] at h1; cases h1
theorem Ka [Inhabited FW] (blk off size:Nat) (w:World):CmpLays Tryz.prog 43 #[] kR 5 Nt blk off size w:=fun m os dk _ x y =>
 (r9 x.1 y.1 _ x.2 y.2).mono fun e w' ⟨he,hb⟩=>⟨he,hb.grew⟩
def jf (xs:List FW):List Fc:=xs.map (·.1)
theorem jr (xs:List FW):(jf xs).length=xs.length:=by simp [jf]
theorem H6 [Inhabited FW] (w:World) (blk off n:Nat) (d:Array FW) (os:Array Obj):Chg (fun g=>g=blk) w (sortWorldK kR 5 w blk off n d os):=by
 refine ⟨⟨rfl,rfl,rfl,?_,fun k hk=>absurd hk (Nat.not_lt_zero _)⟩,fun k hk hne=>?_,fun g hg hf j=>?_⟩
 ·simp [sortWorldK,grow,putRowK,Sort.ahead]
 ·simp only [sortWorldK,putRowK];rw [heap_grow_old _ _ (by simpa [Sort.ahead] using hk)];have hne:blk ≠ k:=fun e=>hne e.symm;simp [putRow,mapBlock,Sort.ahead,Array.getElem?_modify,hne]
 ·simp only [sortWorldK,putRowK];rw [frozen?_grow _ _ _ (by simpa [Sort.ahead] using hg),frozen?_putRow,frozen?_ahead];exact hf j
theorem FX [Inhabited FW] {w:World} {base g cap:Nat} {xs:List FW} (h:w.ownsRow base 47 5 (.slice (some ⟨g,0,none⟩) xs.length cap) xs.length (aB (jf xs))):HoldsK kR 5 w g 0 xs.toArray:=by
 intro t ht;rw [size_flatK] at ht;have ht':t < xs.length * 5:=by simpa using ht
 have hi:t / 5 < xs.length:=by omega
 have hr:t % 5 < 5:=Nat.mod_lt _ (by omega);refine ⟨?_,by rw [Nat.zero_add]; exact h.frozenAt t⟩;rw [Nat.zero_add,h.cellAt t ht',get_flatK _ _ _ _ ht];have e:t=t / 5 * 5 + t % 5:=by omega
 have h1:=mJ (jf xs) (t / 5) (by rw [jr]; exact hi) (t % 5) hr;rw [← e] at h1;rw [h1];have h2:(xs.toArray)[t / 5]! = xs[t / 5]:=by rw [getElem!_pos xs.toArray _ (by simpa using hi)]; simp
 rw [h2];have h3:(jf xs)[t / 5]'(by rw [jr]; exact hi)=xs[t / 5].1:=by simp [jf]
 rw [h3];have hl:t % 5 < (Fc.row xs[t / 5].1).length:=hr;show _=some ((Fc.row xs[t / 5].1)[t % 5]!);rw [List.getElem?_eq_getElem hl,getElem!_pos (Fc.row xs[t / 5].1) (t % 5) hl]
theorem Nf [Inhabited FW] {w:World} {base g n cap:Nat} {xs ys:List FW} (h0:w.ownsRow base 47 5 (.slice (some ⟨g,0,none⟩) n cap) n (aB (jf xs))) (hx:xs.length=n) (hl:ys.length=n) (m:Nat) (os:Array Obj):(sortWorldK kR 5 w g 0 m ys.toArray os).ownsRow base 47 5 (.slice (some ⟨g,0,none⟩) n cap) n (aB (jf ys)):=by
 subst hx;have hg:=(h0.lt g rfl).2;have hH:=holdsK_sortWorldK_c kR 5 w g 0 xs.toArray ys.toArray m os (FX h0) hg (by simpa using hl);have hlen:(aB (jf ys)).length=xs.length * 5:=by rw [jl,jr,hl]
 refine ⟨hlen,.inr ?_⟩;rcases h0.2 with ⟨e,-⟩ | ⟨g',cap',cur,e,h1,h2,h3,h4,h5,-⟩
 ·cases e
 injection e with e1 e2 e3;injection e1 with e1; injection e1 with e1;subst e1; subst e3;have hb:(sortWorldK kR 5 w g 0 m ys.toArray os).heap[g]?=some (.cells (putCells id 0 (flatK kR 5 ys.toArray) cur) 47 (0,0)):=by
  simp only [sortWorldK,putRowK];rw [heap_grow_old _ _ (by simpa [Sort.ahead] using hg)];simp [putRow,mapBlock,Sort.ahead,Array.getElem?_modify,h2,onCells]
 refine ⟨g,cap,_,rfl,h1,hb,h3,h4,by simp only [putCells,Array.size_mapIdx]; exact h5,?_⟩;refine List.ext_getElem? fun j=>?_;by_cases hj:j < xs.length * 5
 ·rw [List.getElem?_take_of_lt hj];have hi:j / 5 < ys.length:=by omega
  have h6:=(hH j (by rw [size_flatK]; simpa [hl] using hj)).1;rw [Nat.zero_add,get_flatK _ _ _ _ (by simpa [hl] using hj)] at h6;replace h6:(sortWorldK kR 5 w g 0 m ys.toArray os).cell? ⟨g,j,none⟩=some ((kR (ys.toArray)[j / 5]!)[j % 5]!):=h6;have h7:(putCells id 0 (flatK kR 5 ys.toArray) cur).toList[j]?=some ((kR (ys.toArray)[j / 5]!)[j % 5]!):=by
   rw [← h6];simp [World.cell?,hb]
  rw [h7];have e:j=j / 5 * 5 + j % 5:=by omega
  have h8:=mJ (jf ys) (j / 5) (by rw [jr]; exact hi) (j % 5) (Nat.mod_lt _ (by omega));rw [← e] at h8;rw [h8];have h9:(ys.toArray)[j / 5]! = ys[j / 5]:=by rw [getElem!_pos ys.toArray _ (by simpa using hi)]; simp
  have h10:(jf ys)[j / 5]'(by rw [jr]; exact hi)=ys[j / 5].1:=by simp [jf]
  rw [h9,h10];have hl2:j % 5 < (Fc.row ys[j / 5].1).length:=Nat.mod_lt _ (by omega);show some ((Fc.row ys[j / 5].1)[j % 5]!)=_;rw [List.getElem?_eq_getElem hl2,getElem!_pos (Fc.row ys[j / 5].1) (j % 5) hl2]
 ·rw [List.getElem?_eq_none (by rw [List.length_take]; omega),List.getElem?_eq_none (by omega)]
theorem H7 (base g cap:Nat) (fs:List Fc) (w:World) (hf:∀ f ∈ fs,f.fits) (hR:w.ownsRow base 47 5 (.slice (some ⟨g,0,none⟩) fs.length cap) fs.length (aB fs)) (hne:fs ≠ []) (h6:fs.length≤200000) :
  Calls Tryz.prog 42 #[.slice (some ⟨g,0,none⟩) fs.length cap,.func (.func 43) #[] #[]] w fun e w'=>e=.returned (.tuple #[])∧∃ ys:List Fc,ys.Perm fs∧ys.Pairwise (fun x y=>Op.bytesLess (Bq y) (Bq x)=false)∧w'.ownsRow base 47 5 (.slice (some ⟨g,0,none⟩) fs.length cap) fs.length (aB ys)∧Chg (fun k=>k=g) w w':=by
 obtain ⟨xs,hxs⟩:∃ xs:List FW,jf xs=fs:=⟨fs.attach.map fun x=>⟨x.1,hf x.1 x.2⟩,by unfold jf; rw [List.map_map]; simp [Function.comp_def]⟩;subst hxs;rw [jr] at hR h6 ⊢;cases xs with
 | nil=>exact absurd rfl hne
 | cons x0 xs0 =>
  letI:Inhabited FW:=⟨x0⟩
  have hg:=hR.lt g rfl;have eg:∀ args w,(callFunc 43 args).run Tryz.prog w=.ok (.enter 43 args) w:=enters_of Tryz.func43 (by kernel_rfl) rfl;have hs:=AnyQ.slices_SortFunc Tryz.sortF 5 Tryz.isAgg47 Tryz.sizeOf47 kR (fun _=>rfl) (fun x v hv=>by simp [kR,Fc.row] at hv; rcases hv with rfl | rfl | rfl | rfl | rfl <;> rfl) Nt (by rw [J9]; exact Lp) 43 #[] g 0 cap (x0::xs0).toArray w eg (Ka g 0 _ w) (FX hR) hg.2 (by simp at h6 ⊢; omega)
  change Calls Tryz.prog 42 _ _ _ at hs
  rw [J9] at hs;refine hs.mono fun e w' ⟨he,d',n,os,hp,hso,hw⟩=>⟨he,jf d'.toList,?_,?_,?_,?_⟩
  ·have:=hp.2.2;have h2:d'.toList.Perm (x0::xs0):=by simpa [Array.extract_eq_self_of_le,hp.1] using this
   exact h2.map _
  ·have hz:d'.size=xs0.length + 1:=by simpa using hp.1
   unfold jf;rw [List.pairwise_map,List.pairwise_iff_getElem];intro i j hi hj hij;have hi2:i < d'.size:=by simpa using hi
   have hj2:j < d'.size:=by simpa using hj
   have hlt:=hso i j (Nat.zero_le _) hij (by rw [hz] at hj2; simpa using hj2);rw [getElem!_pos d' j hj2,getElem!_pos d' i hi2] at hlt;exact hlt
  ·rw [hw];have hz:d'.toList.length=(x0::xs0).length:=by simpa using hp.1
   have:=Nf hR rfl hz n os;simpa using this
  ·rw [hw]; exact H6 w g 0 n d' os
theorem CU (p:Option Addr) (cap:Nat) (fv:Value) (w:World) :
  Calls Tryz.prog 101 #[.slice p 0 cap,.int .i64 0,.int .i64 0,fv] w fun e w'=>e=.returned (.tuple #[])∧w'=w:=by
 go_enter Tryz.func101,Tryz.ntmps101;go_wp2_with fail;go_loopw [8] (fun i wr=>i=.int .i64 1∧wr=w) (fun _ _=>0);case atStart=>exact ⟨rfl,rfl⟩
 case round =>
  obtain ⟨rfl,rfl⟩:=hrel;go_wp2
  go_end0
  exact ⟨rfl,rfl⟩
theorem Kb (p:Option Addr) (cap:Nat) (lim:Int) (fv:Value) (w:World) :
  Calls Tryz.prog 69 #[.slice p 0 cap,.int .i64 0,.int .i64 0,.int .i64 lim,fv] w fun e w'=>e=.returned (.tuple #[])∧w'=w:=by
 go_enter Tryz.func69,Tryz.ntmps69;go_wp2_with fail;go_loopw [1,2] (fun a b wr=>a=.int .i64 0∧b=.int .i64 0∧wr=w) (fun _ _ _=>0);case atStart=>exact ⟨rfl,rfl,rfl⟩
 case round =>
  obtain ⟨rfl,rfl,rfl⟩:=hrel;go_wp2_with fail;refine (CU p cap fv _).mono ?_;rintro e w1 ⟨rfl,rfl⟩;go_wp2;refine bodyPost_ret (results_none rfl _ _ _) rfl ?_;exact ⟨rfl,rfl⟩
theorem H8 (p:Option Addr) (cap:Nat) (fv:Value) (w:World) :
  Calls Tryz.prog 42 #[.slice p 0 cap,fv] w fun e w'=>e=.returned (.tuple #[])∧w'=w:=by
 go_enter Tryz.func42,Tryz.ntmps42;go_wp2_with fail;refine (Tryz.bits_Len 0 _ (by omega) (by omega)).mono ?_;rintro e w1 ⟨rfl,rfl⟩;go_wp2_with fail;refine (Kb p cap _ fv _).mono ?_;rintro e w1 ⟨rfl,rfl⟩;go_wp2
 go_end0
 exact ⟨rfl,rfl⟩
theorem lI (rs:List ER) (n:Nat) (h:n < rs.length):mE (ag rs) n=rs[n].e.kids:=by simp [mE,ag,h]
set_option maxHeartbeats 2000000 in
theorem EY (b off cap:Nat) (rs:List ER) (hlen:rs.length≤1048576) (hl:∀ r ∈ rs,r.e.light) (n:Nat):∀ (w:World),n < rs.length→b < w.heap.size→(∀ (i:Nat) (h:i < rs.length),qU w b (off + i * 5) rs[i])→(∀ r ∈ rs,r.ok w) →
  Calls Tryz.prog 119 #[.slice (some ⟨b,off,none⟩) rs.length cap,.int .i64 (n:Int)] w fun e w'=>e=.returned (.int .i64 (aC (ag rs) n))∧Below w.heap.size w w':=by
 induction n using Nat.strongRecOn with
 | ind n ih =>
  intro w hn hb hr hok
  have IH:Hid (∀ m,m < n→∀ (w:World),m < rs.length→b < w.heap.size→(∀ (i:Nat) (h:i < rs.length),qU w b (off + i * 5) rs[i])→(∀ r ∈ rs,r.ok w) →
   Calls Tryz.prog 119 #[.slice (some ⟨b,off,none⟩) rs.length cap,.int .i64 (m:Int)] w fun e w'=>e=.returned (.int .i64 (aC (ag rs) m))∧Below w.heap.size w w'):=ih
  have HR:Hid (∀ (i:Nat) (h:i < rs.length),qU w b (off + i * 5) rs[i]):=hr;have HO:Hid (∀ r ∈ rs,r.ok w):=hok;obtain ⟨t0,t1,t2,t3,t4⟩:=hr n hn;obtain ⟨l1,l2⟩:=hl rs[n] (List.getElem_mem hn);have hn1:(0:Int)≤(n:Int):=by omega
  have hn2:(n:Int) < (rs.length:Int):=by omega
  have HT:Hid (aC (ag rs) n=dK (dN (ag rs) n) rs[n].e.kids.reverse ((n:Int) - 1)):=by show _=_; rw [kD,lI rs n hn]
  have HL:Hid (∀ r ∈ rs,r.e.light):=hl;clear ih hr hok hl l1;go_enter Tryz.func119,Tryz.ntmps119;go_wp2_with fail;go_loopw [5,6] (fun a i wr=>∃ (j:Nat) (x:Int),j≤rs[n].e.kids.length∧i=.int .i64 ((j:Int) - 1)∧a=.int .i64 x∧-1≤x∧x < n∧Hid (dK (dN (ag rs) n) (rs[n].e.kids.take j).reverse x=aC (ag rs) n)∧Below w.heap.size w wr) (fun _ i _=>(intOf i + 1).toNat);case atStart=>exact ⟨rs[n].e.kids.length,(n:Int) - 1,Nat.le_refl _,rfl,rfl,by omega,by omega,(by show _=_; rw [List.take_length]; exact HT.out.symm),Below.refl _ _⟩
  case round =>
   obtain ⟨j,x,hj,rfl,rfl,hx0,hx1,HG,hB⟩:=hrel;have s4:=kept hB hb t4;by_cases hj0:0 < j
   ·obtain ⟨j,rfl⟩:∃ i,j=i + 1:=⟨j - 1,by omega⟩;have hjl:j < rs[n].e.kids.length:=by omega
    rcases (HO.out rs[n] (List.getElem_mem hn)).2.below hB with hnil | ⟨bk,offk,hadk,hbk,hrk⟩
    ·rw [hnil] at hjl; simp at hjl
    rw [hadk] at s4;have k0:=hrk j hjl;clear hrk;have hji:((j + 1:Nat):Int) - 1=(j:Int):=by omega
    have hj1:(0:Int)≤(j:Int):=by omega
    have hj2:(j:Int) < (rs[n].e.kids.length:Int):=by omega
    have HG2:Hid ((if x < 0 ∨ rs[n].e.kids[j] ≠ x then -1 else if dN (ag rs) n x < 0 then -1 else dK (dN (ag rs) n) (rs[n].e.kids.take j).reverse (dN (ag rs) n x - 1))=aC (ag rs) n):=by
     have:=HG.out;rw [List.take_succ_eq_append_getElem hjl,List.reverse_append] at this;exact this
    rw [hji];clear HG hadk t0 t1 t2 t3 t4;by_cases hxn:x < 0
    ·have HT1:Hid (aC (ag rs) n=-1):=by show _=_; rw [← HG2.out,if_pos (Or.inl hxn)]
     go_wp2;go_ret;exact ⟨by rw [HT1.out]; rfl,hB⟩
    by_cases hkx:rs[n].e.kids[j]=x
    ·obtain ⟨m,rfl⟩:∃ m:Nat,x=(m:Int):=⟨x.toNat,by omega⟩;have hF:dN (ag rs) n (m:Int)=aC (ag rs) m:=by unfold dN; rw [if_pos ⟨by omega,by simp; omega⟩]; simp
     have HF:Hid (dN (ag rs) n (m:Int)=aC (ag rs) m):=hF;have hle:=nE (ag rs) m;clear hF;go_wp2_with fail;refine (IH.out m (by omega) _ (by omega) (Nat.lt_of_lt_of_le hb hB.size) (fun i hi=>(HR.out i hi).same fun o=>hB.cell (p:=⟨b,o,none⟩) hb) (fun r hr=>(HO.out r hr).below hB)).mono ?_;rintro e w1 ⟨rfl,hb1⟩;have hB1:Below w.heap.size w w1:=hB.trans (hb1.mono hB.size);clear hb1;by_cases hneg:aC (ag rs) m < 0
     ·have HT1:Hid (aC (ag rs) n=-1):=by show _=_; rw [← HG2.out,if_neg (by omega),HF.out,if_pos hneg]
      go_wp2;go_ret;exact ⟨by rw [HT1.out]; rfl,hB1⟩
     ·have HG3:Hid (dK (dN (ag rs) n) (rs[n].e.kids.take j).reverse (aC (ag rs) m - 1)=aC (ag rs) n):=by
       show _=_;rw [← HG2.out,if_neg (by omega),HF.out,if_neg hneg]
      go_wp2;go_roundw;case rel=>exact ⟨j,aC (ag rs) m - 1,by omega,by go_num,rfl,by omega,by omega,HG3,hB1⟩
      case measure=>simp [intOf] <;> omega
    ·have HT1:Hid (aC (ag rs) n=-1):=by show _=_; rw [← HG2.out,if_pos (Or.inr hkx)]
     go_wp2;go_ret;exact ⟨by rw [HT1.out]; rfl,hB⟩
   ·obtain rfl:j=0:=by omega
    have HT1:Hid (aC (ag rs) n=x + 1):=by show _=_; have:=HG.out; simp [dK] at this; exact this.symm
    clear HG t0 t1 t2 t3 t4;go_wp2;go_ret;exact ⟨by rw [HT1.out]; rfl,hB⟩
theorem qU.later {w w':World} {b off:Nat} {r:ER} (h:qU w b off r) (hb:b < w.heap.size) (hB:Below w.heap.size w w'):qU w' b off r:=h.same fun o=>hB.cell (p:=⟨b,o,none⟩) hb
theorem zC {es:List Ex} (h:¬ (1≤es.length∧es.length≤15)):aS es=false:=by
 unfold aS;by_cases h1:1≤es.length
 ·have h2:¬ es.length≤15:=fun h2=>h ⟨h1,h2⟩;simp [h2]
 ·simp [h1]
theorem EZ {es:List Ex} (k:Nat) (h:k < es.length) (hb:ax es[k]=false):aS es=false:=by simp [aS,yI es k h hb]
theorem E5 {es:List Ex} (k:Nat) (h:k < es.length) (hb:jZ es k=false):aS es=false:=by simp [aS,IY es k h hb]
def lJ (zs:List Int) (i j:Nat):Bool:=(zs.take j).all fun k=>decide (0≤k) && decide (k≤(i:Int) - 1)
theorem A8 (zs:List Int) (i j:Nat) (h:j < zs.length):lJ zs i (j + 1)=(lJ zs i j && (decide (0≤zs[j]) && decide (zs[j]≤(i:Int) - 1))):=by
 unfold lJ; rw [List.take_succ_eq_append_getElem h,List.all_append]; simp
theorem CV (zs:List Int) (i j:Nat) (h:j < zs.length) (hb:(decide (0≤zs[j]) && decide (zs[j]≤(i:Int) - 1))=false):(zs.all fun k=>decide (0≤k) && decide (k≤(i:Int) - 1))=false:=by
 rw [Bool.eq_false_iff]; intro h2; rw [List.all_eq_true] at h2; have:=h2 zs[j] (List.getElem_mem h); rw [hb] at this; cases this
set_option maxRecDepth 4000 in
set_option maxHeartbeats 4000000 in
theorem xk (b off cap:Nat) (rs:List ER) (w:World) (hlen:rs.length≤1048576) (hl:∀ r ∈ rs,r.e.light) (hf:∀ r ∈ rs,r.e.fits) (hb:b < w.heap.size) (hr:∀ (i:Nat) (h:i < rs.length),qU w b (off + i * 5) rs[i]) (hok:∀ r ∈ rs,r.ok w) :
  Calls Tryz.prog 78 #[.slice (some ⟨b,off,none⟩) rs.length cap] w fun e w'=>e=.returned (.bool (aS (ag rs)))∧Below w.heap.size w w':=by
 have hel:=aO rs;have HEL:Hid ((ag rs).length=rs.length):=hel;have HL:Hid (∀ r ∈ rs,r.e.light):=hl;have HF:Hid (∀ r ∈ rs,r.e.fits):=hf;have HR:Hid (∀ (i:Nat) (h:i < rs.length),qU w b (off + i * 5) rs[i]):=hr;have HO:Hid (∀ r ∈ rs,r.ok w):=hok;clear hel hl hf hr hok;by_cases hn:1≤rs.length∧rs.length≤15
 ·obtain ⟨hn1,hn2⟩:=hn;go_enter Tryz.func78,Tryz.ntmps78;go_wp2_with fail;go_loopw [3,4] (fun o i wr=>∃ k:Nat,k≤rs.length∧i=.int .i64 k∧o=.int .i64 (eQ (ag rs) k:Nat)∧Hid (gY (ag rs) k=true∧gZ (ag rs) k=true)∧Below w.heap.size w wr) (fun _ i _=>rs.length - (intOf i).toNat);case atStart=>exact ⟨0,Nat.zero_le _,rfl,rfl,⟨by simp [gY],by simp [gZ]⟩,Below.refl _ _⟩
  case round =>
   obtain ⟨k,hk,rfl,rfl,HU,hB⟩:=hrel;by_cases hlt:k < rs.length
   ·have hltE:k < (ag rs).length:=by rw [HEL.out]; exact hlt
    have hek:(ag rs)[k]=rs[k].e:=by simp [ag]
    have HEK:Hid ((ag rs)[k]=rs[k].e):=hek;obtain ⟨t0,t1,t2,t3,t4⟩:=(HR.out k hlt).later hb hB;clear hek;have hk1:(0:Int)≤(k:Int):=by omega
    have hk2:(k:Int) < (rs.length:Int):=by omega
    have hol:=pW (ag rs) k;go_wp2_with fail;refine (Ad rs[k] _ (HF.out _ (List.getElem_mem hlt)) ((HO.out _ (List.getElem_mem hlt)).below hB)).mono ?_;rintro e w1 ⟨rfl,hb1⟩;cases hnode:ax rs[k].e with
    | false =>
     have HN:Hid (aS (ag rs)=false):=EZ k hltE (by rw [HEK.out]; exact hnode);go_wp2;go_ret;exact ⟨by rw [HN.out]; rfl,hB.trans (hb1.mono hB.size)⟩
    | true =>
     have hB1:Below w.heap.size w w1:=hB.trans (hb1.mono hB.size);have hbw:b < wr.heap.size:=Nat.lt_of_lt_of_le hb hB.size;replace t0:=kept hb1 hbw t0;replace t4:=kept hb1 hbw t4;have hbw1:b < w1.heap.size:=Nat.lt_of_lt_of_le hbw hb1.size;clear t1 t2 t3 hb1 hB hbw;go_wp2_with fail;go_loopw [5] (fun i w2=>∃ j:Nat,j≤rs[k].e.kids.length∧i=.int .i64 j∧Hid (lJ rs[k].e.kids k j=true)∧w2=w1) (fun i _=>rs[k].e.kids.length - (intOf i).toNat);case atStart=>exact ⟨0,Nat.zero_le _,rfl,(by show _=_; simp [lJ]),rfl⟩
     case round =>
      obtain ⟨j,hj,rfl,HP,rfl⟩:=hrel;by_cases hjl:j < rs[k].e.kids.length
      ·rcases (HO.out rs[k] (List.getElem_mem hlt)).2.below hB1 with hnil | ⟨bk,offk,hadk,hbk,hrk⟩
       ·rw [hnil] at hjl; simp at hjl
       have t4':=t4;rw [hadk] at t4';have k0:=hrk j hjl;have hj1:(0:Int)≤(j:Int):=by omega
       have hj2:(j:Int) < (rs[k].e.kids.length:Int):=by omega
       obtain ⟨-,lk⟩:=HL.out rs[k] (List.getElem_mem hlt);clear hrk hadk t4;go_wp2_with fail;refine (Jb _ _ _ _).mono ?_;rintro e w' ⟨rfl,rfl⟩;cases hin:(decide (0≤rs[k].e.kids[j]) && decide (rs[k].e.kids[j]≤(k:Int) - 1)) with
       | false =>
        have HN:Hid (aS (ag rs)=false):=E5 k hltE (by unfold jZ; rw [lI rs k hlt]; exact CV _ k j hjl hin);go_wp2;go_ret;exact ⟨by rw [HN.out]; rfl,hB1⟩
       | true =>
        have HP2:Hid (lJ rs[k].e.kids k (j + 1)=true):=by show _=_; rw [A8 _ _ _ hjl,HP.out,hin]; rfl
        go_wp2;go_roundw;case rel=>exact ⟨j + 1,by omega,by go_num,HP2,by first | rfl | trivial⟩
        case measure=>simp [intOf] <;> omega
      ·obtain rfl:j=rs[k].e.kids.length:=by omega
       have HU2:Hid (gY (ag rs) (k + 1)=true∧gZ (ag rs) (k + 1)=true):=by
        refine ⟨?_,?_⟩
        ·rw [pX _ _ hltE,HU.out.1,HEK.out,hnode]; rfl
        ·rw [BC,HU.out.2];unfold jZ;rw [lI rs k hlt];have:=HP.out;unfold lJ at this;rw [List.take_length] at this;rw [this]; rfl
       have HOW:Hid (eQ (ag rs) (k + 1)=eQ (ag rs) k + (if rs[k].e.kind=1 then 1 else 0)):=by show _=_; rw [vv _ _ hltE,HEK.out]
       by_cases hk1':rs[k].e.kind=1
       ·have HOW2:Hid (eQ (ag rs) (k + 1)=eQ (ag rs) k + 1):=by show _=_; rw [HOW.out,if_pos hk1']
        clear HOW;go_wp2;go_roundw;case rel=>exact ⟨k + 1,by omega,by go_num,by rw [HOW2.out]; go_num,HU2,hB1⟩
        case measure=>simp [intOf] <;> omega
       ·have HOW2:Hid (eQ (ag rs) (k + 1)=eQ (ag rs) k):=by show _=_; rw [HOW.out,if_neg hk1']; rfl
        clear HOW;go_wp2;go_roundw;case rel=>exact ⟨k + 1,by omega,by go_num,by rw [HOW2.out],HU2,hB1⟩
        case measure=>simp [intOf] <;> omega
   ·obtain rfl:k=rs.length:=by omega
    have HN:Hid ((ag rs).all ax=true):=by
     have:=HU.out.1;unfold gY at this;rwa [← HEL.out,List.take_length] at this
    have HKU:Hid (gZ (ag rs) rs.length=true):=HU.out.2;have HOW:Hid (eQ (ag rs) rs.length=own (ag rs)):=by show _=_; unfold eQ; rw [← HEL.out,List.take_length]
    have hol:=pW (ag rs) rs.length;by_cases ho:eQ (ag rs) rs.length≤1
    ·have HS:Hid (aS (ag rs)=decide (aC (ag rs) (rs.length - 1)=0)):=by
      show _=_;have h1:own (ag rs)≤1:=by rw [← HOW.out]; exact ho
      have e1:=HEL.out;unfold aS;rw [e1,HN.out,HKU.out];simp [h1,hn1,hn2]
     have hcast:((rs.length:Int) - 1)=((rs.length - 1:Nat):Int):=by omega
     have HCA:Hid (((rs.length:Int) - 1)=((rs.length - 1:Nat):Int)):=hcast;clear hcast;go_wp2_with fail;rw [HCA.out];refine (EY b off cap rs hlen HL.out (rs.length - 1) _ (by omega) (Nat.lt_of_lt_of_le hb hB.size) (fun i hi=>(HR.out i hi).later hb hB) (fun r hr=>(HO.out r hr).below hB)).mono ?_;rintro e w1 ⟨rfl,hb1⟩;go_wp2;go_ret;exact ⟨by rw [HS.out]; exact ae (by rw [Bool.eq_iff_iff]; simp),hB.trans (hb1.mono hB.size)⟩
    ·have HS:Hid (aS (ag rs)=false):=by
      show _=_;have h1:¬ own (ag rs)≤1:=by rw [← HOW.out]; exact ho
      simp [aS,h1]
     go_wp2;go_ret;exact ⟨by rw [HS.out]; rfl,hB⟩
 ·have HN:Hid (aS (ag rs)=false):=zC (by rw [HEL.out]; exact hn);go_enter Tryz.func78,Tryz.ntmps78;go_wp2_with fail
  all_goals go_ret
  all_goals exact ⟨by rw [HN.out]; rfl,Below.refl _ _⟩
theorem nz (ad:Option Addr) (cap:Nat) (rs:List ER) (w:World) (hlen:rs.length≤1048576) (hl:∀ r ∈ rs,r.e.light) (hf:∀ r ∈ rs,r.e.fits) (hs:dZ w ad rs) :
  Calls Tryz.prog 78 #[.slice ad rs.length cap] w fun e w'=>e=.returned (.bool (aS (ag rs)))∧Below w.heap.size w w':=by
 rcases hs with rfl | ⟨b,off,rfl,hb,hr,hok⟩
 ·go_enter Tryz.func78,Tryz.ntmps78;go_wp2_with fail;go_ret;exact ⟨rfl,Below.refl _ _⟩
 ·exact xk b off cap rs w hlen hl hf hb hr hok
end Go.Proofs.YtogjfppkbkgaeaaGreat
