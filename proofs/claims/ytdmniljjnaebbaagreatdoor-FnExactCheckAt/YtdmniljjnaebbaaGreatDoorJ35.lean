/- The library's SortFunc over a row of facts: the same facts, each no higher than those behind it. -/
import Derived.Test.YtdmniljjnaebbaaGreatDoorJ34
import Derived.Test.YtdmniljjnaebbaaGreatDoorShelfS
open Go.Proofs.Tryz
set_option maxHeartbeats 80000000
namespace Go.Proofs.YtdmniljjnaebbaaGreatDoor
set_option maxRecDepth 100000
set_option linter.unusedVariables false
open Go.ChangeShapes Go.WideShapes Go.ChangeAt Go.RowKit Go.Maps Go.Shelf Go.Sort
open Pl
theorem nI (f:Fc) (w:World) :
  Calls prog 101 #[.agg #[.string f.a,.string f.b,.string f.r,.string f.c,.string f.d]] w fun e w'=>e=.returned (.agg #[.string f.a,.string f.b,.string f.r,.string f.c,.string f.d,.string ⟨#[]⟩])∧BelowD w.heap.size w w':=by
 go_enter func101,ntmps101;go_wp2;exact bodyPost_ret (v:=.agg #[.string f.a,.string f.b,.string f.r,.string f.c,.string f.d,.string ⟨#[]⟩]) (by simp [results,Tryz.results101,go_sem, *]) rfl ⟨rfl,⟨by
  repeat (first | exact Below.refl _ _ | refine Below.setCell ?_ (by first | (simp; done) | (simp; omega)) _ | refine Below.alloc ?_ (by first | (simp; done) | (simp; omega)) _),Nat.le_refl _⟩⟩
def Mf (x y:Fc):Int:=BO x.a x.b x.r x.c x.d ⟨#[]⟩ y.a y.b y.r y.c y.d ⟨#[]⟩
theorem Mg {w W w':World} {n m:Nat} {x0 x1 x2 x3 x4 y0 y1 y2 y3 y4:Value} (h:W.cell? ⟨n,0,none⟩=some x0∧W.cell? ⟨n,1,none⟩=some x1∧W.cell? ⟨n,2,none⟩=some x2∧W.cell? ⟨n,3,none⟩=some x3∧W.cell? ⟨n,4,none⟩=some x4∧W.cell? ⟨m,0,none⟩=some y0∧W.cell? ⟨m,1,none⟩=some y1∧W.cell? ⟨m,2,none⟩=some y2∧W.cell? ⟨m,3,none⟩=some y3∧W.cell? ⟨m,4,none⟩=some y4∧BelowD w.heap.size w W) (hb:BelowD W.heap.size W w'):w'.cell? ⟨n,0,none⟩=some x0∧w'.cell? ⟨n,1,none⟩=some x1∧w'.cell? ⟨n,2,none⟩=some x2∧w'.cell? ⟨n,3,none⟩=some x3∧w'.cell? ⟨n,4,none⟩=some x4∧w'.cell? ⟨m,0,none⟩=some y0∧w'.cell? ⟨m,1,none⟩=some y1∧w'.cell? ⟨m,2,none⟩=some y2∧w'.cell? ⟨m,3,none⟩=some y3∧w'.cell? ⟨m,4,none⟩=some y4∧BelowD w.heap.size w w':=by
 obtain ⟨h0,h1,h2,h3,h4,g0,g1,g2,g3,g4,hB⟩:=h;exact ⟨aU hb.b (aA h0) h0,aU hb.b (aA h1) h1,aU hb.b (aA h2) h2,aU hb.b (aA h3) h3,aU hb.b (aA h4) h4,aU hb.b (aA g0) g0,aU hb.b (aA g1) g1,aU hb.b (aA g2) g2,aU hb.b (aA g3) g3,aU hb.b (aA g4) g4,hB.trans (hb.mono hB.size)⟩
theorem tC (x y:Fc) (w:World) (hx:x.fits) (hy:y.fits) :
  Calls prog 62 #[.agg #[.string x.a,.string x.b,.string x.r,.string x.c,.string x.d],.agg #[.string y.a,.string y.b,.string y.r,.string y.c,.string y.d]] w fun e w'=>e=.returned (.int .i64 (Mf x y))∧BelowD w.heap.size w w':=by
 have he0:(⟨#[]⟩:ByteArray).size≤maxLen:=by decide
 obtain ⟨x0,x1,x2,x3,x4⟩:=hx;obtain ⟨y0,y1,y2,y3,y4⟩:=hy;obtain ⟨W0,hW0⟩:∃ W0,W0=(w.alloc (.cells #[.string x.a,.string x.b,.string x.r,.string x.c,.string x.d] 63)).alloc (.cells #[.string y.a,.string y.b,.string y.r,.string y.c,.string y.d] 63):=⟨_,rfl⟩;have HB0:BelowD w.heap.size w W0:=by rw [hW0]; exact Gu _ _ _
 have c0:W0.cell? ⟨w.heap.size,0,none⟩=some (.string x.a):=by rw [hW0]; simp
 have c1:W0.cell? ⟨w.heap.size,1,none⟩=some (.string x.b):=by rw [hW0]; simp
 have c2:W0.cell? ⟨w.heap.size,2,none⟩=some (.string x.r):=by rw [hW0]; simp
 have c3:W0.cell? ⟨w.heap.size,3,none⟩=some (.string x.c):=by rw [hW0]; simp
 have c4:W0.cell? ⟨w.heap.size,4,none⟩=some (.string x.d):=by rw [hW0]; simp
 have e0:W0.cell? ⟨w.heap.size + 1,0,none⟩=some (.string y.a):=by rw [hW0]; simp
 have e1:W0.cell? ⟨w.heap.size + 1,1,none⟩=some (.string y.b):=by rw [hW0]; simp
 have e2:W0.cell? ⟨w.heap.size + 1,2,none⟩=some (.string y.r):=by rw [hW0]; simp
 have e3:W0.cell? ⟨w.heap.size + 1,3,none⟩=some (.string y.c):=by rw [hW0]; simp
 have e4:W0.cell? ⟨w.heap.size + 1,4,none⟩=some (.string y.d):=by rw [hW0]; simp
 unfold Mf;go_enter func62,ntmps62;go_wp2_with fail;rw [← hW0];clear hW0
 go_region_held3 (fun w'=>w'.cell? ⟨w.heap.size,0,none⟩=some (.string x.a)∧w'.cell? ⟨w.heap.size,1,none⟩=some (.string x.b)∧w'.cell? ⟨w.heap.size,2,none⟩=some (.string x.r)∧w'.cell? ⟨w.heap.size,3,none⟩=some (.string x.c)∧w'.cell? ⟨w.heap.size,4,none⟩=some (.string x.d)∧w'.cell? ⟨w.heap.size + 1,0,none⟩=some (.string y.a)∧w'.cell? ⟨w.heap.size + 1,1,none⟩=some (.string y.b)∧w'.cell? ⟨w.heap.size + 1,2,none⟩=some (.string y.r)∧w'.cell? ⟨w.heap.size + 1,3,none⟩=some (.string y.c)∧w'.cell? ⟨w.heap.size + 1,4,none⟩=some (.string y.d)∧BelowD w.heap.size w w')
  (first | assumption | exact Mg (by assumption) hbx | exact ⟨c0,c1,c2,c3,c4,e0,e1,e2,e3,e4,HB0.drew⟩)
  (first | (go_at_call_of 101 (Value.agg #[.string x.a,.string x.b,.string x.r,.string x.c,.string x.d]); refine (nI x _).mono ?_; rintro e w' ⟨rfl,hbx⟩) | (go_at_call_of 101 (Value.agg #[.string y.a,.string y.b,.string y.r,.string y.c,.string y.d]); refine (nI y _).mono ?_; rintro e w' ⟨rfl,hbx⟩) | (go_at_call 100; refine (qd x.a x.b x.r x.c x.d ⟨#[]⟩ y.a y.b y.r y.c y.d ⟨#[]⟩ _ x0 x1 x2 x3 x4 he0 y0 y1 y2 y3 y4 he0).mono ?_; rintro e w' ⟨rfl,hbx⟩))
 all_goals (rename_i hJ; obtain ⟨-,-,-,-,-,-,-,-,-,-,gB⟩:=hJ; clear c0 c1 c2 c3 c4 e0 e1 e2 e3 e4; go_wp2; go_ret; exact ⟨rfl,gB⟩)
abbrev Gv:={ f:Fc // f.fits }
def lc (x:Gv):List Value:=x.1.row
def Oh (x y:Gv):Int:=Mf x.1 y.1
def Mh (x:Fc):List UInt8:=(aN x.a x.b x.r x.c x.d ⟨#[]⟩).toList
def MN (x y:Gv):Bool:=Op.bytesLess (Mh x.1) (Mh y.1)
theorem KS:ltOf Oh=MN:=by
 funext x y
 unfold ltOf Oh MN Mf BO Mh;rw [qz,Go.ByteArray.toList_eq,Go.ByteArray.toList_eq]
theorem Mi:Go.Sort.SWO MN where
 irrefl x:=Ls.lt_irrefl _
 trans x y z h k:=Ls.lt_trans _ _ _ h k
 ntrans x y z h k:=by
  cases e:MN x z with
  | false=>rfl
  | true =>
   by_cases e1:Mh y.1=Mh x.1
   ·unfold MN at *; rw [e1] at k; rw [k] at e; cases e
   ·rcases Ls.lt_total _ _ e1 with h1 | h1
    ·have:MN y z=true:=Ls.lt_trans _ _ _ h1 e;rw [k] at this; cases this
    ·have h:MN x y=false:=h;have h1:MN x y=true:=h1;rw [h] at h1; cases h1
theorem KT [Inhabited Gv] (blk off size:Nat) (w:World):CmpLays prog 62 #[] lc 5 Oh blk off size w:=fun m os dk _ x y =>
 (tC x.1 y.1 _ x.2 y.2).mono fun e w' ⟨he,hb⟩=>⟨he,hb.grew⟩
def jr (xs:List Gv):List Fc:=xs.map (·.1)
theorem jG (xs:List Gv):(jr xs).length=xs.length:=by simp [jr]
theorem IQ [Inhabited Gv] (w:World) (blk off n:Nat) (d:Array Gv) (os:Array Obj):Chg (fun g=>g=blk) w (sortWorldK lc 5 w blk off n d os):=by
 refine ⟨⟨rfl,rfl,rfl,?_,fun k hk=>absurd hk (Nat.not_lt_zero _)⟩,fun k hk hne=>?_,fun g hg hf j=>?_⟩
 ·simp [sortWorldK,grow,putRowK,Sort.ahead]
 ·simp only [sortWorldK,putRowK];rw [heap_grow_old _ _ (by simpa [Sort.ahead] using hk)];have hne:blk ≠ k:=fun e=>hne e.symm;simp [putRow,mapBlock,Sort.ahead,Array.getElem?_modify,hne]
 ·simp only [sortWorldK,putRowK];rw [frozen?_grow _ _ _ (by simpa [Sort.ahead] using hg),frozen?_putRow,frozen?_ahead];exact hf j
theorem Gw [Inhabited Gv] {w:World} {base g cap:Nat} {xs:List Gv} (h:w.ownsRow base 63 5 (.slice (some ⟨g,0,none⟩) xs.length cap) xs.length (dQ (jr xs))):HoldsK lc 5 w g 0 xs.toArray:=by
 intro t ht;rw [size_flatK] at ht;have ht':t < xs.length * 5:=by simpa using ht
 have hi:t / 5 < xs.length:=by omega
 have hr:t % 5 < 5:=Nat.mod_lt _ (by omega);refine ⟨?_,by rw [Nat.zero_add]; exact h.frozenAt t⟩;rw [Nat.zero_add,h.cellAt t ht',get_flatK _ _ _ _ ht];have e:t=t / 5 * 5 + t % 5:=by omega
 have h1:=rf (jr xs) (t / 5) (by rw [jG]; exact hi) (t % 5) hr;rw [← e] at h1;rw [h1];have h2:(xs.toArray)[t / 5]! = xs[t / 5]:=by rw [getElem!_pos xs.toArray _ (by simpa using hi)]; simp
 rw [h2];have h3:(jr xs)[t / 5]'(by rw [jG]; exact hi)=xs[t / 5].1:=by simp [jr]
 rw [h3];have hl:t % 5 < (Fc.row xs[t / 5].1).length:=hr;show _=some ((Fc.row xs[t / 5].1)[t % 5]!);rw [List.getElem?_eq_getElem hl,getElem!_pos (Fc.row xs[t / 5].1) (t % 5) hl]
theorem NS [Inhabited Gv] {w:World} {base g n cap:Nat} {xs ys:List Gv} (h0:w.ownsRow base 63 5 (.slice (some ⟨g,0,none⟩) n cap) n (dQ (jr xs))) (hx:xs.length=n) (hl:ys.length=n) (m:Nat) (os:Array Obj):(sortWorldK lc 5 w g 0 m ys.toArray os).ownsRow base 63 5 (.slice (some ⟨g,0,none⟩) n cap) n (dQ (jr ys)):=by
 subst hx;have hg:=(h0.lt g rfl).2;have hH:=holdsK_sortWorldK_c lc 5 w g 0 xs.toArray ys.toArray m os (Gw h0) hg (by simpa using hl);have hlen:(dQ (jr ys)).length=xs.length * 5:=by rw [sV,jG,hl]
 refine ⟨hlen,.inr ?_⟩;rcases h0.2 with ⟨e,-⟩ | ⟨g',cap',cur,e,h1,h2,h3,h4,h5,-⟩
 ·cases e
 injection e with e1 e2 e3;injection e1 with e1; injection e1 with e1;subst e1; subst e3;have hb:(sortWorldK lc 5 w g 0 m ys.toArray os).heap[g]?=some (.cells (putCells id 0 (flatK lc 5 ys.toArray) cur) 63 (0,0)):=by
  simp only [sortWorldK,putRowK];rw [heap_grow_old _ _ (by simpa [Sort.ahead] using hg)];simp [putRow,mapBlock,Sort.ahead,Array.getElem?_modify,h2,onCells]
 refine ⟨g,cap,_,rfl,h1,hb,h3,h4,by simp only [putCells,Array.size_mapIdx]; exact h5,?_⟩;refine List.ext_getElem? fun j=>?_;by_cases hj:j < xs.length * 5
 ·rw [List.getElem?_take_of_lt hj];have hi:j / 5 < ys.length:=by omega
  have h6:=(hH j (by rw [size_flatK]; simpa [hl] using hj)).1;rw [Nat.zero_add,get_flatK _ _ _ _ (by simpa [hl] using hj)] at h6;replace h6:(sortWorldK lc 5 w g 0 m ys.toArray os).cell? ⟨g,j,none⟩=some ((lc (ys.toArray)[j / 5]!)[j % 5]!):=h6;have h7:(putCells id 0 (flatK lc 5 ys.toArray) cur).toList[j]?=some ((lc (ys.toArray)[j / 5]!)[j % 5]!):=by
   rw [← h6];simp [World.cell?,hb]
  rw [h7];have e:j=j / 5 * 5 + j % 5:=by omega
  have h8:=rf (jr ys) (j / 5) (by rw [jG]; exact hi) (j % 5) (Nat.mod_lt _ (by omega));rw [← e] at h8;rw [h8];have h9:(ys.toArray)[j / 5]! = ys[j / 5]:=by rw [getElem!_pos ys.toArray _ (by simpa using hi)]; simp
  have h10:(jr ys)[j / 5]'(by rw [jG]; exact hi)=ys[j / 5].1:=by simp [jr]
  rw [h9,h10];have hl2:j % 5 < (Fc.row ys[j / 5].1).length:=Nat.mod_lt _ (by omega);show some ((Fc.row ys[j / 5].1)[j % 5]!)=_;rw [List.getElem?_eq_getElem hl2,getElem!_pos (Fc.row ys[j / 5].1) (j % 5) hl2]
 ·rw [List.getElem?_eq_none (by rw [List.length_take]; omega),List.getElem?_eq_none (by omega)]
theorem IR (base g cap:Nat) (fs:List Fc) (w:World) (hf:∀ f ∈ fs,f.fits) (hR:w.ownsRow base 63 5 (.slice (some ⟨g,0,none⟩) fs.length cap) fs.length (dQ fs)) (hne:fs ≠ []) (h6:fs.length≤200000) :
  Calls prog 61 #[.slice (some ⟨g,0,none⟩) fs.length cap,.func (.func 62) #[] #[]] w fun e w'=>e=.returned (.tuple #[])∧∃ ys:List Fc,ys.Perm fs∧ys.Pairwise (fun x y=>Op.bytesLess (Mh y) (Mh x)=false)∧w'.ownsRow base 63 5 (.slice (some ⟨g,0,none⟩) fs.length cap) fs.length (dQ ys)∧Chg (fun k=>k=g) w w':=by
 obtain ⟨xs,hxs⟩:∃ xs:List Gv,jr xs=fs:=⟨fs.attach.map fun x=>⟨x.1,hf x.1 x.2⟩,by unfold jr; rw [List.map_map]; simp [Function.comp_def]⟩;subst hxs;rw [jG] at hR h6 ⊢;cases xs with
 | nil=>exact absurd rfl hne
 | cons x0 xs0 =>
  letI:Inhabited Gv:=⟨x0⟩
  have hg:=hR.lt g rfl;have eg:∀ args w,(callFunc 62 args).run prog w=.ok (.enter 62 args) w:=enters_of func62 (by kernel_rfl) rfl;have hs:=AnyQ.slices_SortFunc Tryz.sortF 5 Tryz.isAgg63 Tryz.sizeOf63 lc (fun _=>rfl) (fun x v hv=>by simp [lc,Fc.row] at hv; rcases hv with rfl | rfl | rfl | rfl | rfl <;> rfl) Oh (by rw [KS]; exact Mi) 62 #[] g 0 cap (x0::xs0).toArray w eg (KT g 0 _ w) (Gw hR) hg.2 (by simp at h6 ⊢; omega)
  change Calls prog 61 _ _ _ at hs
  rw [KS] at hs;refine hs.mono fun e w' ⟨he,d',n,os,hp,hso,hw⟩=>⟨he,jr d'.toList,?_,?_,?_,?_⟩
  ·have:=hp.2.2;have h2:d'.toList.Perm (x0::xs0):=by simpa [Array.extract_eq_self_of_le,hp.1] using this
   exact h2.map _
  ·have hz:d'.size=xs0.length + 1:=by simpa using hp.1
   unfold jr;rw [List.pairwise_map,List.pairwise_iff_getElem];intro i j hi hj hij;have hi2:i < d'.size:=by simpa using hi
   have hj2:j < d'.size:=by simpa using hj
   have hlt:=hso i j (Nat.zero_le _) hij (by rw [hz] at hj2; simpa using hj2);rw [getElem!_pos d' j hj2,getElem!_pos d' i hi2] at hlt;exact hlt
  ·rw [hw];have hz:d'.toList.length=(x0::xs0).length:=by simpa using hp.1
   have:=NS hR rfl hz n os;simpa using this
  ·rw [hw]; exact IQ w g 0 n d' os
theorem DJ (p:Option Addr) (cap:Nat) (fv:Value) (w:World) :
  Calls prog 137 #[.slice p 0 cap,.int .i64 0,.int .i64 0,fv] w fun e w'=>e=.returned (.tuple #[])∧w'=w:=by
 go_enter func137,ntmps137;go_wp2_with fail;go_loopw [8] (fun i wr=>i=.int .i64 1∧wr=w) (fun _ _=>0);case atStart=>exact ⟨rfl,rfl⟩
 case round =>
  obtain ⟨rfl,rfl⟩:=hrel;go_wp2
  go_end0
  exact ⟨rfl,rfl⟩
theorem KU (p:Option Addr) (cap:Nat) (lim:Int) (fv:Value) (w:World) :
  Calls prog 98 #[.slice p 0 cap,.int .i64 0,.int .i64 0,.int .i64 lim,fv] w fun e w'=>e=.returned (.tuple #[])∧w'=w:=by
 go_enter func98,ntmps98;go_wp2_with fail;go_loopw [1,2] (fun a b wr=>a=.int .i64 0∧b=.int .i64 0∧wr=w) (fun _ _ _=>0);case atStart=>exact ⟨rfl,rfl,rfl⟩
 case round =>
  obtain ⟨rfl,rfl,rfl⟩:=hrel;go_wp2_with fail;refine (DJ p cap fv _).mono ?_;rintro e w1 ⟨rfl,rfl⟩;go_wp2;refine bodyPost_ret (results_none rfl _ _ _) rfl ?_;exact ⟨rfl,rfl⟩
theorem IU (p:Option Addr) (cap:Nat) (fv:Value) (w:World) :
  Calls prog 61 #[.slice p 0 cap,fv] w fun e w'=>e=.returned (.tuple #[])∧w'=w:=by
 go_enter func61,ntmps61;go_wp2_with fail;refine (Tryz.bits_Len 0 _ (by omega) (by omega)).mono ?_;rintro e w1 ⟨rfl,rfl⟩;go_wp2_with fail;refine (KU p cap _ fv _).mono ?_;rintro e w1 ⟨rfl,rfl⟩;go_wp2
 go_end0
 exact ⟨rfl,rfl⟩
def iG (rs:List TR) (t:Tp):Bool:=nz (af rs) t.a t.b t.r t.c t.d t.s
theorem IV {rs:List TR} {t:Tp} (h:aI (af rs)=true) (ht:t.ok=true):mY (af rs) t.a t.r ⟨t.c,t.s⟩=iG rs t:=by
 have hSP:=bI.1 h;have h1:mY (af rs) t.a t.r ⟨t.c,t.s⟩=cz (aL (aG (af rs) t.a t.r)) (aL (aG (af rs) t.a t.r)).length ⟨t.c,t.s⟩:=xD _ (Gf hSP _ _);have h2:aT t.a t.b t.r t.c t.d t.s=true:=ht;rw [h1];unfold iG nz;rw [h2,Bool.and_true]
theorem KV {p:Tp→Bool} {ts:List Tp} {k:Nat} (h:k < ts.length):(ts.drop k).all p=(p ts[k] && (ts.drop (k + 1)).all p):=by rw [List.drop_eq_getElem_cons h]; rfl
theorem DK (ad:Option Addr) (cap:Nat) (rs:List TR) (ad':Option Addr) (cap':Nat) (ts:List Tp) (w:World) (hlen:rs.length≤1048576) (hs:fo w ad rs) (hl:∀ r ∈ rs,r.light) (hfr:∀ r ∈ rs,r.fits) (hlt:ts.length≤1048576) (hst:Sl w ad' ts) (hft:∀ x ∈ ts,x.fits) :
  Calls prog 50 #[.slice ad rs.length cap,.slice ad' ts.length cap'] w fun e w'=>e=.returned (.bool (bv (iG rs) rs ts))∧Below w.heap.size w w':=by
 have HS:=ay hs;have HL:=ay hl;have HFR:=ay hfr;have HST:=ay hst;have HFT:=ay hft;have hml:ts.length≤maxLen:=by unfold maxLen; omega
 clear hs hl hfr hst hft;go_enter func50,ntmps50;go_wp2_with fail;refine (kT ad cap rs _ hlen HS.out HL.out HFR.out).mono ?_;rintro e w1 ⟨he,hb1⟩;have HB1:=ay hb1;clear hb1;cases h1:aI (af rs) with
 | false =>
  rw [h1] at he; subst he;have HN:Hid (bv (iG rs) rs ts=false):=by show _=_; unfold bv; rw [h1]; rfl
  clear h1;go_wp2;go_ret;exact ⟨by rw [HN.out]; rfl,HB1.out⟩
 | true =>
  rw [h1] at he; subst he;have H1:=ay h1;clear h1;go_wp2_with fail;refine (r9 ad' cap' ts _ hml (HST.out.below HB1.out) HFT.out).mono ?_;rintro e w2 ⟨he,hb2⟩;have HB2:=ay (HB1.out.trans (hb2.mono HB1.out.size));clear hb2 HB1;cases h2:eu ts with
  | false =>
   rw [h2] at he; subst he;have HN:Hid (bv (iG rs) rs ts=false):=by show _=_; unfold bv; rw [h2,Bool.and_false]; rfl
   clear h2;go_wp2;go_ret;exact ⟨by rw [HN.out]; rfl,HB2.out⟩
  | true =>
   rw [h2] at he; subst he;have HN:Hid (bv (iG rs) rs ts=ts.all (iG rs)):=by show _=_; unfold bv; rw [H1.out,h2]; rfl
   clear h2 H1;go_wp2;go_loopw [5] (fun i wr=>∃ k:Nat,k≤ts.length∧i=.int .i64 k∧Hid ((ts.drop k).all (iG rs)=ts.all (iG rs))∧Hid (Below w.heap.size w wr)) (fun i _=>ts.length - (intOf i).toNat);case atStart=>exact ⟨0,Nat.zero_le _,rfl,rfl,HB2⟩
   case round =>
    clear HB2;obtain ⟨k,hk,rfl,HP,HB⟩:=hrel;by_cases hlt2:k < ts.length
    ·obtain ⟨b,off,hadr,⟨t0,t1,t2,t3,t4,t5⟩,hb⟩:=Sl.at0 (HST.out.below HB.out) hlt2;have hk1:=bq k;have hk2:(k:Int) < (ts.length:Int):=by omega
     obtain ⟨f0,f1,f2,f3,f4,f5⟩:=HFT.out _ (List.getElem_mem hlt2);have HD:Hid (ts.all (iG rs)=(iG rs ts[k] && (ts.drop (k + 1)).all (iG rs))):=by show _=_; rw [← HP.out]; exact KV hlt2
     obtain ⟨x,hx⟩:∃ x,x=ts[k]:=⟨_,rfl⟩;rw [← hx] at t0 t1 t2 t3 t4 t5 f0 f1 f2 f3 f4 f5 HD;have HLF:=ay (xE ad cap rs x.a x.b x.r x.c x.d x.s wr hlen (HS.out.below HB.out) HL.out f0 f1 f2 f3 f4 f5);subst hadr;clear hx;go_wp2_with fail;refine HLF.out.mono ?_;rintro e w3 ⟨he,hb3⟩;have HB3:=ay (HB.out.trans (hb3.mono HB.out.size));clear hb3 HLF t0 t1 t2 t3 t4 t5;cases h5:nz (af rs) x.a x.b x.r x.c x.d x.s with
     | true =>
      rw [h5] at he; subst he;have HP2:Hid ((ts.drop (k + 1)).all (iG rs)=ts.all (iG rs)):=by show _=_; rw [HD.out]; unfold iG at *; rw [h5]; rfl
      clear h5;go_wp2;go_roundw;case rel=>exact ⟨k + 1,by omega,by go_num,HP2,HB3⟩
      case measure=>simp [intOf] <;> omega
     | false =>
      rw [h5] at he; subst he;have HN2:Hid (bv (iG rs) rs ts=false):=by show _=_; rw [HN.out,HD.out]; unfold iG at *; rw [h5]; rfl
      clear h5;go_wp2;go_ret;exact ⟨by rw [HN2.out]; rfl,HB3.out⟩
    ·have HN2:Hid (bv (iG rs) rs ts=true):=by show _=_; rw [HN.out,← HP.out,List.drop_of_length_le (by omega)]; rfl
     go_wp2;go_ret;exact ⟨by rw [HN2.out]; rfl,HB.out⟩
set_option linter.unusedSectionVars false
theorem tF {xs:List Al} {o x:Al} (h:x ∈ aM xs o):x ∈ xs ∨ x=o:=by
 unfold aM at h;split at h
 ·exact .inl h
 ·rcases List.mem_append.1 h with h | h
  ·exact .inl h
  ·exact .inr (by simpa using h)
theorem DL:∀ (ts:List Tp) (xs:List Al) (o:Al),o ∈ ts.foldl fP xs→o ∈ xs ∨ ∃ t ∈ ts,o=⟨t.a,t.b⟩ ∨ o=⟨t.c,t.d⟩
 | [],xs,o,h=>.inl h
 | t::ts,xs,o,h=>by
  rcases DL ts (fP xs t) o h with h | ⟨u,hu,h⟩
  ·unfold fP at h;rcases tF h with h | h
   ·rcases tF h with h | h
    ·exact .inl h
    ·exact .inr ⟨t,by simp,.inl h⟩
   ·exact .inr ⟨t,by simp,.inr h⟩
  ·exact .inr ⟨u,by simp [hu],h⟩
theorem DN:∀ (ts:List Tp) (xs:List Al) (o:Al),o ∈ ts.foldl bZ xs→o ∈ xs ∨ ∃ t ∈ ts,o=⟨t.a,t.b⟩ ∨ o=⟨t.c,t.d⟩
 | [],xs,o,h=>.inl h
 | t::ts,xs,o,h=>by
  rcases DN ts (bZ xs t) o h with h | ⟨u,hu,h⟩
  ·unfold bZ at h;split at h
   ·rcases tF h with h | h
    ·exact .inl h
    ·exact .inr ⟨t,by simp,.inr h⟩
   ·exact .inl h
  ·exact .inr ⟨u,by simp [hu],h⟩
theorem Gx {ts:List Tp} (hf:∀ t ∈ ts,t.fits) {o:Al} (h:∃ t ∈ ts,o=⟨t.a,t.b⟩ ∨ o=⟨t.c,t.d⟩):o.t.size≤maxLen∧o.s.size≤maxLen:=by
 obtain ⟨t,ht,h⟩:=h;obtain ⟨h0,h1,h2,h3,h4,h5⟩:=hf t ht;rcases h with rfl | rfl
 ·exact ⟨h0,h1⟩
 ·exact ⟨h3,h4⟩
theorem qg {ts:List Tp} (hf:∀ t ∈ ts,t.fits):∀ o ∈ fZ ts,o.t.size≤maxLen∧o.s.size≤maxLen:=fun o ho=>by
 rcases DL ts [] o ho with h | h
 ·cases h
 ·exact Gx hf h
theorem nJ {ts:List Tp} (hf:∀ t ∈ ts,t.fits):∀ o ∈ dL ts,o.t.size≤maxLen∧o.s.size≤maxLen:=fun o ho=>by
 rcases DN ts [] o ho with h | h
 ·cases h
 ·exact Gx hf h
theorem BB:∀ (E:List (KL × RR)) (m:Int),m≤E.foldl (fun m x=>max m (x.1.2 + 1)) m∧∀ x ∈ E,x.1.2 + 1≤E.foldl (fun m x=>max m (x.1.2 + 1)) m
 | [],m=>⟨Int.le_refl _,fun x hx=>by cases hx⟩
 | y::E,m=>by
  obtain ⟨h1,h2⟩:=BB E (max m (y.1.2 + 1));simp only [List.foldl_cons];refine ⟨by omega,fun x hx=>?_⟩;rcases List.mem_cons.1 hx with rfl | hx
  ·omega
  ·exact h2 x hx
theorem Gy:∀ (E:List (KL × RR)) (m B:Int),m≤B→(∀ x ∈ E,x.1.2 + 1≤B)→E.foldl (fun m x=>max m (x.1.2 + 1)) m≤B
 | [],m,B,h,_=>h
 | y::E,m,B,h,hx=>Gy E _ B (Int.max_le.2 ⟨h,hx y (by simp)⟩) fun x h2=>hx x (by simp [h2])
theorem Mj {f:ByteArray × ByteArray→Int} {rs:List TR} {k:ByteArray × ByteArray} (hk:k ∈ ai (af rs)):∃ x ∈ dG f rs,x.1.2=f k:=by
 unfold ai at hk;obtain ⟨T,hT,hk⟩:=List.mem_flatMap.1 hk;obtain ⟨t,ht,rfl⟩:=List.mem_map.1 hT;unfold jd at hk;obtain ⟨r,hr,rfl⟩:=List.mem_map.1 hk;obtain ⟨q,hq,rfl⟩:=List.mem_map.1 hr;exact ⟨((t.name,f (t.name,q.name)),q),List.mem_flatMap.2 ⟨t,ht,List.mem_map.2 ⟨q,hq,rfl⟩⟩,rfl⟩
theorem Nn {f:ByteArray × ByteArray→Int} {rs:List TR} {x:KL × RR} (hx:x ∈ dG f rs):∃ k ∈ ai (af rs),x.1.2=f k∧∃ t ∈ rs,∃ q ∈ t.rows,k=(t.name,q.name):=by
 unfold dG at hx;obtain ⟨t,ht,hx⟩:=List.mem_flatMap.1 hx;obtain ⟨q,hq,rfl⟩:=List.mem_map.1 hx;refine ⟨(t.name,q.name),?_,rfl,t,ht,q,hq,rfl⟩;unfold ai jd;exact List.mem_flatMap.2 ⟨t.p,List.mem_map.2 ⟨t,ht,rfl⟩,List.mem_map.2 ⟨q.p,List.mem_map.2 ⟨q,hq,rfl⟩,rfl⟩⟩
theorem Aa {rs:List TR} (hf:∀ r ∈ rs,r.fits):∀ k ∈ ai (af rs),k.2.size≤maxLen:=fun k hk=>by
 unfold ai at hk;obtain ⟨T,hT,hk⟩:=List.mem_flatMap.1 hk;obtain ⟨t,ht,rfl⟩:=List.mem_map.1 hT;unfold jd at hk;obtain ⟨r,hr,rfl⟩:=List.mem_map.1 hk;obtain ⟨q,hq,rfl⟩:=List.mem_map.1 hr;exact ((hf t ht).2.2 q hq).1
theorem Mk (f:ByteArray × ByteArray→Int) (rs:List TR):(dG f rs).length=(ai (af rs)).length:=by
 induction rs with
 | nil=>rfl
 | cons t rs ih =>
  have e1:ai (af (t::rs))=jd t.p ++ ai (af rs):=by simp [ai,af]
  have e2:dG f (t::rs)=(t.rows.map fun r=>((t.name,f (t.name,r.name)),r)) ++ dG f rs:=rfl;have e3:(jd t.p).length=t.rows.length:=by unfold jd; rw [List.length_map]; exact fK _
  rw [e1,e2,List.length_append,List.length_append,ih,e3,List.length_map]
section
variable [DecidableEq Fc]
def dh (st:ByteArray × ByteArray→Int) (rs:List TR) (ts:List Tp):List Fc:=if bv (iG rs) rs ts then lZ st rs ts else []
theorem qh {st:ByteArray × ByteArray→Int} {rs:List TR} {ts:List Tp} (h:bv (iG rs) rs ts=true):dh st rs ts=lZ st rs ts:=by unfold dh; rw [if_pos h]
theorem tH {st:ByteArray × ByteArray→Int} {rs:List TR} {ts:List Tp} (h:bv (iG rs) rs ts=false):dh st rs ts=[]:=by unfold dh; rw [if_neg (by rw [h]; decide)]
def DR (L0:List Fc) (w:World) (e:Ending) (w':World):Prop:=(∃ (L:List Fc) (v:Value),e=.returned v∧L.Perm L0∧L.Pairwise (fun x y=>Op.bytesLess (Mh y) (Mh x)=false)∧w'.ownsRow w.heap.size 63 5 v L.length (dQ L))∧Below w.heap.size w w'
theorem yL (st:ByteArray × ByteArray→Int) (ad:Option Addr) (cap:Nat) (rs:List TR) (ad':Option Addr) (cap':Nat) (ts:List Tp) (w:World) (hlen:rs.length≤1048576) (hs:fo w ad rs) (hl:∀ r ∈ rs,r.light) (hfr:∀ r ∈ rs,r.fits) (hcp:∀ r ∈ rs,r.caps) (hlt:ts.length≤1048576) (hst:Sl w ad' ts) (hft:∀ x ∈ ts,x.fits) (hle:aI (af rs)=true→Least (af rs) st) :
  Calls prog 35 #[.slice ad rs.length cap,.slice ad' ts.length cap'] w (DR (dh st rs ts) w):=by
 have HC:=ay (Fq (iG rs) ad cap rs ad' cap' ts w hlen hs hl hfr (Be ad cap rs w hlen hs hl hfr hcp) (fun h t ht=>IV h ht) hlt hst hft);have HS:=ay hs;have HFT:=ay hft;have HFR:=ay hfr;have HLE:=ay hle;clear hs hl hfr hcp hst hft hle;go_enter func35,ntmps35;go_wp2_with fail;refine HC.out.mono ?_;rintro e w1 ⟨hb1,⟨hr,rfl⟩ | ⟨hr,D,br,bp,bt,nr,np,Mr,Mp,vo,vu,f,rfl,hbt,hLf,hDA⟩⟩
 ·have HP:Hid (DR (dh st rs ts) w (.returned (.slice none 0 0)) w1):=⟨⟨[],_,rfl,by rw [tH hr],List.Pairwise.nil,World.ownsRow_nil _ _ _ _⟩,hb1⟩;clear hb1 HC hr;go_wp2;go_ret;exact HP.out
 ·have hsd:aI (af rs)=true∧ts.length≤40:=by
   unfold bv eu at hr;simp only [Bool.and_eq_true,decide_eq_true_eq] at hr;exact ⟨hr.1.1,hr.1.2.1⟩
  obtain ⟨hsd,ht40⟩:=hsd;have hSP:=bI.1 hsd;obtain ⟨h6,hr6,-⟩:=aX hSP.1;have hE36:=vg h6 hr6;have hfk:∀ k ∈ ai (af rs),f k + 1≤(ai (af rs)).length:=fun k hk=>by
   obtain ⟨g,hg,hb⟩:=hLf.sol.few (jJ hSP.2.1);have h1:=hLf.low k hk g hg;have h2:=hb k hk;omega
  have hc0:0≤iE (dG f rs):=(BB (dG f rs) 0).1;have hcl:iE (dG f rs)≤(ai (af rs)).length:=Gy _ _ _ (by omega) fun x hx=>by
   obtain ⟨k,hk,e,-⟩:=Nn hx;rw [e]; exact hfk k hk
  obtain ⟨N,hN⟩:∃ N:Nat,iE (dG f rs)=N:=⟨(iE (dG f rs)).toNat,by omega⟩;have hkN:∀ k ∈ ai (af rs),f k < (N:Int):=fun k hk=>by
   obtain ⟨x,hx,e⟩:=Mj (f:=f) hk;have h2:=(BB (dG f rs) 0).2 x hx;have h3:x.1.2 + 1≤iE (dG f rs):=h2;rw [e,hN] at h3;omega
  have hLs:jR (af rs) ts f (fZ ts) (dL ts) N=dh st rs ts:=by
   rw [qh hr];unfold lZ;rw [← sZ (fun k hk=>hLf.same (HLE.out hsd) k hk)];exact (Ih hkN _ (by omega)).symm
  rw [hN] at hDA;have HF1:=ay (IP w1 rs ad D br bp bt N nr Mr f ts (fZ ts) (dL ts) np Mp vo vu hDA (HS.out.below hb1) (by omega) (by have:=kW ts; omega) (by have:=jN ts; omega) hE36 (fun k=>by
   have:(G.lookL (dG f rs) k).length≤(dG f rs).length:=List.length_filterMap_le _ _;rw [Mk] at this; omega) hSP.1 HFT.out (by omega) (qg HFT.out) (nJ HFT.out) (Aa HFR.out))
  rw [hLs] at HF1;have hGO:=nH f rs ts (fZ ts) (dL ts) N;rw [hLs] at hGO;have HB1:=ay hb1;have hll:=hGO.len (by have:=kW ts; omega) hE36 (by have:=jN ts; omega);have HFF:Hid (∀ x ∈ dh st rs ts,x.fits):=fun x hx=>by
   have h1:=hGO.sub x hx;unfold Dn at h1;obtain ⟨o,ho,h1⟩:=List.mem_flatMap.1 h1;obtain ⟨k,hk,h1⟩:=List.mem_flatMap.1 h1;obtain ⟨u,hu,rfl⟩:=List.mem_map.1 h1;exact ⟨(qg HFT.out o ho).1,(qg HFT.out o ho).2,Aa HFR.out k hk,(nJ HFT.out u hu).1,(nJ HFT.out u hu).2⟩
  obtain ⟨L0,hL0⟩:∃ L0,L0=dh st rs ts:=⟨_,rfl⟩;rw [← hL0] at HF1 hll HFF;have HL0:=ay hL0;clear HC hb1 hDA hLf hfk hc0 hcl hN hkN hLs hGO hSP hsd h6 hr6 hE36 hr hbt hL0;go_wp2_with fail;refine HF1.out.mono ?_;rintro e w2 ⟨⟨v,rfl,hown⟩,hb2⟩;have HB2:=ay (HB1.out.trans (hb2.mono HB1.out.size));have HO2:=ay (jB hown HB1.out.size);clear HF1 hown hb2 HB1;cases L0 with
  | nil =>
   obtain ⟨adF,capF,rfl,-⟩:=oW HO2.out;have HSN:=ay (IU adF capF (.func (.func 62) #[] #[]) w2);have HP:Hid (DR [] w (.returned (.slice adF 0 capF)) w2):=⟨⟨[],_,rfl,List.Perm.refl _,List.Pairwise.nil,HO2.out⟩,HB2.out⟩;clear HO2 HB2;go_wp2_with fail;refine HSN.out.mono ?_;rintro e w3 ⟨rfl,rfl⟩;go_wp2;go_ret;rw [← HL0.out]; exact HP.out
  | cons x0 xs0 =>
   obtain ⟨L1,hL1⟩:∃ L1,L1=x0::xs0:=⟨_,rfl⟩;obtain ⟨g,capF,rfl⟩:=ownsRow_succ (k:=xs0.length) HO2.out;have hgl:=(HO2.out.lt g rfl).1;have HSF:=ay (IR w.heap.size g capF (x0::xs0) w2 HFF.out HO2.out (by simp) (by omega));rw [← hL1] at HSF;have hlL:xs0.length + 1=L1.length:=by rw [hL1]; rfl
   rw [← hL1] at HL0;rw [hlL];clear HO2 HFF hll hL1 hlL;go_wp2_with fail;refine HSF.out.mono ?_;rintro e w3 ⟨rfl,ys,hp,hso,hrow,hcg⟩;have HP:Hid (DR L1 w (.returned (.slice (some ⟨g,0,none⟩) L1.length capF)) w3):=⟨⟨ys,_,rfl,hp,hso,by rw [hp.length_eq]; exact hrow⟩,HB2.out.trans (hcg.below (fun k hk=>by rw [hk]; exact hgl) HB2.out.size)⟩;clear hp hso hrow hcg HB2 HSF;go_wp2;go_ret;rw [← HL0.out]; exact HP.out
end
end Go.Proofs.YtdmniljjnaebbaaGreatDoor
