/- The library's SortFunc over a row of facts: the same facts, each no higher than those behind it. -/
import Derived.Test.YtajkkeikihhejaaGreatSq
import Derived.Test.YtajkkeikihhejaaGreatJ40
import Derived.Test.YtajkkeikihhejaaGreatShelfS
open Go.Proofs.Tryz
set_option maxHeartbeats 80000000
namespace Go.Proofs.YtajkkeikihhejaaGreat
set_option maxRecDepth 100000
set_option linter.unusedVariables false
open Go.ChangeShapes Go.WideShapes Go.ChangeAt Go.RowKit Go.Maps Go.Shelf Go.Sort
open Pl
theorem qV (f:Fc) (w:af) :
  Calls prog 107 #[.agg #[.string f.a,.string f.b,.string f.r,.string f.c,.string f.d]] w fun e w'=>e=.returned (.agg #[.string f.a,.string f.b,.string f.r,.string f.c,.string f.d,.string ⟨#[]⟩])∧BelowD w.heap.size w w':=by
 go_enter func107,ntmps107;go_wp2;exact bodyPost_ret (v:=.agg #[.string f.a,.string f.b,.string f.r,.string f.c,.string f.d,.string ⟨#[]⟩]) (by simp [results,Tryz.results107,go_sem, *]) rfl ⟨rfl,⟨by
  repeat (first | exact TT _ _ | refine Below.setCell ?_ (by first | (simp; done) | (simp; omega)) _ | refine Below.alloc ?_ (by first | (simp; done) | (simp; omega)) _),TS _⟩⟩
def Q7 (x y:Fc):Int:=I4 x.a x.b x.r x.c x.d ⟨#[]⟩ y.a y.b y.r y.c y.d ⟨#[]⟩
theorem Q8 {w W w':af} {n m:Nat} {x0 x1 x2 x3 x4 y0 y1 y2 y3 y4:Value} (h:W.cell? ⟨n,0,none⟩=some x0∧W.cell? ⟨n,1,none⟩=some x1∧W.cell? ⟨n,2,none⟩=some x2∧W.cell? ⟨n,3,none⟩=some x3∧W.cell? ⟨n,4,none⟩=some x4∧W.cell? ⟨m,0,none⟩=some y0∧W.cell? ⟨m,1,none⟩=some y1∧W.cell? ⟨m,2,none⟩=some y2∧W.cell? ⟨m,3,none⟩=some y3∧W.cell? ⟨m,4,none⟩=some y4∧BelowD w.heap.size w W) (hb:BelowD W.heap.size W w'):w'.cell? ⟨n,0,none⟩=some x0∧w'.cell? ⟨n,1,none⟩=some x1∧w'.cell? ⟨n,2,none⟩=some x2∧w'.cell? ⟨n,3,none⟩=some x3∧w'.cell? ⟨n,4,none⟩=some x4∧w'.cell? ⟨m,0,none⟩=some y0∧w'.cell? ⟨m,1,none⟩=some y1∧w'.cell? ⟨m,2,none⟩=some y2∧w'.cell? ⟨m,3,none⟩=some y3∧w'.cell? ⟨m,4,none⟩=some y4∧BelowD w.heap.size w w':=by
 obtain ⟨h0,h1,h2,h3,h4,g0,g1,g2,g3,g4,hB⟩:=h;exact ⟨bi hb.b (aF h0) h0,bi hb.b (aF h1) h1,bi hb.b (aF h2) h2,bi hb.b (aF h3) h3,bi hb.b (aF h4) h4,bi hb.b (aF g0) g0,bi hb.b (aF g1) g1,bi hb.b (aF g2) g2,bi hb.b (aF g3) g3,bi hb.b (aF g4) g4,hB.trans (hb.mono hB.size)⟩
theorem xe (x y:Fc) (w:af) (hx:x.fits) (hy:y.fits) :
  Calls prog 61 #[.agg #[.string x.a,.string x.b,.string x.r,.string x.c,.string x.d],.agg #[.string y.a,.string y.b,.string y.r,.string y.c,.string y.d]] w fun e w'=>e=.returned (.int .i64 (Q7 x y))∧BelowD w.heap.size w w':=by
 have he0:(⟨#[]⟩:ByteArray).size≤maxLen:=by decide
 obtain ⟨x0,x1,x2,x3,x4⟩:=hx;obtain ⟨y0,y1,y2,y3,y4⟩:=hy;obtain ⟨W0,hW0⟩:∃ W0,W0=(w.alloc (.cells #[.string x.a,.string x.b,.string x.r,.string x.c,.string x.d] 29)).alloc (.cells #[.string y.a,.string y.b,.string y.r,.string y.c,.string y.d] 29):=⟨_,rfl⟩;have HB0:BelowD w.heap.size w W0:=by rw [hW0]; exact KD _ _ _
 have c0:W0.cell? ⟨w.heap.size,0,none⟩=some (.string x.a):=by rw [hW0]; simp
 have c1:W0.cell? ⟨w.heap.size,1,none⟩=some (.string x.b):=by rw [hW0]; simp
 have c2:W0.cell? ⟨w.heap.size,2,none⟩=some (.string x.r):=by rw [hW0]; simp
 have c3:W0.cell? ⟨w.heap.size,3,none⟩=some (.string x.c):=by rw [hW0]; simp
 have c4:W0.cell? ⟨w.heap.size,4,none⟩=some (.string x.d):=by rw [hW0]; simp
 have e0:W0.cell? ⟨w.heap.size + 1,0,none⟩=some (.string y.a):=by rw [hW0]; simp
 have e1:W0.cell? ⟨w.heap.size + 1,1,none⟩=some (.string y.b):=by rw [hW0]; simp
 have e2:W0.cell? ⟨w.heap.size + 1,2,none⟩=some (.string y.r):=by rw [hW0]; simp
 have e3:W0.cell? ⟨w.heap.size + 1,3,none⟩=some (.string y.c):=by rw [hW0]; simp
 have e4:W0.cell? ⟨w.heap.size + 1,4,none⟩=some (.string y.d):=by rw [hW0]; simp
 unfold Q7;go_enter func61,ntmps61;go_wp2_with fail;rw [← hW0];clear hW0
 go_region_held3 (fun w'=>w'.cell? ⟨w.heap.size,0,none⟩=some (.string x.a)∧w'.cell? ⟨w.heap.size,1,none⟩=some (.string x.b)∧w'.cell? ⟨w.heap.size,2,none⟩=some (.string x.r)∧w'.cell? ⟨w.heap.size,3,none⟩=some (.string x.c)∧w'.cell? ⟨w.heap.size,4,none⟩=some (.string x.d)∧w'.cell? ⟨w.heap.size + 1,0,none⟩=some (.string y.a)∧w'.cell? ⟨w.heap.size + 1,1,none⟩=some (.string y.b)∧w'.cell? ⟨w.heap.size + 1,2,none⟩=some (.string y.r)∧w'.cell? ⟨w.heap.size + 1,3,none⟩=some (.string y.c)∧w'.cell? ⟨w.heap.size + 1,4,none⟩=some (.string y.d)∧BelowD w.heap.size w w')
  (first | assumption | exact Q8 (by assumption) hbx | exact ⟨c0,c1,c2,c3,c4,e0,e1,e2,e3,e4,HB0.drew⟩)
  (first | (go_at_call_of 107 (Value.agg #[.string x.a,.string x.b,.string x.r,.string x.c,.string x.d]); refine (qV x _).mono ?_; rintro e w' ⟨rfl,hbx⟩) | (go_at_call_of 107 (Value.agg #[.string y.a,.string y.b,.string y.r,.string y.c,.string y.d]); refine (qV y _).mono ?_; rintro e w' ⟨rfl,hbx⟩) | (go_at_call 106; refine (tY x.a x.b x.r x.c x.d ⟨#[]⟩ y.a y.b y.r y.c y.d ⟨#[]⟩ _ x0 x1 x2 x3 x4 he0 y0 y1 y2 y3 y4 he0).mono ?_; rintro e w' ⟨rfl,hbx⟩))
 all_goals (rename_i hJ; obtain ⟨-,-,-,-,-,-,-,-,-,-,gB⟩:=hJ; clear c0 c1 c2 c3 c4 e0 e1 e2 e3 e4; go_wp2; go_ret; exact ⟨rfl,gB⟩)
abbrev KF:={ f:Fc // f.fits }
def oD (x:KF):List Value:=x.1.row
def TH (x y:KF):Int:=Q7 x.1 y.1
def Fj (x:Fc):List UInt8:=(aX x.a x.b x.r x.c x.d ⟨#[]⟩).toList
def RI (x y:KF):Bool:=Op.bytesLess (Fj x.1) (Fj y.1)
theorem PT:ltOf TH=RI:=by
 funext x y
 unfold ltOf TH RI Q7 I4 Fj;rw [uP,Go.ByteArray.toList_eq,Go.ByteArray.toList_eq]
theorem Q9:Go.Sort.SWO RI where
 irrefl x:=Ls.lt_irrefl _
 trans x y z h k:=Ls.lt_trans _ _ _ h k
 ntrans x y z h k:=by
  cases e:RI x z;case false=>rfl
  by_cases e1:Fj y.1=Fj x.1
  ·unfold RI at *; rw [e1] at k; rw [k] at e; cases e
  rcases Ls.lt_total _ _ e1 with h1 | h1
  ·have:RI y z=true:=Ls.lt_trans _ _ _ h1 e;rw [k] at this; cases this
  have h:RI x y=false:=h;have h1:RI x y=true:=h1;rw [h] at h1; cases h1
theorem PU [Inhabited KF] (blk off size:Nat) (w:af):CmpLays prog 61 #[] oD 5 TH blk off size w:=fun m os dk _ x y =>
 (xe x.1 y.1 _ x.2 y.2).mono fun e w' ⟨he,hb⟩=>⟨he,hb.grew⟩
def kV (xs:List KF):List Fc:=xs.map (·.1)
theorem lN (xs:List KF):(kV xs).length=xs.length:=by simp [kV]
theorem MS [Inhabited KF] (w:af) (blk off n:Nat) (d:Array KF) (os:Array Obj):Chg (fun g=>g=blk) w (sortWorldK oD 5 w blk off n d os):=by
 refine ⟨⟨rfl,rfl,rfl,?_,fun k hk=>absurd hk (Uw _)⟩,fun k hk hne=>?_,fun g hg hf j=>?_⟩
 ·simp [sortWorldK,grow,putRowK,Sort.ahead]
 ·simp only [sortWorldK,putRowK];rw [heap_grow_old _ _ (by simpa [Sort.ahead] using hk)];have hne:blk ≠ k:=fun e=>hne e.symm;simp [putRow,mapBlock,Sort.ahead,Array.getElem?_modify,hne]
 simp only [sortWorldK,putRowK];rw [frozen?_grow _ _ _ (by simpa [Sort.ahead] using hg),frozen?_putRow,frozen?_ahead];exact hf j
theorem KG [Inhabited KF] {w:af} {base g cap:Nat} {xs:List KF} (h:w.ownsRow base 29 5 (.slice (some ⟨g,0,none⟩) xs.length cap) xs.length (aH (kV xs))):HoldsK oD 5 w g 0 xs.toArray:=by
 intro t ht;rw [size_flatK] at ht;have ht':t < xs.length * 5:=by simpa using ht
 have hi:t / 5 < xs.length:=by omega
 have hr:t % 5 < 5:=Nat.mod_lt _ (by omega);refine ⟨?_,by rw [Um]; exact h.frozenAt t⟩;rw [Um,h.cellAt t ht',get_flatK _ _ _ _ ht];have e:t=t / 5 * 5 + t % 5:=by omega
 have h1:=qN (kV xs) (t / 5) (by rw [lN]; exact hi) (t % 5) hr;rw [← e] at h1;rw [h1];have h2:(xs.toArray)[t / 5]! = xs[t / 5]:=by rw [getElem!_pos xs.toArray _ (by simpa using hi)]; simp
 rw [h2];have h3:(kV xs)[t / 5]'(by rw [lN]; exact hi)=xs[t / 5].1:=by simp [kV]
 rw [h3];have hl:t % 5 < (Fc.row xs[t / 5].1).length:=hr;show _=some ((Fc.row xs[t / 5].1)[t % 5]!);rw [TY hl,getElem!_pos (Fc.row xs[t / 5].1) (t % 5) hl]
theorem TC [Inhabited KF] {w:af} {base g n cap:Nat} {xs ys:List KF} (h0:w.ownsRow base 29 5 (.slice (some ⟨g,0,none⟩) n cap) n (aH (kV xs))) (hx:xs.length=n) (hl:ys.length=n) (m:Nat) (os:Array Obj):(sortWorldK oD 5 w g 0 m ys.toArray os).ownsRow base 29 5 (.slice (some ⟨g,0,none⟩) n cap) n (aH (kV ys)):=by
 subst hx;have hg:=(h0.lt g rfl).2;have hH:=holdsK_sortWorldK_c oD 5 w g 0 xs.toArray ys.toArray m os (KG h0) hg (by simpa using hl);have hlen:(aH (kV ys)).length=xs.length * 5:=by rw [lH,lN,hl]
 refine ⟨hlen,.inr ?_⟩;rcases h0.2 with ⟨e,-⟩ | ⟨g',cap',cur,e,h1,h2,h3,h4,h5,-⟩
 ·cases e
 injection e with e1 e2 e3;injection e1 with e1; injection e1 with e1;subst e1; subst e3;have hb:(sortWorldK oD 5 w g 0 m ys.toArray os).heap[g]?=some (.cells (putCells id 0 (flatK oD 5 ys.toArray) cur) 29 (0,0)):=by
  simp only [sortWorldK,putRowK];rw [heap_grow_old _ _ (by simpa [Sort.ahead] using hg)];simp [putRow,mapBlock,Sort.ahead,Array.getElem?_modify,h2,onCells]
 refine ⟨g,cap,_,rfl,h1,hb,h3,h4,by simp only [putCells,Array.size_mapIdx]; exact h5,?_⟩;refine List.ext_getElem? fun j=>?_;by_cases hj:j < xs.length * 5
 ·rw [List.getElem?_take_of_lt hj];have hi:j / 5 < ys.length:=by omega
  have h6:=(hH j (by rw [size_flatK]; simpa [hl] using hj)).1;rw [Um,get_flatK _ _ _ _ (by simpa [hl] using hj)] at h6;replace h6:(sortWorldK oD 5 w g 0 m ys.toArray os).cell? ⟨g,j,none⟩=some ((oD (ys.toArray)[j / 5]!)[j % 5]!):=h6;have h7:(putCells id 0 (flatK oD 5 ys.toArray) cur).toList[j]?=some ((oD (ys.toArray)[j / 5]!)[j % 5]!):=by
   rw [← h6];simp [World.cell?,hb]
  rw [h7];have e:j=j / 5 * 5 + j % 5:=by omega
  have h8:=qN (kV ys) (j / 5) (by rw [lN]; exact hi) (j % 5) (Nat.mod_lt _ (by omega));rw [← e] at h8;rw [h8];have h9:(ys.toArray)[j / 5]! = ys[j / 5]:=by rw [getElem!_pos ys.toArray _ (by simpa using hi)]; simp
  have h10:(kV ys)[j / 5]'(by rw [lN]; exact hi)=ys[j / 5].1:=by simp [kV]
  rw [h9,h10];have hl2:j % 5 < (Fc.row ys[j / 5].1).length:=Nat.mod_lt _ (by omega);show some ((Fc.row ys[j / 5].1)[j % 5]!)=_;rw [TY hl2,getElem!_pos (Fc.row ys[j / 5].1) (j % 5) hl2]
 rw [List.getElem?_eq_none (by rw [Ut]; omega),List.getElem?_eq_none (by omega)]
theorem MU (base g cap:Nat) (fs:List Fc) (w:af) (hf:∀ f ∈ fs,f.fits) (hR:w.ownsRow base 29 5 (.slice (some ⟨g,0,none⟩) fs.length cap) fs.length (aH fs)) (hne:fs ≠ []) (h6:fs.length≤200000) :
  Calls prog 60 #[.slice (some ⟨g,0,none⟩) fs.length cap,.func (.func 61) #[] #[]] w fun e w'=>e=.returned (.tuple #[])∧∃ ys:List Fc,ys.Perm fs∧ys.Pairwise (fun x y=>Op.bytesLess (Fj y) (Fj x)=false)∧w'.ownsRow base 29 5 (.slice (some ⟨g,0,none⟩) fs.length cap) fs.length (aH ys)∧Chg (fun k=>k=g) w w':=by
 obtain ⟨xs,hxs⟩:∃ xs:List KF,kV xs=fs:=⟨fs.attach.map fun x=>⟨x.1,hf x.1 x.2⟩,by unfold kV; rw [List.map_map]; simp [Function.comp_def]⟩;subst hxs;rw [lN] at hR h6 ⊢;cases xs with
 | nil=>exact absurd rfl hne
 | cons x0 xs0 =>
  letI:Inhabited KF:=⟨x0⟩
  have hg:=hR.lt g rfl;have eg:∀ args w,(callFunc 61 args).run prog w=.ok (.enter 61 args) w:=enters_of func61 (by kernel_rfl) rfl;have hs:=AnyQ.slices_SortFunc Tryz.sortF 5 Tryz.isAgg29 Tryz.sizeOf29 oD (fun _=>rfl) (fun x v hv=>by simp [oD,Fc.row] at hv; rcases hv with rfl | rfl | rfl | rfl | rfl <;> rfl) TH (by rw [PT]; exact Q9) 61 #[] g 0 cap (x0::xs0).toArray w eg (PU g 0 _ w) (KG hR) hg.2 (by simp at h6 ⊢; omega)
  change Calls prog 60 _ _ _ at hs
  rw [PT] at hs;refine hs.mono fun e w' ⟨he,d',n,os,hp,hso,hw⟩=>⟨he,kV d'.toList,?_,?_,?_,?_⟩
  ·have:=hp.2.2;have h2:d'.toList.Perm (x0::xs0):=by simpa [Array.extract_eq_self_of_le,hp.1] using this
   exact h2.map _
  ·have hz:d'.size=xs0.length + 1:=by simpa using hp.1
   unfold kV;rw [List.pairwise_map,List.pairwise_iff_getElem];intro i j hi hj hij;have hi2:i < d'.size:=by simpa using hi
   have hj2:j < d'.size:=by simpa using hj
   have hlt:=hso i j (TW _) hij (by rw [hz] at hj2; simpa using hj2);rw [getElem!_pos d' j hj2,getElem!_pos d' i hi2] at hlt;exact hlt
  ·rw [hw];have hz:d'.toList.length=(x0::xs0).length:=by simpa using hp.1
   have:=TC hR rfl hz n os;simpa using this
  rw [hw]; exact MS w g 0 n d' os
theorem Ha (p:Option Addr) (cap:Nat) (fv:Value) (w:af) :
  Calls prog 149 #[.slice p 0 cap,.int .i64 0,.int .i64 0,fv] w fun e w'=>e=.returned (.tuple #[])∧w'=w:=by
 go_enter func149,ntmps149;go_wp2_with fail;go_loopw [8] (fun i wr=>i=.int .i64 1∧wr=w) (fun _ _=>0);case atStart=>exact ⟨rfl,rfl⟩
 obtain ⟨rfl,rfl⟩:=hrel;go_wp2
 go_end0
 exact ⟨rfl,rfl⟩
theorem PV (p:Option Addr) (cap:Nat) (lim:Int) (fv:Value) (w:af) :
  Calls prog 104 #[.slice p 0 cap,.int .i64 0,.int .i64 0,.int .i64 lim,fv] w fun e w'=>e=.returned (.tuple #[])∧w'=w:=by
 go_enter func104,ntmps104;go_wp2_with fail;go_loopw [1,2] (fun a b wr=>a=.int .i64 0∧b=.int .i64 0∧wr=w) (fun _ _ _=>0);case atStart=>exact ⟨rfl,rfl,rfl⟩
 obtain ⟨rfl,rfl,rfl⟩:=hrel;go_wp2_with fail;refine (Ha p cap fv _).mono ?_;rintro e w1 ⟨rfl,rfl⟩;go_wp2;refine bodyPost_ret (results_none rfl _ _ _) rfl ?_;exact ⟨rfl,rfl⟩
theorem MV (p:Option Addr) (cap:Nat) (fv:Value) (w:af) :
  Calls prog 60 #[.slice p 0 cap,fv] w fun e w'=>e=.returned (.tuple #[])∧w'=w:=by
 go_enter func60,ntmps60;go_wp2_with fail;refine (Tryz.bits_Len 0 _ (by omega) (by omega)).mono ?_;rintro e w1 ⟨rfl,rfl⟩;go_wp2_with fail;refine (PV p cap _ fv _).mono ?_;rintro e w1 ⟨rfl,rfl⟩;go_wp2
 go_end0
 exact ⟨rfl,rfl⟩
set_option linter.unusedSectionVars false
section
variable [DecidableEq Fc]
def DL (L0:List Fc) (w:World) (e:Ending) (w':World):Prop:=(∃ (L:List Fc) (v:Value),e=.returned v∧L.Perm L0∧L.Pairwise (fun x y=>Op.bytesLess (Fj y) (Fj x)=false)∧w'.ownsRow w.heap.size 29 5 v L.length (aH L))∧ag w w'
theorem sJ (st:ByteArray × ByteArray→Int) (ad:Option Addr) (cap:Nat) (rs:List TR) (UJ:Option Addr) (cap':Nat) (ts:List Tp) (w:af) (hlen:rs.length≤1048576) (hs:kX w ad rs) (hl:∀ r ∈ rs,r.light) (hfr:∀ r ∈ rs,r.fits) (hcp:∀ r ∈ rs,r.caps) (hlt:ts.length≤1048576) (hst:Sl w UJ ts) (hft:∀ x ∈ ts,x.fits) (hle:aJ (ae rs)=true→Least (ae rs) st) :
  Calls prog 14 #[.slice ad rs.length cap,.slice UJ ts.length cap'] w (DL (bC st rs ts) w):=by
 have HC:=aC (Jz (gW rs) ad cap rs UJ cap' ts w hlen hs hl hfr (vw ad cap rs w hlen hs hl hfr hcp) (fun h t ht=>wV h ht) hlt hst hft);have HS:=aC hs;have UL:=aC hft;have WT:=aC hfr;have Vl:=aC hle;clear hs hl hfr hcp hst hft hle;go_enter func14,ntmps14;go_wp2_with fail;refine HC.out.mono ?_;rintro e w1 ⟨hb1,⟨hr,rfl⟩ | ⟨hr,D,br,bp,bt,nr,np,Mr,Mp,vo,vu,f,rfl,hbt,hLf,Wd⟩⟩
 ·have HP:Hid (DL (bC st rs ts) w (.returned (.slice none 0 0)) w1):=⟨⟨[],_,rfl,by rw [jo hr],List.Pairwise.nil,World.ownsRow_nil _ _ _ _⟩,hb1⟩;clear hb1 HC hr;go_wp2;go_ret;exact HP.out
 have hsd:aJ (ae rs)=true∧ts.length≤40:=by
  unfold aQ dJ at hr;simp only [TU,Ud] at hr;exact ⟨hr.1.1,hr.1.2.1⟩
 obtain ⟨hsd,ht40⟩:=hsd;have hSP:=aY.1 hsd;obtain ⟨h6,Wh,-⟩:=bq hSP.1;have Ym:=yN h6 Wh;have hfk:∀ k ∈ au (ae rs),f k + 1≤(au (ae rs)).length:=fun k hk=>by
  obtain ⟨g,hg,hb⟩:=hLf.sol.few (kw hSP.2.1);have h1:=hLf.low k hk g hg;have h2:=hb k hk;omega
 have hc0:0≤jI (eY f rs):=(E8 (eY f rs) 0).1;have hcl:jI (eY f rs)≤(au (ae rs)).length:=KC _ _ _ (by omega) fun x hx=>by
  obtain ⟨k,hk,e,-⟩:=SN hx;rw [e]; exact hfk k hk
 obtain ⟨N,hN⟩:∃ N:Nat,jI (eY f rs)=N:=⟨(jI (eY f rs)).toNat,by omega⟩;have hkN:∀ k ∈ au (ae rs),f k < (N:Int):=fun k hk=>by
  obtain ⟨x,hx,e⟩:=Q4 (f:=f) hk;have h2:=(E8 (eY f rs) 0).2 x hx;have h3:x.1.2 + 1≤jI (eY f rs):=h2;rw [e,hN] at h3;omega
 have hLs:mD (ae rs) ts f (eD ts) (cZ ts) N=bC st rs ts:=by
  rw [iw hr];unfold qU;rw [← wU (fun k hk=>hLf.same (Vl.out hsd) k hk)];exact (Mk hkN _ (by omega)).symm
 rw [hN] at Wd;have Vz:=aC (MR w1 rs ad D br bp bt N nr Mr f ts (eD ts) (cZ ts) np Mp vo vu Wd (HS.out.below hb1) (by omega) (by have:=oq ts; omega) (by have:=mF ts; omega) Ym (fun k=>by
  have:(G.lookL (eY f rs) k).length≤(eY f rs).length:=List.length_filterMap_le _ _;rw [Q5] at this; omega) hSP.1 UL.out (by omega) (pG UL.out) (nu UL.out) (wX WT.out))
 rw [hLs] at Vz;have hGO:=kG f rs ts (eD ts) (cZ ts) N;rw [hLs] at hGO;have HB1:=aC hb1;have hll:=hGO.len (by have:=oq ts; omega) Ym (by have:=mF ts; omega);have Z8:Hid (∀ x ∈ bC st rs ts,x.fits):=fun x hx=>by
  have h1:=hGO.sub x hx;unfold BQ at h1;obtain ⟨o,ho,h1⟩:=Uf.1 h1;obtain ⟨k,hk,h1⟩:=Uf.1 h1;obtain ⟨u,hu,rfl⟩:=Ue.1 h1;exact ⟨(pG UL.out o ho).1,(pG UL.out o ho).2,wX WT.out k hk,(nu UL.out u hu).1,(nu UL.out u hu).2⟩
 obtain ⟨L0,hL0⟩:∃ L0,L0=bC st rs ts:=⟨_,rfl⟩;rw [← hL0] at Vz hll Z8;have HL0:=aC hL0;clear HC hb1 Wd hLf hfk hc0 hcl hN hkN hLs hGO hSP hsd h6 Wh Ym hr hbt hL0;go_wp2_with fail;refine Vz.out.mono ?_;rintro e w2 ⟨⟨v,rfl,hown⟩,hb2⟩;have HB2:=aC (HB1.out.trans (hb2.mono HB1.out.size));have UB:=aC (fB hown HB1.out.size);clear Vz hown hb2 HB1;cases L0 with
 | nil =>
  obtain ⟨XW,Vu,rfl,-⟩:=mZ UB.out;have HSN:=aC (MV XW Vu (.func (.func 61) #[] #[]) w2);have HP:Hid (DL [] w (.returned (.slice XW 0 Vu)) w2):=⟨⟨[],_,rfl,List.Perm.refl _,List.Pairwise.nil,UB.out⟩,HB2.out⟩;clear UB HB2;go_wp2_with fail;refine HSN.out.mono ?_;rintro e w3 ⟨rfl,rfl⟩;go_wp2;go_ret;rw [← HL0.out]; exact HP.out
 | cons x0 xs0 =>
  obtain ⟨L1,hL1⟩:∃ L1,L1=x0::xs0:=⟨_,rfl⟩;obtain ⟨g,Vu,rfl⟩:=ownsRow_succ (k:=xs0.length) UB.out;have hgl:=(UB.out.lt g rfl).1;have Y9:=aC (MU w.heap.size g Vu (x0::xs0) w2 Z8.out UB.out (by simp) (by omega));rw [← hL1] at Y9;have hlL:xs0.length + 1=L1.length:=by rw [hL1]; rfl
  rw [← hL1] at HL0;rw [hlL];clear UB Z8 hll hL1 hlL;go_wp2_with fail;refine Y9.out.mono ?_;rintro e w3 ⟨rfl,ys,hp,hso,hrow,hcg⟩;have HP:Hid (DL L1 w (.returned (.slice (some ⟨g,0,none⟩) L1.length Vu)) w3):=⟨⟨ys,_,rfl,hp,hso,by rw [hp.length_eq]; exact hrow⟩,HB2.out.trans (hcg.below (fun k hk=>by rw [hk]; exact hgl) HB2.out.size)⟩;clear hp hso hrow hcg HB2 Y9;go_wp2;go_ret;rw [← HL0.out]; exact HP.out
end
theorem oF {w w':af} {base:Nat} {e:TypeId} {size:Nat} {v:Value} {n:Nat} {xs:List Value} (h:w.ownsRow base e size v n xs) (hh:∀ g,v.ownBlock=some g→w'.heap[g]?=w.heap[g]?):w'.ownsRow base e size v n xs:=by
 refine ⟨h.1,?_⟩;rcases h.2 with hl | ⟨g,cap,cur,rfl,h1,h2,h3⟩
 ·exact .inl hl
 exact .inr ⟨g,cap,cur,rfl,h1,(hh g rfl).trans h2,h3⟩
theorem Bh {w:af} {base size n:Nat} {e:TypeId} {v:Value} {xs:List Value} (h:w.ownsRow base e size v n xs):∃ ad cap,v=.slice ad n cap:=by
 rcases h.2 with ⟨rfl,h0⟩ | ⟨g,cap,cur,rfl,-⟩
 ·exact ⟨none,0,by rw [h0]⟩
 exact ⟨_,_,rfl⟩
theorem DN {w:af} {base size n cap:Nat} {e:TypeId} {ad:Option Addr} {xs:List Value} (h:w.ownsRow base e size (.slice ad n cap) n xs) (hn:n ≠ 0):∃ g,ad=some ⟨g,0,none⟩∧(Value.slice ad n cap).ownBlock=some g:=by
 rcases h.2 with ⟨-,h0⟩ | ⟨g,cap',cur,e1,-⟩
 ·exact absurd h0 hn
 injection e1 with e1;exact ⟨g,e1,by rw [e1]; rfl⟩
theorem xg {w:af} {base base' size n:Nat} {e:TypeId} {v:Value} {xs:List Value} (h:w.ownsRow base e size v n xs) (hb:base'≤base):w.ownsRow base' e size v n xs:=by
 refine ⟨h.1,?_⟩;rcases h.2 with hl | ⟨g,cap,cur,e,h1,h2⟩
 ·exact .inl hl
 exact .inr ⟨g,cap,cur,e,TZ hb h1,h2⟩
theorem Ra {w:af} {base size n cap:Nat} {e:TypeId} {ad:Option Addr} {xs:List Value} (h:w.ownsRow base e size (.slice ad n cap) n xs):n≤cap:=by
 rcases h.2 with ⟨e1,h0⟩ | ⟨g,cap',cur,e1,-,-,hnc,-⟩
 ·injection e1 with _ e2 e3; omega
 injection e1 with _ e2 e3; omega
theorem JS (xs:List Fc):∀ p,aH (xs.take p)=(aH xs).take (p * 5):=by
 induction xs with
 | nil=>intro p; simp [aH]
 | cons x xs ih =>
  intro p;cases p with
  | zero=>simp [aH]
  | succ p =>
   have ih:=ih p;unfold aH at ih ⊢;rw [List.take_succ_cons,List.flatMap_cons,List.flatMap_cons,ih,show (p + 1) * 5=p * 5 + 1 + 1 + 1 + 1 + 1 by omega];simp [Fc.row]
theorem JU (xs:List Fc):∀ p,aH (xs.drop p)=(aH xs).drop (p * 5):=by
 induction xs with
 | nil=>intro p; simp [aH]
 | cons x xs ih =>
  intro p;cases p with
  | zero=>simp [aH]
  | succ p =>
   have ih:=ih p;unfold aH at ih ⊢;rw [List.drop_succ_cons,List.flatMap_cons,ih,show (p + 1) * 5=p * 5 + 1 + 1 + 1 + 1 + 1 by omega];simp [Fc.row]
theorem Bi {w:af} {base g n cap:Nat} {xs:List Fc} (h:w.ownsRow base 29 5 (.slice (some ⟨g,0,none⟩) n cap) n (aH xs)) (p:Nat) (hp:p≤n):∀ j u,(aH (xs.take p))[j]?=some u→w.cell? ((⟨g,0,none⟩:Addr).add j)=some u:=fun j u hu=>by
 rw [JS,List.getElem?_take] at hu;split at hu
 ·rename_i hj;have:=h.cellAt j (by omega);rw [hu] at this;have e:(⟨g,0,none⟩:Addr).add j=⟨g,j,none⟩:=by unfold Addr.add; split <;> simp_all
  rw [e]; exact this
 cases hu
theorem JV {w:af} {base g n cap:Nat} {xs:List Fc} (h:w.ownsRow base 29 5 (.slice (some ⟨g,0,none⟩) n cap) n (aH xs)) (p:Nat) (hp:p≤n):∀ j u,(aH (xs.drop p))[j]?=some u→w.cell? ((⟨g,p * 5,none⟩:Addr).add j)=some u:=fun j u hu=>by
 rw [JU,List.getElem?_drop] at hu;have hl:=h.1;have hj:p * 5 + j < n * 5:=by
  rw [← hl]; exact (List.getElem?_eq_some_iff.1 hu).1
 have:=h.cellAt (p * 5 + j) hj;rw [hu] at this;have e:(⟨g,p * 5,none⟩:Addr).add j=⟨g,p * 5 + j,none⟩:=by unfold Addr.add; split <;> simp_all
 rw [e]; exact this
theorem vS (xs:List Fc):∀ u ∈ aH xs,u.oneCell'=true:=fun u hu=>by
 obtain ⟨q,-,h⟩:=Uf.1 hu;simp only [Fc.row,List.mem_cons,List.not_mem_nil,or_false] at h;rcases h with rfl | rfl | rfl | rfl | rfl <;> rfl
theorem JW {w:af} {a:Addr} {xs:List Fc} (h:xs=[]):∀ j u,(aH xs)[j]?=some u→w.cell? (a.add j)=some u:=fun j u hu=>by
 rw [h] at hu; simp [aH] at hu
end Go.Proofs.YtajkkeikihhejaaGreat
namespace Go.Proofs.YtajkkeikihhejaaGreat
open Go.ChangeShapes Go.WideShapes Go.ChangeAt Go.RowKit
open Pl
attribute [local go_sem ↓] Go.wp_at_zero Go.wp_at_succ
theorem MW (a b r c d:bH) (w:af) :
  Calls prog 181 #[.agg #[.string a,.string b,.string r,.string c,.string d]] w fun e w'=>e=.returned (.agg #[.string a,.string b,.string r,.string c,.string d,.string ⟨#[]⟩])∧ag w w':=by
 go_enter func181,ntmps181;go_wp2;exact bodyPost_ret (v:=.agg #[.string a,.string b,.string r,.string c,.string d,.string ⟨#[]⟩]) (by simp [results,Tryz.results181,go_sem, *]) rfl ⟨rfl,by
  repeat (first | exact TT _ _ | refine Below.setCell ?_ (by first | (simp; done) | (simp; omega)) _ | refine Below.alloc ?_ (by first | (simp; done) | (simp; omega)) _)⟩
theorem Rb {w W w':af} {n m k:Nat} {x0 x1 x2 x3 x4 y0 y1 y2 y3 y4:Value} (hk:k≤n) (h:W.cell? ⟨n,0,none⟩=some x0∧W.cell? ⟨n,1,none⟩=some x1∧W.cell? ⟨n,2,none⟩=some x2∧W.cell? ⟨n,3,none⟩=some x3∧W.cell? ⟨n,4,none⟩=some x4∧W.cell? ⟨m,0,none⟩=some y0∧W.cell? ⟨m,1,none⟩=some y1∧W.cell? ⟨m,2,none⟩=some y2∧W.cell? ⟨m,3,none⟩=some y3∧W.cell? ⟨m,4,none⟩=some y4∧n < W.heap.size∧m < W.heap.size∧Below k w W) (hb:ag W w'):w'.cell? ⟨n,0,none⟩=some x0∧w'.cell? ⟨n,1,none⟩=some x1∧w'.cell? ⟨n,2,none⟩=some x2∧w'.cell? ⟨n,3,none⟩=some x3∧w'.cell? ⟨n,4,none⟩=some x4∧w'.cell? ⟨m,0,none⟩=some y0∧w'.cell? ⟨m,1,none⟩=some y1∧w'.cell? ⟨m,2,none⟩=some y2∧w'.cell? ⟨m,3,none⟩=some y3∧w'.cell? ⟨m,4,none⟩=some y4∧n < w'.heap.size∧m < w'.heap.size∧Below k w w':=by
 obtain ⟨h0,h1,h2,h3,h4,h5,h6,h7,h8,h9,hn,hm,hB⟩:=h;have hc:∀ o,w'.cell? ⟨n,o,none⟩=W.cell? ⟨n,o,none⟩:=fun o=>hb.cell (p:=⟨n,o,none⟩) hn;have hd:∀ o,w'.cell? ⟨m,o,none⟩=W.cell? ⟨m,o,none⟩:=fun o=>hb.cell (p:=⟨m,o,none⟩) hm;exact ⟨by rw [hc]; exact h0,by rw [hc]; exact h1,by rw [hc]; exact h2,by rw [hc]; exact h3,by rw [hc]; exact h4,by rw [hd]; exact h5,by rw [hd]; exact h6,by rw [hd]; exact h7,by rw [hd]; exact h8,by rw [hd]; exact h9,TP hn hb.size,TP hm hb.size,hB.trans (hb.mono (by omega))⟩
theorem TD (a b r c d a' b' r' c' d':bH) (w W:af) (hW:W=((w.alloc (.cells #[.string a,.string b,.string r,.string c,.string d] 29)).alloc (.cells #[.string a',.string b',.string r',.string c',.string d'] 29))):W.drew.cell? ⟨w.heap.size,0,none⟩=some (.string a)∧W.drew.cell? ⟨w.heap.size,1,none⟩=some (.string b)∧W.drew.cell? ⟨w.heap.size,2,none⟩=some (.string r)∧W.drew.cell? ⟨w.heap.size,3,none⟩=some (.string c)∧W.drew.cell? ⟨w.heap.size,4,none⟩=some (.string d)∧W.drew.cell? ⟨w.heap.size + 1,0,none⟩=some (.string a')∧W.drew.cell? ⟨w.heap.size + 1,1,none⟩=some (.string b')∧W.drew.cell? ⟨w.heap.size + 1,2,none⟩=some (.string r')∧W.drew.cell? ⟨w.heap.size + 1,3,none⟩=some (.string c')∧W.drew.cell? ⟨w.heap.size + 1,4,none⟩=some (.string d')∧w.heap.size < W.drew.heap.size∧w.heap.size + 1 < W.drew.heap.size∧ag w W.drew:=by
 subst hW;refine ⟨?_,?_,?_,?_,?_,?_,?_,?_,?_,?_,?_,?_,?_⟩
 all_goals first | exact (Ai _ _ _).drew | (simp; done) | (simp; omega)
theorem vV (a b r c d a' b' r' c' d':bH) (w:af) (ha:a.size≤maxLen) (hb:b.size≤maxLen) (hr:r.size≤maxLen) (hc:c.size≤maxLen) (hd:d.size≤maxLen) (ga:a'.size≤maxLen) (gb:b'.size≤maxLen) (gr:r'.size≤maxLen) (gc:c'.size≤maxLen) (gd:d'.size≤maxLen) :
  Calls prog 130 #[.agg #[.string a,.string b,.string r,.string c,.string d],.agg #[.string a',.string b',.string r',.string c',.string d']] w fun e w'=>e=.returned (.bool (fU a b r c d ⟨#[]⟩ a' b' r' c' d' ⟨#[]⟩))∧ag w w':=by
 have he0:(⟨#[]⟩:ByteArray).size≤maxLen:=by decide
 have H0:=TD a b r c d a' b' r' c' d' w _ rfl;go_enter func130,ntmps130;go_wp2_with fail
 go_region_held3 (fun w'=>w'.cell? ⟨w.heap.size,0,none⟩=some (.string a)∧w'.cell? ⟨w.heap.size,1,none⟩=some (.string b)∧w'.cell? ⟨w.heap.size,2,none⟩=some (.string r)∧w'.cell? ⟨w.heap.size,3,none⟩=some (.string c)∧w'.cell? ⟨w.heap.size,4,none⟩=some (.string d)∧w'.cell? ⟨w.heap.size + 1,0,none⟩=some (.string a')∧w'.cell? ⟨w.heap.size + 1,1,none⟩=some (.string b')∧w'.cell? ⟨w.heap.size + 1,2,none⟩=some (.string r')∧w'.cell? ⟨w.heap.size + 1,3,none⟩=some (.string c')∧w'.cell? ⟨w.heap.size + 1,4,none⟩=some (.string d')∧w.heap.size < w'.heap.size∧w.heap.size + 1 < w'.heap.size∧ag w w')
  (first | assumption | exact Rb (TS _) (by assumption) hbx | exact H0)
  (first | (go_at_call 181; refine (MW _ _ _ _ _ _).mono ?_; rintro e w' ⟨rfl,hbx⟩) | (go_at_call 137; refine (nD _ _ _ _ _ _ _ _ _ _ _ _ _ (by assumption) (by assumption) (by assumption) (by assumption) (by assumption) (by assumption) (by assumption) (by assumption) (by assumption) (by assumption) (by assumption) (by assumption)).mono ?_; rintro e w' ⟨rfl,hbx⟩))
 rename_i hJ;obtain ⟨-,-,-,-,-,-,-,-,-,-,-,-,gB⟩:=hJ;go_wp2;go_ret;exact ⟨rfl,gB⟩
end Go.Proofs.YtajkkeikihhejaaGreat
namespace Go.Proofs.YtajkkeikihhejaaGreat
set_option linter.unusedVariables false
section
variable {α:Type} {lt:α→α→Bool}
def qW (lt:α→α→Bool) (r:α):List α→List α
 | []=>[r]
 | x::xs=>if lt x r then x::qW lt r xs else r::x::xs
def kH (lt:α→α→Bool) (rs:List α):List α:=rs.foldl (fun out r=>qW lt r out) []
theorem E9 {r:α}:∀ {xs:List α} {p:Nat},p≤xs.length→(∀ (i:Nat) (h:i < xs.length),i < p→lt xs[i] r=true)→(∀ h:p < xs.length,lt xs[p] r=false)→qW lt r xs=xs.take p ++ r::xs.drop p
 | [],p,hp,_,_=>by
  obtain rfl:p=0:=by simpa using hp
  rfl
 | x::xs,0,_,_,h2=>by
  have:=h2 (by simp);simp only [List.getElem_cons_zero] at this;simp [qW,this]
 | x::xs,p + 1,hp,h1,h2=>by
  have h0:=h1 0 (by simp) (by omega);simp only [List.getElem_cons_zero] at h0;have ih:=E9 (r:=r) (xs:=xs) (p:=p) (by simpa using hp) (fun i h hi=>h1 (i + 1) (by simpa using h) (by omega)) (fun h=>h2 (by simpa using h));simp [qW,h0,ih]
theorem rR (r:α):∀ xs:List α,(qW lt r xs).Perm (r::xs)
 | []=>List.Perm.refl _
 | x::xs=>by
  unfold qW;split
  ·exact ((rR r xs).cons x).trans (List.Perm.swap _ _ _)
  exact List.Perm.refl _
theorem Bj:∀ (rs acc:List α),(rs.foldl (fun out r=>qW lt r out) acc).Perm (rs ++ acc)
 | [],acc=>List.Perm.refl _
 | r::rs,acc=>(Bj rs (qW lt r acc)).trans (((rR r acc).append_left rs).trans List.perm_middle)
theorem ja (rs:List α):(kH lt rs).Perm rs:=by simpa [kH] using Bj rs []
theorem JX (rs:List α) (r:α):kH lt (rs ++ [r])=qW lt r (kH lt rs):=by unfold kH; rw [List.foldl_append]; rfl
structure OrdO (lt:α→α→Bool) (rs:List α):Prop where
 trans:∀ x ∈ rs,∀ y ∈ rs,∀ z ∈ rs,lt x y=true→lt y z=true→lt x z=true
 asymm:∀ x ∈ rs,∀ y ∈ rs,lt x y=true→lt y x=false
 total:∀ x ∈ rs,∀ y ∈ rs,x ≠ y→lt x y=true ∨ lt y x=true
theorem OrdO.mono {rs qs:List α} (h:OrdO lt rs) (hs:∀ x ∈ qs,x ∈ rs):OrdO lt qs :=
 ⟨fun x hx y hy z hz=>h.trans x (hs x hx) y (hs y hy) z (hs z hz),fun x hx y hy=>h.asymm x (hs x hx) y (hs y hy),fun x hx y hy=>h.total x (hs x hx) y (hs y hy)⟩
def RJ (lt:α→α→Bool) (xs:List α):Prop:=xs.Pairwise fun x y=>lt x y=true
theorem KH {r:α}:∀ {xs:List α},OrdO lt (r::xs)→r ∉ xs→RJ lt xs→RJ lt (qW lt r xs)
 | [],_,_,_=>List.pairwise_singleton _ _
 | x::xs,ho,hn,h=>by
  obtain ⟨h1,h2⟩:=List.pairwise_cons.1 h;have hx:x ∈ r::x::xs:=by simp
  have hr:r ∈ r::x::xs:=by simp
  unfold qW;split
  ·rename_i hl;refine List.pairwise_cons.2 ⟨fun y hy=>?_,KH (ho.mono fun z hz=>?_) (fun hm=>hn (Uq _ hm)) h2⟩
   ·rcases List.mem_cons.1 ((rR r xs).mem_iff.1 hy) with rfl | hy
    ·exact hl
    exact h1 y hy
   rcases List.mem_cons.1 hz with rfl | hz
   ·simp
   simp [hz]
  rename_i hl;have hne:r ≠ x:=fun e=>hn (by rw [e]; simp);have hrx:lt r x=true:=by
   rcases ho.total r hr x hx hne with h3 | h3
   ·exact h3
   exact absurd h3 hl
  refine List.pairwise_cons.2 ⟨fun y hy=>?_,h⟩;rcases List.mem_cons.1 hy with rfl | hy
  ·exact hrx
  exact ho.trans r hr x hx y (by simp [hy]) hrx (h1 y hy)
theorem Hd:∀ (rs acc:List α),OrdO lt (rs ++ acc)→rs.Nodup→(∀ r ∈ rs,r ∉ acc)→RJ lt acc→RJ lt (rs.foldl (fun out r=>qW lt r out) acc)
 | [],acc,_,_,_,h=>h
 | r::rs,acc,ho,hd,hn,h=>by
  obtain ⟨hr,hd2⟩:=List.nodup_cons.1 hd;have hp:=rR (lt:=lt) r acc;refine Hd rs (qW lt r acc) (ho.mono fun x hx=>?_) hd2 (fun x hx hm=>?_) (KH (ho.mono fun x hx=>?_) (hn r (by simp)) h)
  ·rcases Uc.1 hx with hx | hx
   ·simp [hx]
   rcases List.mem_cons.1 (hp.mem_iff.1 hx) with rfl | hx
   ·simp
   simp [hx]
  ·rcases List.mem_cons.1 (hp.mem_iff.1 hm) with rfl | hm
   ·exact hr hx
   exact hn x (by simp [hx]) hm
  rcases List.mem_cons.1 hx with rfl | hx
  ·simp
  simp [hx]
theorem PW {rs:List α} (ho:OrdO lt rs) (hd:rs.Nodup):RJ lt (kH lt rs):=Hd rs [] (by simpa using ho) hd (fun _ _=>List.not_mem_nil) List.Pairwise.nil
theorem Bl:∀ {xs ys:List α},OrdO lt xs→RJ lt xs→RJ lt ys→xs.Perm ys→xs=ys
 | [],ys,_,_,_,hp=>(List.Perm.nil_eq hp)
 | x::xs,[],_,_,_,hp=>absurd hp.length_eq (by simp)
 | x::xs,y::ys,ho,hx,hy,hp=>by
  obtain ⟨h1,h2⟩:=List.pairwise_cons.1 hx;obtain ⟨h3,h4⟩:=List.pairwise_cons.1 hy;have hyx:y ∈ x::xs:=hp.mem_iff.2 (by simp);have hxy:x ∈ y::ys:=hp.mem_iff.1 (by simp);have e:x=y:=by
   rcases List.mem_cons.1 hyx with e | hm
   ·exact e.symm
   rcases List.mem_cons.1 hxy with e | hm2
   ·exact e
   have a1:=h1 y hm;have a2:=h3 x hm2;rw [ho.asymm x (by simp) y hyx a1] at a2;cases a2
  subst e;rw [Bl (ho.mono fun z hz=>Uq _ hz) h2 h4 hp.cons_inv]
theorem PX {rs qs:List α} (ho:OrdO lt rs) (hd:rs.Nodup) (h:RJ lt qs) (hp:qs.Perm rs):kH lt rs=qs :=
 Bl (ho.mono fun x hx=>(ja rs).mem_iff.1 hx) (PW ho hd) h ((ja rs).trans hp.symm)
end
end Go.Proofs.YtajkkeikihhejaaGreat
