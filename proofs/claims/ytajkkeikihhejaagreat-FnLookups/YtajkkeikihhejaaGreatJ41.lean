/- The library's SortFunc over a row of facts: the same facts, each no higher than those behind it. -/
import Derived.Test.YtajkkeikihhejaaGreatSq
import Derived.Test.YtajkkeikihhejaaGreatJ40
import Derived.Test.YtajkkeikihhejaaGreatShelfS
open Go.Proofs.Tryz
set_option maxHeartbeats 80000000
namespace Go.Proofs.YtajkkeikihhejaaGreat
set_option maxRecDepth 100000
set_option linter.unusedVariables false
open Go.ChangeShapes Go.WideShapes Go.ChangeAt Go.RowKit Go.Maps Go.Shelf Go.Sort
open Pl
theorem qM (f:Fc) (w:ae) :
  Calls prog 107 #[.agg #[.string f.a,.string f.b,.string f.r,.string f.c,.string f.d]] w fun e w'=>e=.returned (.agg #[.string f.a,.string f.b,.string f.r,.string f.c,.string f.d,.string ⟨#[]⟩])∧BelowD w.heap.size w w':=by
 go_enter func107,ntmps107;go_wp2;exact bodyPost_ret (v:=.agg #[.string f.a,.string f.b,.string f.r,.string f.c,.string f.d,.string ⟨#[]⟩]) (by simp [results,Tryz.results107,go_sem, *]) rfl ⟨rfl,⟨by
  repeat (first | exact Sz _ _ | refine Below.setCell ?_ (by first | (simp; done) | (simp; omega)) _ | refine Below.alloc ?_ (by first | (simp; done) | (simp; omega)) _),Sy _⟩⟩
def Qg (x y:Fc):Int:=H8 x.a x.b x.r x.c x.d ⟨#[]⟩ y.a y.b y.r y.c y.d ⟨#[]⟩
theorem Qh {w W w':ae} {n m:Nat} {x0 x1 x2 x3 x4 y0 y1 y2 y3 y4:Value} (h:W.cell? ⟨n,0,none⟩=some x0∧W.cell? ⟨n,1,none⟩=some x1∧W.cell? ⟨n,2,none⟩=some x2∧W.cell? ⟨n,3,none⟩=some x3∧W.cell? ⟨n,4,none⟩=some x4∧W.cell? ⟨m,0,none⟩=some y0∧W.cell? ⟨m,1,none⟩=some y1∧W.cell? ⟨m,2,none⟩=some y2∧W.cell? ⟨m,3,none⟩=some y3∧W.cell? ⟨m,4,none⟩=some y4∧BelowD w.heap.size w W) (hb:BelowD W.heap.size W w'):w'.cell? ⟨n,0,none⟩=some x0∧w'.cell? ⟨n,1,none⟩=some x1∧w'.cell? ⟨n,2,none⟩=some x2∧w'.cell? ⟨n,3,none⟩=some x3∧w'.cell? ⟨n,4,none⟩=some x4∧w'.cell? ⟨m,0,none⟩=some y0∧w'.cell? ⟨m,1,none⟩=some y1∧w'.cell? ⟨m,2,none⟩=some y2∧w'.cell? ⟨m,3,none⟩=some y3∧w'.cell? ⟨m,4,none⟩=some y4∧BelowD w.heap.size w w':=by
 obtain ⟨h0,h1,h2,h3,h4,g0,g1,g2,g3,g4,hB⟩:=h;exact ⟨aG hb.b (aB h0) h0,aG hb.b (aB h1) h1,aG hb.b (aB h2) h2,aG hb.b (aB h3) h3,aG hb.b (aB h4) h4,aG hb.b (aB g0) g0,aG hb.b (aB g1) g1,aG hb.b (aB g2) g2,aG hb.b (aB g3) g3,aG hb.b (aB g4) g4,hB.trans (hb.mono hB.size)⟩
theorem wS (x y:Fc) (w:ae) (hx:x.fits) (hy:y.fits) :
  Calls prog 61 #[.agg #[.string x.a,.string x.b,.string x.r,.string x.c,.string x.d],.agg #[.string y.a,.string y.b,.string y.r,.string y.c,.string y.d]] w fun e w'=>e=.returned (.int .i64 (Qg x y))∧BelowD w.heap.size w w':=by
 have he0:(⟨#[]⟩:ByteArray).size≤maxLen:=by decide
 obtain ⟨x0,x1,x2,x3,x4⟩:=hx;obtain ⟨y0,y1,y2,y3,y4⟩:=hy;obtain ⟨W0,hW0⟩:∃ W0,W0=(w.alloc (.cells #[.string x.a,.string x.b,.string x.r,.string x.c,.string x.d] 29)).alloc (.cells #[.string y.a,.string y.b,.string y.r,.string y.c,.string y.d] 29):=⟨_,rfl⟩;have HB0:BelowD w.heap.size w W0:=by rw [hW0]; exact JK _ _ _
 have c0:W0.cell? ⟨w.heap.size,0,none⟩=some (.string x.a):=by rw [hW0]; simp
 have c1:W0.cell? ⟨w.heap.size,1,none⟩=some (.string x.b):=by rw [hW0]; simp
 have c2:W0.cell? ⟨w.heap.size,2,none⟩=some (.string x.r):=by rw [hW0]; simp
 have c3:W0.cell? ⟨w.heap.size,3,none⟩=some (.string x.c):=by rw [hW0]; simp
 have c4:W0.cell? ⟨w.heap.size,4,none⟩=some (.string x.d):=by rw [hW0]; simp
 have e0:W0.cell? ⟨w.heap.size + 1,0,none⟩=some (.string y.a):=by rw [hW0]; simp
 have e1:W0.cell? ⟨w.heap.size + 1,1,none⟩=some (.string y.b):=by rw [hW0]; simp
 have e2:W0.cell? ⟨w.heap.size + 1,2,none⟩=some (.string y.r):=by rw [hW0]; simp
 have e3:W0.cell? ⟨w.heap.size + 1,3,none⟩=some (.string y.c):=by rw [hW0]; simp
 have e4:W0.cell? ⟨w.heap.size + 1,4,none⟩=some (.string y.d):=by rw [hW0]; simp
 unfold Qg;go_enter func61,ntmps61;go_wp2_with fail;rw [← hW0];clear hW0
 go_region_held3 (fun w'=>w'.cell? ⟨w.heap.size,0,none⟩=some (.string x.a)∧w'.cell? ⟨w.heap.size,1,none⟩=some (.string x.b)∧w'.cell? ⟨w.heap.size,2,none⟩=some (.string x.r)∧w'.cell? ⟨w.heap.size,3,none⟩=some (.string x.c)∧w'.cell? ⟨w.heap.size,4,none⟩=some (.string x.d)∧w'.cell? ⟨w.heap.size + 1,0,none⟩=some (.string y.a)∧w'.cell? ⟨w.heap.size + 1,1,none⟩=some (.string y.b)∧w'.cell? ⟨w.heap.size + 1,2,none⟩=some (.string y.r)∧w'.cell? ⟨w.heap.size + 1,3,none⟩=some (.string y.c)∧w'.cell? ⟨w.heap.size + 1,4,none⟩=some (.string y.d)∧BelowD w.heap.size w w')
  (first | assumption | exact Qh (by assumption) hbx | exact ⟨c0,c1,c2,c3,c4,e0,e1,e2,e3,e4,HB0.drew⟩)
  (first | (go_at_call_of 107 (Value.agg #[.string x.a,.string x.b,.string x.r,.string x.c,.string x.d]); refine (qM x _).mono ?_; rintro e w' ⟨rfl,hbx⟩) | (go_at_call_of 107 (Value.agg #[.string y.a,.string y.b,.string y.r,.string y.c,.string y.d]); refine (qM y _).mono ?_; rintro e w' ⟨rfl,hbx⟩) | (go_at_call 106; refine (tO x.a x.b x.r x.c x.d ⟨#[]⟩ y.a y.b y.r y.c y.d ⟨#[]⟩ _ x0 x1 x2 x3 x4 he0 y0 y1 y2 y3 y4 he0).mono ?_; rintro e w' ⟨rfl,hbx⟩))
 all_goals (rename_i hJ; obtain ⟨-,-,-,-,-,-,-,-,-,-,gB⟩:=hJ; clear c0 c1 c2 c3 c4 e0 e1 e2 e3 e4; go_wp2; go_ret; exact ⟨rfl,gB⟩)
abbrev JL:={ f:Fc // f.fits }
def om (x:JL):List Value:=x.1.row
def Sk (x y:JL):Int:=Qg x.1 y.1
def Eu (x:Fc):List UInt8:=(aY x.a x.b x.r x.c x.d ⟨#[]⟩).toList
def QE (x y:JL):Bool:=Op.bytesLess (Eu x.1) (Eu y.1)
theorem O1:ltOf Sk=QE:=by
 funext x y
 unfold ltOf Sk QE Qg H8 Eu;rw [uJ,Go.ByteArray.toList_eq,Go.ByteArray.toList_eq]
theorem Qi:Go.Sort.SWO QE where
 irrefl x:=Ls.lt_irrefl _
 trans x y z h k:=Ls.lt_trans _ _ _ h k
 ntrans x y z h k:=by
  cases e:QE x z;case false=>rfl
  by_cases e1:Eu y.1=Eu x.1
  ·unfold QE at *; rw [e1] at k; rw [k] at e; cases e
  rcases Ls.lt_total _ _ e1 with h1 | h1
  ·have:QE y z=true:=Ls.lt_trans _ _ _ h1 e;rw [k] at this; cases this
  have h:QE x y=false:=h;have h1:QE x y=true:=h1;rw [h] at h1; cases h1
theorem O3 [Inhabited JL] (blk off size:Nat) (w:ae):CmpLays prog 61 #[] om 5 Sk blk off size w:=fun m os dk _ x y =>
 (wS x.1 y.1 _ x.2 y.2).mono fun e w' ⟨he,hb⟩=>⟨he,hb.grew⟩
def kZ (xs:List JL):List Fc:=xs.map (·.1)
theorem lJ (xs:List JL):(kZ xs).length=xs.length:=by simp [kZ]
theorem LZ [Inhabited JL] (w:ae) (blk off n:Nat) (d:Array JL) (os:Array Obj):Chg (fun g=>g=blk) w (sortWorldK om 5 w blk off n d os):=by
 refine ⟨⟨rfl,rfl,rfl,?_,fun k hk=>absurd hk (Tn _)⟩,fun k hk hne=>?_,fun g hg hf j=>?_⟩
 ·simp [sortWorldK,grow,putRowK,Sort.ahead]
 ·simp only [sortWorldK,putRowK];rw [heap_grow_old _ _ (by simpa [Sort.ahead] using hk)];have hne:blk ≠ k:=fun e=>hne e.symm;simp [putRow,mapBlock,Sort.ahead,Array.getElem?_modify,hne]
 simp only [sortWorldK,putRowK];rw [frozen?_grow _ _ _ (by simpa [Sort.ahead] using hg),frozen?_putRow,frozen?_ahead];exact hf j
theorem JM [Inhabited JL] {w:ae} {base g cap:Nat} {xs:List JL} (h:w.ownsRow base 29 5 (.slice (some ⟨g,0,none⟩) xs.length cap) xs.length (aF (kZ xs))):HoldsK om 5 w g 0 xs.toArray:=by
 intro t ht;rw [size_flatK] at ht;have ht':t < xs.length * 5:=by simpa using ht
 have hi:t / 5 < xs.length:=by omega
 have hr:t % 5 < 5:=Nat.mod_lt _ (by omega);refine ⟨?_,by rw [Td]; exact h.frozenAt t⟩;rw [Td,h.cellAt t ht',get_flatK _ _ _ _ ht];have e:t=t / 5 * 5 + t % 5:=by omega
 have h1:=qG (kZ xs) (t / 5) (by rw [lJ]; exact hi) (t % 5) hr;rw [← e] at h1;rw [h1];have h2:(xs.toArray)[t / 5]! = xs[t / 5]:=by rw [getElem!_pos xs.toArray _ (by simpa using hi)]; simp
 rw [h2];have h3:(kZ xs)[t / 5]'(by rw [lJ]; exact hi)=xs[t / 5].1:=by simp [kZ]
 rw [h3];have hl:t % 5 < (Fc.row xs[t / 5].1).length:=hr;show _=some ((Fc.row xs[t / 5].1)[t % 5]!);rw [SH hl,getElem!_pos (Fc.row xs[t / 5].1) (t % 5) hl]
theorem Sa [Inhabited JL] {w:ae} {base g n cap:Nat} {xs ys:List JL} (h0:w.ownsRow base 29 5 (.slice (some ⟨g,0,none⟩) n cap) n (aF (kZ xs))) (hx:xs.length=n) (hl:ys.length=n) (m:Nat) (os:Array Obj):(sortWorldK om 5 w g 0 m ys.toArray os).ownsRow base 29 5 (.slice (some ⟨g,0,none⟩) n cap) n (aF (kZ ys)):=by
 subst hx;have hg:=(h0.lt g rfl).2;have hH:=holdsK_sortWorldK_c om 5 w g 0 xs.toArray ys.toArray m os (JM h0) hg (by simpa using hl);have hlen:(aF (kZ ys)).length=xs.length * 5:=by rw [lF,lJ,hl]
 refine ⟨hlen,.inr ?_⟩;rcases h0.2 with ⟨e,-⟩ | ⟨g',cap',cur,e,h1,h2,h3,h4,h5,-⟩
 ·cases e
 injection e with e1 e2 e3;injection e1 with e1; injection e1 with e1;subst e1; subst e3;have hb:(sortWorldK om 5 w g 0 m ys.toArray os).heap[g]?=some (.cells (putCells id 0 (flatK om 5 ys.toArray) cur) 29 (0,0)):=by
  simp only [sortWorldK,putRowK];rw [heap_grow_old _ _ (by simpa [Sort.ahead] using hg)];simp [putRow,mapBlock,Sort.ahead,Array.getElem?_modify,h2,onCells]
 refine ⟨g,cap,_,rfl,h1,hb,h3,h4,by simp only [putCells,Array.size_mapIdx]; exact h5,?_⟩;refine List.ext_getElem? fun j=>?_;by_cases hj:j < xs.length * 5
 ·rw [List.getElem?_take_of_lt hj];have hi:j / 5 < ys.length:=by omega
  have h6:=(hH j (by rw [size_flatK]; simpa [hl] using hj)).1;rw [Td,get_flatK _ _ _ _ (by simpa [hl] using hj)] at h6;replace h6:(sortWorldK om 5 w g 0 m ys.toArray os).cell? ⟨g,j,none⟩=some ((om (ys.toArray)[j / 5]!)[j % 5]!):=h6;have h7:(putCells id 0 (flatK om 5 ys.toArray) cur).toList[j]?=some ((om (ys.toArray)[j / 5]!)[j % 5]!):=by
   rw [← h6];simp [World.cell?,hb]
  rw [h7];have e:j=j / 5 * 5 + j % 5:=by omega
  have h8:=qG (kZ ys) (j / 5) (by rw [lJ]; exact hi) (j % 5) (Nat.mod_lt _ (by omega));rw [← e] at h8;rw [h8];have h9:(ys.toArray)[j / 5]! = ys[j / 5]:=by rw [getElem!_pos ys.toArray _ (by simpa using hi)]; simp
  have h10:(kZ ys)[j / 5]'(by rw [lJ]; exact hi)=ys[j / 5].1:=by simp [kZ]
  rw [h9,h10];have hl2:j % 5 < (Fc.row ys[j / 5].1).length:=Nat.mod_lt _ (by omega);show some ((Fc.row ys[j / 5].1)[j % 5]!)=_;rw [SH hl2,getElem!_pos (Fc.row ys[j / 5].1) (j % 5) hl2]
 rw [List.getElem?_eq_none (by rw [Tg]; omega),List.getElem?_eq_none (by omega)]
theorem L6 (base g cap:Nat) (fs:List Fc) (w:ae) (hf:∀ f ∈ fs,f.fits) (hR:w.ownsRow base 29 5 (.slice (some ⟨g,0,none⟩) fs.length cap) fs.length (aF fs)) (hne:fs ≠ []) (h6:fs.length≤200000) :
  Calls prog 60 #[.slice (some ⟨g,0,none⟩) fs.length cap,.func (.func 61) #[] #[]] w fun e w'=>e=.returned (.tuple #[])∧∃ ys:List Fc,ys.Perm fs∧ys.Pairwise (fun x y=>Op.bytesLess (Eu y) (Eu x)=false)∧w'.ownsRow base 29 5 (.slice (some ⟨g,0,none⟩) fs.length cap) fs.length (aF ys)∧Chg (fun k=>k=g) w w':=by
 obtain ⟨xs,hxs⟩:∃ xs:List JL,kZ xs=fs:=⟨fs.attach.map fun x=>⟨x.1,hf x.1 x.2⟩,by unfold kZ; rw [List.map_map]; simp [Function.comp_def]⟩;subst hxs;rw [lJ] at hR h6 ⊢;cases xs with
 | nil=>exact absurd rfl hne
 | cons x0 Z5 =>
  letI:Inhabited JL:=⟨x0⟩
  have hg:=hR.lt g rfl;have eg:∀ args w,(callFunc 61 args).run prog w=.ok (.enter 61 args) w:=enters_of func61 (by kernel_rfl) rfl;have hs:=AnyQ.slices_SortFunc Tryz.sortF 5 Tryz.isAgg29 Tryz.sizeOf29 om (fun _=>rfl) (fun x v hv=>by simp [om,Fc.row] at hv; rcases hv with rfl | rfl | rfl | rfl | rfl <;> rfl) Sk (by rw [O1]; exact Qi) 61 #[] g 0 cap (x0::Z5).toArray w eg (O3 g 0 _ w) (JM hR) hg.2 (by simp at h6 ⊢; omega)
  change Calls prog 60 _ _ _ at hs
  rw [O1] at hs;refine hs.mono fun e w' ⟨he,d',n,os,hp,hso,hw⟩=>⟨he,kZ d'.toList,?_,?_,?_,?_⟩
  ·have:=hp.2.2;have h2:d'.toList.Perm (x0::Z5):=by simpa [Array.extract_eq_self_of_le,hp.1] using this
   exact h2.map _
  ·have hz:d'.size=Z5.length + 1:=by simpa using hp.1
   unfold kZ;rw [List.pairwise_map,List.pairwise_iff_getElem];intro i j hi hj hij;have hi2:i < d'.size:=by simpa using hi
   have hj2:j < d'.size:=by simpa using hj
   have hlt:=hso i j (SC _) hij (by rw [hz] at hj2; simpa using hj2);rw [getElem!_pos d' j hj2,getElem!_pos d' i hi2] at hlt;exact hlt
  ·rw [hw];have hz:d'.toList.length=(x0::Z5).length:=by simpa using hp.1
   have:=Sa hR rfl hz n os;simpa using this
  rw [hw]; exact LZ w g 0 n d' os
theorem Gm (p:Option Addr) (cap:Nat) (fv:Value) (w:ae) :
  Calls prog 149 #[.slice p 0 cap,.int .i64 0,.int .i64 0,fv] w fun e w'=>e=.returned (.tuple #[])∧w'=w:=by
 go_enter func149,ntmps149;go_wp2_with fail;go_loopw [8] (fun i wr=>i=.int .i64 1∧wr=w) (fun _ _=>0);case atStart=>exact ⟨rfl,rfl⟩
 obtain ⟨rfl,rfl⟩:=hrel;go_wp2
 go_end0
 exact ⟨rfl,rfl⟩
theorem O4 (p:Option Addr) (cap:Nat) (lim:Int) (fv:Value) (w:ae) :
  Calls prog 104 #[.slice p 0 cap,.int .i64 0,.int .i64 0,.int .i64 lim,fv] w fun e w'=>e=.returned (.tuple #[])∧w'=w:=by
 go_enter func104,ntmps104;go_wp2_with fail;go_loopw [1,2] (fun a b wr=>a=.int .i64 0∧b=.int .i64 0∧wr=w) (fun _ _ _=>0);case atStart=>exact ⟨rfl,rfl,rfl⟩
 obtain ⟨rfl,rfl,rfl⟩:=hrel;go_wp2_with fail;refine (Gm p cap fv _).mono ?_;rintro e w1 ⟨rfl,rfl⟩;go_wp2;refine bodyPost_ret (results_none rfl _ _ _) rfl ?_;exact ⟨rfl,rfl⟩
theorem L8 (p:Option Addr) (cap:Nat) (fv:Value) (w:ae) :
  Calls prog 60 #[.slice p 0 cap,fv] w fun e w'=>e=.returned (.tuple #[])∧w'=w:=by
 go_enter func60,ntmps60;go_wp2_with fail;refine (Tryz.bits_Len 0 _ (by omega) (by omega)).mono ?_;rintro e w1 ⟨rfl,rfl⟩;go_wp2_with fail;refine (O4 p cap _ fv _).mono ?_;rintro e w1 ⟨rfl,rfl⟩;go_wp2
 go_end0
 exact ⟨rfl,rfl⟩
set_option linter.unusedSectionVars false
section
variable [DecidableEq Fc]
def Df (L0:List Fc) (w:World) (e:Ending) (w':World):Prop:=(∃ (L:List Fc) (v:Value),e=.returned v∧L.Perm L0∧L.Pairwise (fun x y=>Op.bytesLess (Eu y) (Eu x)=false)∧w'.ownsRow w.heap.size 29 5 v L.length (aF L))∧af w w'
theorem sD (st:ByteArray × ByteArray→Int) (ad:Option Addr) (cap:Nat) (rs:List TR) (TH:Option Addr) (cap':Nat) (ts:List Tp) (w:ae) (hlen:rs.length≤1048576) (hs:mD w ad rs) (hl:∀ r ∈ rs,r.light) (hfr:∀ r ∈ rs,r.fits) (hcp:∀ r ∈ rs,r.caps) (hlt:ts.length≤1048576) (hst:Sl w TH ts) (hft:∀ x ∈ ts,x.fits) (hle:bn (ah rs)=true→Least (ah rs) st) :
  Calls prog 14 #[.slice ad rs.length cap,.slice TH ts.length cap'] w (Df (dB st rs ts) w):=by
 have HC:=aC (IL (jH rs) ad cap rs TH cap' ts w hlen hs hl hfr (D6 ad cap rs w hlen hs hl hfr hcp) (fun h t ht=>LY h ht) hlt hst hft);have HS:=aC hs;have TP:=aC hft;have V5:=aC hfr;have UH:=aC hle;clear hs hl hfr hcp hst hft hle;go_enter func14,ntmps14;go_wp2_with fail;refine HC.out.mono ?_;rintro e w1 ⟨hb1,⟨hr,rfl⟩ | ⟨hr,D,br,bp,bt,nr,np,Mr,Mp,vo,vu,f,rfl,hbt,hLf,Vm⟩⟩
 ·have HP:Hid (Df (dB st rs ts) w (.returned (.slice none 0 0)) w1):=⟨⟨[],_,rfl,by rw [lI hr],List.Pairwise.nil,World.ownsRow_nil _ _ _ _⟩,hb1⟩;clear hb1 HC hr;go_wp2;go_ret;exact HP.out
 have hsd:bn (ah rs)=true∧ts.length≤40:=by
  unfold bR ed at hr;simp only [SB,SN] at hr;exact ⟨hr.1.1,hr.1.2.1⟩
 obtain ⟨hsd,ht40⟩:=hsd;have hSP:=cz.1 hsd;obtain ⟨h6,VL,-⟩:=bP hSP.1;have Xx:=yB h6 VL;have hfk:∀ k ∈ au (ah rs),f k + 1≤(au (ah rs)).length:=fun k hk=>by
  obtain ⟨g,hg,hb⟩:=hLf.sol.few (l6 hSP.2.1);have h1:=hLf.low k hk g hg;have h2:=hb k hk;omega
 have hc0:0≤jD (eH f rs):=(Ep (eH f rs) 0).1;have hcl:jD (eH f rs)≤(au (ah rs)).length:=JJ _ _ _ (by omega) fun x hx=>by
  obtain ⟨k,hk,e,-⟩:=Ro hx;rw [e]; exact hfk k hk
 obtain ⟨N,hN⟩:∃ N:Nat,jD (eH f rs)=N:=⟨(jD (eH f rs)).toNat,by omega⟩;have hkN:∀ k ∈ au (ah rs),f k < (N:Int):=fun k hk=>by
  obtain ⟨x,hx,e⟩:=Qd (f:=f) hk;have h2:=(Ep (eH f rs) 0).2 x hx;have h3:x.1.2 + 1≤jD (eH f rs):=h2;rw [e,hN] at h3;omega
 have hLs:mG (ah rs) ts f (gQ ts) (dP ts) N=dB st rs ts:=by
  rw [mq hr];unfold qL;rw [← wM (fun k hk=>hLf.same (UH.out hsd) k hk)];exact (Lh hkN _ (by omega)).symm
 rw [hN] at Vm;have UL:=aC (LX w1 rs ad D br bp bt N nr Mr f ts (gQ ts) (dP ts) np Mp vo vu Vm (HS.out.below hb1) (by omega) (by have:=og ts; omega) (by have:=mi ts; omega) Xx (fun k=>by
  have:(G.lookL (eH f rs) k).length≤(eH f rs).length:=List.length_filterMap_le _ _;rw [Qe] at this; omega) hSP.1 TP.out (by omega) (pg TP.out) (mY TP.out) (wP V5.out))
 rw [hLs] at UL;have hGO:=mo f rs ts (gQ ts) (dP ts) N;rw [hLs] at hGO;have HB1:=aC hb1;have hll:=hGO.len (by have:=og ts; omega) Xx (by have:=mi ts; omega);have Z6:Hid (∀ x ∈ dB st rs ts,x.fits):=fun x hx=>by
  have h1:=hGO.sub x hx;unfold Eg at h1;obtain ⟨o,ho,h1⟩:=SY.1 h1;obtain ⟨k,hk,h1⟩:=SY.1 h1;obtain ⟨u,hu,rfl⟩:=SK.1 h1;exact ⟨(pg TP.out o ho).1,(pg TP.out o ho).2,wP V5.out k hk,(mY TP.out u hu).1,(mY TP.out u hu).2⟩
 obtain ⟨L0,hL0⟩:∃ L0,L0=dB st rs ts:=⟨_,rfl⟩;rw [← hL0] at UL hll Z6;have HL0:=aC hL0;clear HC hb1 Vm hLf hfk hc0 hcl hN hkN hLs hGO hSP hsd h6 VL Xx hr hbt hL0;go_wp2_with fail;refine UL.out.mono ?_;rintro e w2 ⟨⟨v,rfl,hown⟩,hb2⟩;have HB2:=aC (HB1.out.trans (hb2.mono HB1.out.size));have Tx:=aC (dC hown HB1.out.size);clear UL hown hb2 HB1;cases L0 with
 | nil =>
  obtain ⟨Xc,UG,rfl,-⟩:=kJ Tx.out;have HSN:=aC (L8 Xc UG (.func (.func 61) #[] #[]) w2);have HP:Hid (Df [] w (.returned (.slice Xc 0 UG)) w2):=⟨⟨[],_,rfl,List.Perm.refl _,List.Pairwise.nil,Tx.out⟩,HB2.out⟩;clear Tx HB2;go_wp2_with fail;refine HSN.out.mono ?_;rintro e w3 ⟨rfl,rfl⟩;go_wp2;go_ret;rw [← HL0.out]; exact HP.out
 | cons x0 Z5 =>
  obtain ⟨L1,hL1⟩:∃ L1,L1=x0::Z5:=⟨_,rfl⟩;obtain ⟨g,UG,rfl⟩:=ownsRow_succ (k:=Z5.length) Tx.out;have hgl:=(Tx.out.lt g rfl).1;have VI:=aC (L6 w.heap.size g UG (x0::Z5) w2 Z6.out Tx.out (by simp) (by omega));rw [← hL1] at VI;have hlL:Z5.length + 1=L1.length:=by rw [hL1]; rfl
  rw [← hL1] at HL0;rw [hlL];clear Tx Z6 hll hL1 hlL;go_wp2_with fail;refine VI.out.mono ?_;rintro e w3 ⟨rfl,ys,hp,hso,hrow,hcg⟩;have HP:Hid (Df L1 w (.returned (.slice (some ⟨g,0,none⟩) L1.length UG)) w3):=⟨⟨ys,_,rfl,hp,hso,by rw [hp.length_eq]; exact hrow⟩,HB2.out.trans (hcg.below (fun k hk=>by rw [hk]; exact hgl) HB2.out.size)⟩;clear hp hso hrow hcg HB2 VI;go_wp2;go_ret;rw [← HL0.out]; exact HP.out
end
theorem oo {w w':ae} {base:Nat} {e:TypeId} {size:Nat} {v:Value} {n:Nat} {xs:List Value} (h:w.ownsRow base e size v n xs) (hh:∀ g,v.ownBlock=some g→w'.heap[g]?=w.heap[g]?):w'.ownsRow base e size v n xs:=by
 refine ⟨h.1,?_⟩;rcases h.2 with hl | ⟨g,cap,cur,rfl,h1,h2,h3⟩
 ·exact .inl hl
 exact .inr ⟨g,cap,cur,rfl,h1,(hh g rfl).trans h2,h3⟩
theorem AY {w:ae} {base size n:Nat} {e:TypeId} {v:Value} {xs:List Value} (h:w.ownsRow base e size v n xs):∃ ad cap,v=.slice ad n cap:=by
 rcases h.2 with ⟨rfl,h0⟩ | ⟨g,cap,cur,rfl,-⟩
 ·exact ⟨none,0,by rw [h0]⟩
 exact ⟨_,_,rfl⟩
theorem Dg {w:ae} {base size n cap:Nat} {e:TypeId} {ad:Option Addr} {xs:List Value} (h:w.ownsRow base e size (.slice ad n cap) n xs) (hn:n ≠ 0):∃ g,ad=some ⟨g,0,none⟩∧(Value.slice ad n cap).ownBlock=some g:=by
 rcases h.2 with ⟨-,h0⟩ | ⟨g,cap',cur,e1,-⟩
 ·exact absurd h0 hn
 injection e1 with e1;exact ⟨g,e1,by rw [e1]; rfl⟩
theorem jZ {w:ae} {base base' size n:Nat} {e:TypeId} {v:Value} {xs:List Value} (h:w.ownsRow base e size v n xs) (hb:base'≤base):w.ownsRow base' e size v n xs:=by
 refine ⟨h.1,?_⟩;rcases h.2 with hl | ⟨g,cap,cur,e,h1,h2⟩
 ·exact .inl hl
 exact .inr ⟨g,cap,cur,e,SF hb h1,h2⟩
theorem Qj {w:ae} {base size n cap:Nat} {e:TypeId} {ad:Option Addr} {xs:List Value} (h:w.ownsRow base e size (.slice ad n cap) n xs):n≤cap:=by
 rcases h.2 with ⟨e1,h0⟩ | ⟨g,cap',cur,e1,-,-,hnc,-⟩
 ·injection e1 with _ e2 e3; omega
 injection e1 with _ e2 e3; omega
theorem Ja (xs:List Fc):∀ p,aF (xs.take p)=(aF xs).take (p * 5):=by
 induction xs with
 | nil=>intro p; simp [aF]
 | cons x xs ih =>
  intro p;cases p with
  | zero=>simp [aF]
  | succ p =>
   have ih:=ih p;unfold aF at ih ⊢;rw [List.take_succ_cons,List.flatMap_cons,List.flatMap_cons,ih,show (p + 1) * 5=p * 5 + 1 + 1 + 1 + 1 + 1 by omega];simp [Fc.row]
theorem Jb (xs:List Fc):∀ p,aF (xs.drop p)=(aF xs).drop (p * 5):=by
 induction xs with
 | nil=>intro p; simp [aF]
 | cons x xs ih =>
  intro p;cases p with
  | zero=>simp [aF]
  | succ p =>
   have ih:=ih p;unfold aF at ih ⊢;rw [List.drop_succ_cons,List.flatMap_cons,ih,show (p + 1) * 5=p * 5 + 1 + 1 + 1 + 1 + 1 by omega];simp [Fc.row]
theorem AZ {w:ae} {base g n cap:Nat} {xs:List Fc} (h:w.ownsRow base 29 5 (.slice (some ⟨g,0,none⟩) n cap) n (aF xs)) (p:Nat) (hp:p≤n):∀ j u,(aF (xs.take p))[j]?=some u→w.cell? ((⟨g,0,none⟩:Addr).add j)=some u:=fun j u hu=>by
 rw [Ja,List.getElem?_take] at hu;split at hu
 ·rename_i hj;have:=h.cellAt j (by omega);rw [hu] at this;have e:(⟨g,0,none⟩:Addr).add j=⟨g,j,none⟩:=by unfold Addr.add; split <;> simp_all
  rw [e]; exact this
 cases hu
theorem Jc {w:ae} {base g n cap:Nat} {xs:List Fc} (h:w.ownsRow base 29 5 (.slice (some ⟨g,0,none⟩) n cap) n (aF xs)) (p:Nat) (hp:p≤n):∀ j u,(aF (xs.drop p))[j]?=some u→w.cell? ((⟨g,p * 5,none⟩:Addr).add j)=some u:=fun j u hu=>by
 rw [Jb,List.getElem?_drop] at hu;have hl:=h.1;have hj:p * 5 + j < n * 5:=by
  rw [← hl]; exact (List.getElem?_eq_some_iff.1 hu).1
 have:=h.cellAt (p * 5 + j) hj;rw [hu] at this;have e:(⟨g,p * 5,none⟩:Addr).add j=⟨g,p * 5 + j,none⟩:=by unfold Addr.add; split <;> simp_all
 rw [e]; exact this
theorem vD (xs:List Fc):∀ u ∈ aF xs,u.oneCell'=true:=fun u hu=>by
 obtain ⟨q,-,h⟩:=SY.1 hu;simp only [Fc.row,List.mem_cons,List.not_mem_nil,or_false] at h;rcases h with rfl | rfl | rfl | rfl | rfl <;> rfl
theorem Jd {w:ae} {a:Addr} {xs:List Fc} (h:xs=[]):∀ j u,(aF xs)[j]?=some u→w.cell? (a.add j)=some u:=fun j u hu=>by
 rw [h] at hu; simp [aF] at hu
end Go.Proofs.YtajkkeikihhejaaGreat
namespace Go.Proofs.YtajkkeikihhejaaGreat
open Go.ChangeShapes Go.WideShapes Go.ChangeAt Go.RowKit
open Pl
attribute [local go_sem ↓] Go.wp_at_zero Go.wp_at_succ
theorem L9 (a b r c d:aD) (w:ae) :
  Calls prog 181 #[.agg #[.string a,.string b,.string r,.string c,.string d]] w fun e w'=>e=.returned (.agg #[.string a,.string b,.string r,.string c,.string d,.string ⟨#[]⟩])∧af w w':=by
 go_enter func181,ntmps181;go_wp2;exact bodyPost_ret (v:=.agg #[.string a,.string b,.string r,.string c,.string d,.string ⟨#[]⟩]) (by simp [results,Tryz.results181,go_sem, *]) rfl ⟨rfl,by
  repeat (first | exact Sz _ _ | refine Below.setCell ?_ (by first | (simp; done) | (simp; omega)) _ | refine Below.alloc ?_ (by first | (simp; done) | (simp; omega)) _)⟩
theorem Qk {w W w':ae} {n m k:Nat} {x0 x1 x2 x3 x4 y0 y1 y2 y3 y4:Value} (hk:k≤n) (h:W.cell? ⟨n,0,none⟩=some x0∧W.cell? ⟨n,1,none⟩=some x1∧W.cell? ⟨n,2,none⟩=some x2∧W.cell? ⟨n,3,none⟩=some x3∧W.cell? ⟨n,4,none⟩=some x4∧W.cell? ⟨m,0,none⟩=some y0∧W.cell? ⟨m,1,none⟩=some y1∧W.cell? ⟨m,2,none⟩=some y2∧W.cell? ⟨m,3,none⟩=some y3∧W.cell? ⟨m,4,none⟩=some y4∧n < W.heap.size∧m < W.heap.size∧Below k w W) (hb:af W w'):w'.cell? ⟨n,0,none⟩=some x0∧w'.cell? ⟨n,1,none⟩=some x1∧w'.cell? ⟨n,2,none⟩=some x2∧w'.cell? ⟨n,3,none⟩=some x3∧w'.cell? ⟨n,4,none⟩=some x4∧w'.cell? ⟨m,0,none⟩=some y0∧w'.cell? ⟨m,1,none⟩=some y1∧w'.cell? ⟨m,2,none⟩=some y2∧w'.cell? ⟨m,3,none⟩=some y3∧w'.cell? ⟨m,4,none⟩=some y4∧n < w'.heap.size∧m < w'.heap.size∧Below k w w':=by
 obtain ⟨h0,h1,h2,h3,h4,h5,h6,h7,h8,h9,hn,hm,hB⟩:=h;have hc:∀ o,w'.cell? ⟨n,o,none⟩=W.cell? ⟨n,o,none⟩:=fun o=>hb.cell (p:=⟨n,o,none⟩) hn;have hd:∀ o,w'.cell? ⟨m,o,none⟩=W.cell? ⟨m,o,none⟩:=fun o=>hb.cell (p:=⟨m,o,none⟩) hm;exact ⟨by rw [hc]; exact h0,by rw [hc]; exact h1,by rw [hc]; exact h2,by rw [hc]; exact h3,by rw [hc]; exact h4,by rw [hd]; exact h5,by rw [hd]; exact h6,by rw [hd]; exact h7,by rw [hd]; exact h8,by rw [hd]; exact h9,Sv hn hb.size,Sv hm hb.size,hB.trans (hb.mono (by omega))⟩
theorem Sb (a b r c d a' b' r' c' d':aD) (w W:ae) (hW:W=((w.alloc (.cells #[.string a,.string b,.string r,.string c,.string d] 29)).alloc (.cells #[.string a',.string b',.string r',.string c',.string d'] 29))):W.drew.cell? ⟨w.heap.size,0,none⟩=some (.string a)∧W.drew.cell? ⟨w.heap.size,1,none⟩=some (.string b)∧W.drew.cell? ⟨w.heap.size,2,none⟩=some (.string r)∧W.drew.cell? ⟨w.heap.size,3,none⟩=some (.string c)∧W.drew.cell? ⟨w.heap.size,4,none⟩=some (.string d)∧W.drew.cell? ⟨w.heap.size + 1,0,none⟩=some (.string a')∧W.drew.cell? ⟨w.heap.size + 1,1,none⟩=some (.string b')∧W.drew.cell? ⟨w.heap.size + 1,2,none⟩=some (.string r')∧W.drew.cell? ⟨w.heap.size + 1,3,none⟩=some (.string c')∧W.drew.cell? ⟨w.heap.size + 1,4,none⟩=some (.string d')∧w.heap.size < W.drew.heap.size∧w.heap.size + 1 < W.drew.heap.size∧af w W.drew:=by
 subst hW;refine ⟨?_,?_,?_,?_,?_,?_,?_,?_,?_,?_,?_,?_,?_⟩
 all_goals first | exact (zY _ _ _).drew | (simp; done) | (simp; omega)
theorem vF (a b r c d a' b' r' c' d':aD) (w:ae) (ha:a.size≤maxLen) (hb:b.size≤maxLen) (hr:r.size≤maxLen) (hc:c.size≤maxLen) (hd:d.size≤maxLen) (ga:a'.size≤maxLen) (gb:b'.size≤maxLen) (gr:r'.size≤maxLen) (gc:c'.size≤maxLen) (gd:d'.size≤maxLen) :
  Calls prog 130 #[.agg #[.string a,.string b,.string r,.string c,.string d],.agg #[.string a',.string b',.string r',.string c',.string d']] w fun e w'=>e=.returned (.bool (fM a b r c d ⟨#[]⟩ a' b' r' c' d' ⟨#[]⟩))∧af w w':=by
 have he0:(⟨#[]⟩:ByteArray).size≤maxLen:=by decide
 have H0:=Sb a b r c d a' b' r' c' d' w _ rfl;go_enter func130,ntmps130;go_wp2_with fail
 go_region_held3 (fun w'=>w'.cell? ⟨w.heap.size,0,none⟩=some (.string a)∧w'.cell? ⟨w.heap.size,1,none⟩=some (.string b)∧w'.cell? ⟨w.heap.size,2,none⟩=some (.string r)∧w'.cell? ⟨w.heap.size,3,none⟩=some (.string c)∧w'.cell? ⟨w.heap.size,4,none⟩=some (.string d)∧w'.cell? ⟨w.heap.size + 1,0,none⟩=some (.string a')∧w'.cell? ⟨w.heap.size + 1,1,none⟩=some (.string b')∧w'.cell? ⟨w.heap.size + 1,2,none⟩=some (.string r')∧w'.cell? ⟨w.heap.size + 1,3,none⟩=some (.string c')∧w'.cell? ⟨w.heap.size + 1,4,none⟩=some (.string d')∧w.heap.size < w'.heap.size∧w.heap.size + 1 < w'.heap.size∧af w w')
  (first | assumption | exact Qk (Sy _) (by assumption) hbx | exact H0)
  (first | (go_at_call 181; refine (L9 _ _ _ _ _ _).mono ?_; rintro e w' ⟨rfl,hbx⟩) | (go_at_call 137; refine (ny _ _ _ _ _ _ _ _ _ _ _ _ _ (by assumption) (by assumption) (by assumption) (by assumption) (by assumption) (by assumption) (by assumption) (by assumption) (by assumption) (by assumption) (by assumption) (by assumption)).mono ?_; rintro e w' ⟨rfl,hbx⟩))
 rename_i hJ;obtain ⟨-,-,-,-,-,-,-,-,-,-,-,-,gB⟩:=hJ;go_wp2;go_ret;exact ⟨rfl,gB⟩
end Go.Proofs.YtajkkeikihhejaaGreat
namespace Go.Proofs.YtajkkeikihhejaaGreat
set_option linter.unusedVariables false
section
variable {α:Type} {lt:α→α→Bool}
def qN (lt:α→α→Bool) (r:α):List α→List α
 | []=>[r]
 | x::xs=>if lt x r then x::qN lt r xs else r::x::xs
def kL (lt:α→α→Bool) (rs:List α):List α:=rs.foldl (fun out r=>qN lt r out) []
theorem Es {r:α}:∀ {xs:List α} {p:Nat},p≤xs.length→(∀ (i:Nat) (h:i < xs.length),i < p→lt xs[i] r=true)→(∀ h:p < xs.length,lt xs[p] r=false)→qN lt r xs=xs.take p ++ r::xs.drop p
 | [],p,hp,_,_=>by
  obtain rfl:p=0:=by simpa using hp
  rfl
 | x::xs,0,_,_,h2=>by
  have:=h2 (by simp);simp only [List.getElem_cons_zero] at this;simp [qN,this]
 | x::xs,p + 1,hp,h1,h2=>by
  have h0:=h1 0 (by simp) (by omega);simp only [List.getElem_cons_zero] at h0;have ih:=Es (r:=r) (xs:=xs) (p:=p) (by simpa using hp) (fun i h hi=>h1 (i + 1) (by simpa using h) (by omega)) (fun h=>h2 (by simpa using h));simp [qN,h0,ih]
theorem rH (r:α):∀ xs:List α,(qN lt r xs).Perm (r::xs)
 | []=>List.Perm.refl _
 | x::xs=>by
  unfold qN;split
  ·exact ((rH r xs).cons x).trans (List.Perm.swap _ _ _)
  exact List.Perm.refl _
theorem A7:∀ (rs acc:List α),(rs.foldl (fun out r=>qN lt r out) acc).Perm (rs ++ acc)
 | [],acc=>List.Perm.refl _
 | r::rs,acc=>(A7 rs (qN lt r acc)).trans (((rH r acc).append_left rs).trans List.perm_middle)
theorem iy (rs:List α):(kL lt rs).Perm rs:=by simpa [kL] using A7 rs []
theorem Je (rs:List α) (r:α):kL lt (rs ++ [r])=qN lt r (kL lt rs):=by unfold kL; rw [List.foldl_append]; rfl
structure OrdO (lt:α→α→Bool) (rs:List α):Prop where
 trans:∀ x ∈ rs,∀ y ∈ rs,∀ z ∈ rs,lt x y=true→lt y z=true→lt x z=true
 asymm:∀ x ∈ rs,∀ y ∈ rs,lt x y=true→lt y x=false
 total:∀ x ∈ rs,∀ y ∈ rs,x ≠ y→lt x y=true ∨ lt y x=true
theorem OrdO.mono {rs qs:List α} (h:OrdO lt rs) (hs:∀ x ∈ qs,x ∈ rs):OrdO lt qs :=
 ⟨fun x hx y hy z hz=>h.trans x (hs x hx) y (hs y hy) z (hs z hz),fun x hx y hy=>h.asymm x (hs x hx) y (hs y hy),fun x hx y hy=>h.total x (hs x hx) y (hs y hy)⟩
def QF (lt:α→α→Bool) (xs:List α):Prop:=xs.Pairwise fun x y=>lt x y=true
theorem JN {r:α}:∀ {xs:List α},OrdO lt (r::xs)→r ∉ xs→QF lt xs→QF lt (qN lt r xs)
 | [],_,_,_=>List.pairwise_singleton _ _
 | x::xs,ho,hn,h=>by
  obtain ⟨h1,h2⟩:=List.pairwise_cons.1 h;have hx:x ∈ r::x::xs:=by simp
  have hr:r ∈ r::x::xs:=by simp
  unfold qN;split
  ·rename_i hl;refine List.pairwise_cons.2 ⟨fun y hy=>?_,JN (ho.mono fun z hz=>?_) (fun hm=>hn (Tj _ hm)) h2⟩
   ·rcases List.mem_cons.1 ((rH r xs).mem_iff.1 hy) with rfl | hy
    ·exact hl
    exact h1 y hy
   rcases List.mem_cons.1 hz with rfl | hz
   ·simp
   simp [hz]
  rename_i hl;have hne:r ≠ x:=fun e=>hn (by rw [e]; simp);have hrx:lt r x=true:=by
   rcases ho.total r hr x hx hne with h3 | h3
   ·exact h3
   exact absurd h3 hl
  refine List.pairwise_cons.2 ⟨fun y hy=>?_,h⟩;rcases List.mem_cons.1 hy with rfl | hy
  ·exact hrx
  exact ho.trans r hr x hx y (by simp [hy]) hrx (h1 y hy)
theorem Gn:∀ (rs acc:List α),OrdO lt (rs ++ acc)→rs.Nodup→(∀ r ∈ rs,r ∉ acc)→QF lt acc→QF lt (rs.foldl (fun out r=>qN lt r out) acc)
 | [],acc,_,_,_,h=>h
 | r::rs,acc,ho,hd,hn,h=>by
  obtain ⟨hr,hd2⟩:=List.nodup_cons.1 hd;have hp:=rH (lt:=lt) r acc;refine Gn rs (qN lt r acc) (ho.mono fun x hx=>?_) hd2 (fun x hx hm=>?_) (JN (ho.mono fun x hx=>?_) (hn r (by simp)) h)
  ·rcases SI.1 hx with hx | hx
   ·simp [hx]
   rcases List.mem_cons.1 (hp.mem_iff.1 hx) with rfl | hx
   ·simp
   simp [hx]
  ·rcases List.mem_cons.1 (hp.mem_iff.1 hm) with rfl | hm
   ·exact hr hx
   exact hn x (by simp [hx]) hm
  rcases List.mem_cons.1 hx with rfl | hx
  ·simp
  simp [hx]
theorem O5 {rs:List α} (ho:OrdO lt rs) (hd:rs.Nodup):QF lt (kL lt rs):=Gn rs [] (by simpa using ho) hd (fun _ _=>List.not_mem_nil) List.Pairwise.nil
theorem A8:∀ {xs ys:List α},OrdO lt xs→QF lt xs→QF lt ys→xs.Perm ys→xs=ys
 | [],ys,_,_,_,hp=>(List.Perm.nil_eq hp)
 | x::xs,[],_,_,_,hp=>absurd hp.length_eq (by simp)
 | x::xs,y::ys,ho,hx,hy,hp=>by
  obtain ⟨h1,h2⟩:=List.pairwise_cons.1 hx;obtain ⟨h3,h4⟩:=List.pairwise_cons.1 hy;have hyx:y ∈ x::xs:=hp.mem_iff.2 (by simp);have hxy:x ∈ y::ys:=hp.mem_iff.1 (by simp);have e:x=y:=by
   rcases List.mem_cons.1 hyx with e | hm
   ·exact e.symm
   rcases List.mem_cons.1 hxy with e | hm2
   ·exact e
   have a1:=h1 y hm;have a2:=h3 x hm2;rw [ho.asymm x (by simp) y hyx a1] at a2;cases a2
  subst e;rw [A8 (ho.mono fun z hz=>Tj _ hz) h2 h4 hp.cons_inv]
theorem O6 {rs qs:List α} (ho:OrdO lt rs) (hd:rs.Nodup) (h:QF lt qs) (hp:qs.Perm rs):kL lt rs=qs :=
 A8 (ho.mono fun x hx=>(iy rs).mem_iff.1 hx) (O5 ho hd) h ((iy rs).trans hp.symm)
end
end Go.Proofs.YtajkkeikihhejaaGreat
