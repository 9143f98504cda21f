/- The library's SortFunc over a row of facts: the same facts, each no higher than those behind it. -/
import Derived.Test.YtojjoblnpldniaaGreatSq
import Derived.Test.YtojjoblnpldniaaGreatShelfS
import Derived.Test.YtojjoblnpldniaaGreatJ16
open Go.Proofs.Tryz
set_option maxHeartbeats 80000000
namespace Go.Proofs.YtojjoblnpldniaaGreat
set_option maxRecDepth 100000
set_option linter.unusedVariables false
open ChangeShapes WideShapes ChangeAt RowKit Maps Go.Shelf Go.Sort
open Pl
theorem sW(f:Fc)(w:ag):
  Calls prog 140 #[.agg #[.string f.a,.string f.b,.string f.r,.string f.c,.string f.d]] w fun e w'=>e=.returned (.agg #[.string f.a,.string f.b,.string f.r,.string f.c,.string f.d,.string ⟨#[]⟩])/\BelowD w.heap.size w w':=by
 go_enter func140,ntmps140;go_wp2;exact bodyPost_ret (v:=.agg #[.string f.a,.string f.b,.string f.r,.string f.c,.string f.d,.string ⟨#[]⟩]) (by simp[results,Tryz.results140,go_sem, *]) rfl ⟨rfl,⟨by
  repeat(first|exact XL _ _|refine Below.setCell ?_ (by first|(simp;done)|(simp;omega)) _|refine Below.alloc ?_ (by first|(simp;done)|(simp;omega)) _),XK _⟩⟩
def U3(x y:Fc):Int:=KP x.a x.b x.r x.c x.d ⟨#[]⟩ y.a y.b y.r y.c y.d ⟨#[]⟩
theorem U4{w W w':ag}{n m:Nat}{x0 x1 x2 x3 x4 y0 y1 y2 y3 y4:Value}(h:W.cell? ⟨n,0,none⟩=some x0/\W.cell? ⟨n,1,none⟩=some x1/\W.cell? ⟨n,2,none⟩=some x2/\W.cell? ⟨n,3,none⟩=some x3/\W.cell? ⟨n,4,none⟩=some x4/\W.cell? ⟨m,0,none⟩=some y0/\W.cell? ⟨m,1,none⟩=some y1/\W.cell? ⟨m,2,none⟩=some y2/\W.cell? ⟨m,3,none⟩=some y3/\W.cell? ⟨m,4,none⟩=some y4/\BelowD w.heap.size w W)(hb:BelowD W.heap.size W w'):w'.cell? ⟨n,0,none⟩=some x0/\w'.cell? ⟨n,1,none⟩=some x1/\w'.cell? ⟨n,2,none⟩=some x2/\w'.cell? ⟨n,3,none⟩=some x3/\w'.cell? ⟨n,4,none⟩=some x4/\w'.cell? ⟨m,0,none⟩=some y0/\w'.cell? ⟨m,1,none⟩=some y1/\w'.cell? ⟨m,2,none⟩=some y2/\w'.cell? ⟨m,3,none⟩=some y3/\w'.cell? ⟨m,4,none⟩=some y4/\BelowD w.heap.size w w':=by
 obtain⟨h0,h1,h2,h3,h4,g0,g1,g2,g3,g4,hB⟩:=h;exact⟨az hb.b (ax h0) h0,az hb.b (ax h1) h1,az hb.b (ax h2) h2,az hb.b (ax h3) h3,az hb.b (ax h4) h4,az hb.b (ax g0) g0,az hb.b (ax g1) g1,az hb.b (ax g2) g2,az hb.b (ax g3) g3,az hb.b (ax g4) g4,hB.trans (hb.mono hB.size)⟩
theorem zf(x y:Fc)(w:ag)(hx:x.fits)(hy:y.fits):
  Calls prog 58 #[.agg #[.string x.a,.string x.b,.string x.r,.string x.c,.string x.d],.agg #[.string y.a,.string y.b,.string y.r,.string y.c,.string y.d]] w fun e w'=>e=.returned (.int .i64 (U3 x y))/\BelowD w.heap.size w w':=by
 have he0:(⟨#[]⟩:ByteArray).size<=maxLen:=by decide
 obtain⟨x0,x1,x2,x3,x4⟩:=hx;obtain⟨y0,y1,y2,y3,y4⟩:=hy;obtain⟨W0,hW0⟩:=eQx ((w.alloc (.cells #[.string x.a,.string x.b,.string x.r,.string x.c,.string x.d] 52)).alloc (.cells #[.string y.a,.string y.b,.string y.r,.string y.c,.string y.d] 52));have HB0:BelowD w.heap.size w W0:=by rw[hW0];exact Ns _ _ _
 have c0:W0.cell? ⟨w.heap.size,0,none⟩=some (.string x.a):=by rw[hW0];simp
 have c1:W0.cell? ⟨w.heap.size,1,none⟩=some (.string x.b):=by rw[hW0];simp
 have c2:W0.cell? ⟨w.heap.size,2,none⟩=some (.string x.r):=by rw[hW0];simp
 have c3:W0.cell? ⟨w.heap.size,3,none⟩=some (.string x.c):=by rw[hW0];simp
 have c4:W0.cell? ⟨w.heap.size,4,none⟩=some (.string x.d):=by rw[hW0];simp
 have e0:W0.cell? ⟨w.heap.size+1,0,none⟩=some (.string y.a):=by rw[hW0];simp
 have e1:W0.cell? ⟨w.heap.size+1,1,none⟩=some (.string y.b):=by rw[hW0];simp
 have e2:W0.cell? ⟨w.heap.size+1,2,none⟩=some (.string y.r):=by rw[hW0];simp
 have e3:W0.cell? ⟨w.heap.size+1,3,none⟩=some (.string y.c):=by rw[hW0];simp
 have e4:W0.cell? ⟨w.heap.size+1,4,none⟩=some (.string y.d):=by rw[hW0];simp
 unfold U3;go_enter func58,ntmps58;go_wp2_with fail;rw[<-hW0];clear hW0
 go_region_held3 (fun w'=>w'.cell? ⟨w.heap.size,0,none⟩=some (.string x.a)/\w'.cell? ⟨w.heap.size,1,none⟩=some (.string x.b)/\w'.cell? ⟨w.heap.size,2,none⟩=some (.string x.r)/\w'.cell? ⟨w.heap.size,3,none⟩=some (.string x.c)/\w'.cell? ⟨w.heap.size,4,none⟩=some (.string x.d)/\w'.cell? ⟨w.heap.size+1,0,none⟩=some (.string y.a)/\w'.cell? ⟨w.heap.size+1,1,none⟩=some (.string y.b)/\w'.cell? ⟨w.heap.size+1,2,none⟩=some (.string y.r)/\w'.cell? ⟨w.heap.size+1,3,none⟩=some (.string y.c)/\w'.cell? ⟨w.heap.size+1,4,none⟩=some (.string y.d)/\BelowD w.heap.size w w')
  (first|assumption|exact U4 (by assumption) hbx|exact⟨c0,c1,c2,c3,c4,e0,e1,e2,e3,e4,HB0.drew⟩)
  (first|(go_at_call_of 140 (Value.agg #[.string x.a,.string x.b,.string x.r,.string x.c,.string x.d]);refine(sW x _).mono ?_;rintro e w' ⟨rfl,hbx⟩)|(go_at_call_of 140 (Value.agg #[.string y.a,.string y.b,.string y.r,.string y.c,.string y.d]);refine(sW y _).mono ?_;rintro e w' ⟨rfl,hbx⟩)|(go_at_call 139;refine(vX x.a x.b x.r x.c x.d ⟨#[]⟩ y.a y.b y.r y.c y.d ⟨#[]⟩ _ x0 x1 x2 x3 x4 he0 y0 y1 y2 y3 y4 he0).mono ?_;rintro e w' ⟨rfl,hbx⟩))
 all_goals(rename_i hJ;obtain⟨-,-,-,-,-,-,-,-,-,-,gB⟩:=hJ;clear c0 c1 c2 c3 c4 e0 e1 e2 e3 e4;go_wp2;go_ret;exact⟨rfl,gB⟩)
abbrev ND:={ f:Fc // f.fits }
def pY(x:ND):List Value:=x.1.row
def XC(x y:ND):Int:=U3 x.1 y.1
def U5(x:Fc):List UInt8:=(bC x.a x.b x.r x.c x.d ⟨#[]⟩).toList
def Vx(x y:ND):Bool:=Op.bytesLess (U5 x.1) (U5 y.1)
theorem Tw:ltOf XC=Vx:=by
 funext x y
 unfold ltOf XC Vx U3 KP U5;rw[wU,Go.ByteArray.toList_eq,Go.ByteArray.toList_eq]
theorem U6:Go.Sort.SWO Vx where
 irrefl x:=Ls.lt_irrefl _
 trans x y z h k:=Ls.lt_trans _ _ _ h k
 ntrans x y z h k:=by
  cases e:Vx x z;case false=>rfl
  by_cases e1:U5 y.1=U5 x.1
  ·unfold Vx at *;rw[e1]at k;rw[k]at e;cases e
  rcases Ls.lt_total _ _ e1 with h1|h1
  ·have:Vx y z=true:=Ls.lt_trans _ _ _ h1 e;rw[k]at this;cases this
  have h:Vx x y=false:=h;have h1:Vx x y=true:=h1;rw[h]at h1;cases h1
theorem Tx[Inhabited ND](blk off size:Nat)(w:ag):CmpLays prog 58 #[] pY 5 XC blk off size w:=fun m os dk _ x y =>
 (zf x.1 y.1 _ x.2 y.2).mono fun e w' ⟨he,hb⟩=>⟨he,hb.grew⟩
def mq(xs:List ND):List Fc:=xs.map (·.1)
theorem mV(xs:List ND):(mq xs).length=xs.length:=by simp[mq]
theorem PT[Inhabited ND](w:ag)(blk off n:Nat)(d:Array ND)(os:Array Obj):Chg (fun g=>g=blk) w (sortWorldK pY 5 w blk off n d os):=by
 refine⟨⟨rfl,rfl,rfl,?_,fun k hk=>absurd hk (YG _)⟩,fun k hk hne=>?_,fun g hg hf j=>?_⟩
 ·simp[sortWorldK,grow,putRowK,Sort.ahead]
 ·simp only[sortWorldK,putRowK];rw[heap_grow_old _ _ (by simpa[Sort.ahead] using hk)];have hne:blk≠k:=fun e=>hne e.symm;simp[putRow,mapBlock,Sort.ahead,Array.getElem?_modify,hne]
 simp only[sortWorldK,putRowK];rw[frozen?_grow _ _ _ (by simpa[Sort.ahead] using hg),frozen?_putRow,frozen?_ahead];exact hf j
theorem NE[Inhabited ND]{w:ag}{base g cap:Nat}{xs:List ND}(h:w.ownsRow base 52 5 (.slice (some ⟨g,0,none⟩) xs.length cap) xs.length (av (mq xs))):HoldsK pY 5 w g 0 xs.toArray:=by
 intro t ht;rw[size_flatK]at ht;have ht':t<xs.length*5:=by simpa using ht
 have hi:t / 5<xs.length:=by omega
 have hr:t%5<5:=Nat.mod_lt _ (by omega);refine⟨?_,by rw[Yg];exact h.frozenAt t⟩;rw[Yg,h.cellAt t ht',get_flatK _ _ _ _ ht];have e:t=t / 5*5+t%5:=by omega
 have h1:=lQ (mq xs) (t / 5) (by rw[mV];exact hi) (t%5) hr;rw[<-e]at h1;rw[h1];have h2:(xs.toArray)[t / 5]! = xs[t / 5]:=by rw[getElem!_pos xs.toArray _ (by simpa using hi)];simp
 rw[h2];have h3:(mq xs)[t / 5]'(by rw[mV];exact hi)=xs[t / 5].1:=by simp[mq]
 rw[h3];have hl:t%5<(Fc.row xs[t / 5].1).length:=hr;show _=some ((Fc.row xs[t / 5].1)[t%5]!);rw[XQ hl,getElem!_pos (Fc.row xs[t / 5].1) (t%5) hl]
theorem Xy[Inhabited ND]{w:ag}{base g n cap:Nat}{xs ys:List ND}(h0:w.ownsRow base 52 5 (.slice (some ⟨g,0,none⟩) n cap) n (av (mq xs)))(hx:xs.length=n)(hl:ys.length=n)(m:Nat)(os:Array Obj):(sortWorldK pY 5 w g 0 m ys.toArray os).ownsRow base 52 5 (.slice (some ⟨g,0,none⟩) n cap) n (av (mq ys)):=by
 subst hx;have hg:=(h0.lt g rfl).2;have hH:=holdsK_sortWorldK_c pY 5 w g 0 xs.toArray ys.toArray m os (NE h0) hg (by simpa using hl);have hlen:(av (mq ys)).length=xs.length*5:=by rw[fe,mV,hl]
 refine⟨hlen,.inr ?_⟩;rcases h0.2 with⟨e,-⟩|⟨g',cap',cur,e,h1,h2,h3,h4,h5,-⟩
 ·cases e
 injection e with e1 e2 e3;injection e1 with e1;injection e1 with e1;subst e1;subst e3;have hb:(sortWorldK pY 5 w g 0 m ys.toArray os).heap[g]?=some (.cells (putCells id 0 (flatK pY 5 ys.toArray) cur) 52 (0,0)):=by
  simp only[sortWorldK,putRowK];rw[heap_grow_old _ _ (by simpa[Sort.ahead] using hg)];simp[putRow,mapBlock,Sort.ahead,Array.getElem?_modify,h2,onCells]
 refine⟨g,cap,_,rfl,h1,hb,h3,h4,by simp only[putCells,Array.size_mapIdx];exact h5,?_⟩;refine List.ext_getElem? fun j=>?_;by_cases hj:j<xs.length*5
 ·rw[List.getElem?_take_of_lt hj];have hi:j / 5<ys.length:=by omega
  have h6:=(hH j (by rw[size_flatK];simpa[hl] using hj)).1;rw[Yg,get_flatK _ _ _ _ (by simpa[hl] using hj)]at h6;replace h6:(sortWorldK pY 5 w g 0 m ys.toArray os).cell? ⟨g,j,none⟩=some ((pY (ys.toArray)[j / 5]!)[j%5]!):=h6;have h7:(putCells id 0 (flatK pY 5 ys.toArray) cur).toList[j]?=some ((pY (ys.toArray)[j / 5]!)[j%5]!):=by
   rw[<-h6];simp[World.cell?,hb]
  rw[h7];have e:j=j / 5*5+j%5:=by omega
  have h8:=lQ (mq ys) (j / 5) (by rw[mV];exact hi) (j%5) (Nat.mod_lt _ (by omega));rw[<-e]at h8;rw[h8];have h9:(ys.toArray)[j / 5]! = ys[j / 5]:=by rw[getElem!_pos ys.toArray _ (by simpa using hi)];simp
  have h10:(mq ys)[j / 5]'(by rw[mV];exact hi)=ys[j / 5].1:=by simp[mq]
  rw[h9,h10];have hl2:j%5<(Fc.row ys[j / 5].1).length:=Nat.mod_lt _ (by omega);show some ((Fc.row ys[j / 5].1)[j%5]!)=_;rw[XQ hl2,getElem!_pos (Fc.row ys[j / 5].1) (j%5) hl2]
 rw[List.getElem?_eq_none (by rw[Yc];omega),List.getElem?_eq_none (by omega)]
theorem PU(base g cap:Nat)(fs:Q04)(w:ag)(hf:∀f∈fs,f.fits)(hR:w.ownsRow base 52 5 (.slice (some ⟨g,0,none⟩) fs.length cap) fs.length (av fs))(hne:fs≠[])(h6:fs.length<=200000):
  Calls prog 57 #[.slice (some ⟨g,0,none⟩) fs.length cap,.func (.func 58) #[] #[]] w fun e w'=>e=.returned (.tuple #[])/\∃ys:List Fc,ys.Perm fs/\ys.Pairwise (fun x y=>Op.bytesLess (U5 y) (U5 x)=false)/\w'.ownsRow base 52 5 (.slice (some ⟨g,0,none⟩) fs.length cap) fs.length (av ys)/\Chg (fun k=>k=g) w w':=by
 obtain⟨xs,hxs⟩:∃xs:List ND,mq xs=fs:=⟨fs.attach.map fun x=>⟨x.1,hf x.1 x.2⟩,by unfold mq;rw[List.map_map];simp[Function.comp_def]⟩;subst hxs;rw[mV]at hR h6 ⊢;cases xs with
 | nil=>exact absurd rfl hne
 | cons x0 xs0 =>
  letI:Inhabited ND:=⟨x0⟩
  have hg:=hR.lt g rfl;have eg:∀args w,(callFunc 58 args).run prog w=.ok (.enter 58 args) w:=enters_of func58 (by kernel_rfl) rfl;have hs:=AnyQ.slices_SortFunc Tryz.sortF 5 Tryz.isAgg52 Tryz.sizeOf52 pY (fun _=>rfl) (fun x v hv=>by simp[pY,Fc.row]at hv;rcases hv with rfl|rfl|rfl|rfl|rfl<;>rfl) XC (by rw[Tw];exact U6) 58 #[] g 0 cap (x0::xs0).toArray w eg (Tx g 0 _ w) (NE hR) hg.2 (by simp at h6⊢;omega)
  change Calls prog 57 _ _ _ at hs
  rw[Tw]at hs;refine hs.mono fun e w' ⟨he,d',n,os,hp,hso,hw⟩=>⟨he,mq d'.toList,?_,?_,?_,?_⟩
  ·have:=hp.2.2;have h2:d'.toList.Perm (x0::xs0):=by simpa[Array.extract_eq_self_of_le,hp.1] using this
   exact h2.map _
  ·have hz:d'.size=xs0.length+1:=by simpa using hp.1
   unfold mq;rw[List.pairwise_map,List.pairwise_iff_getElem];intro i j hi hj hij;have hi2:i<d'.size:=by simpa using hi
   have hj2:j<d'.size:=by simpa using hj
   have hlt:=hso i j (XP _) hij (by rw[hz]at hj2;simpa using hj2);rw[getElem!_pos d' j hj2,getElem!_pos d' i hi2]at hlt;exact hlt
  ·rw[hw];have hz:d'.toList.length=(x0::xs0).length:=by simpa using hp.1
   have:=Xy hR rfl hz n os;simpa using this
  rw[hw];exact PT w g 0 n d' os
theorem JY(p:Q02)(cap:Nat)(fv:Value)(w:ag):
  Calls prog 206 #[.slice p 0 cap,.int .i64 0,.int .i64 0,fv] w fun e w'=>e=.returned (.tuple #[])/\w'=w:=by
 go_enter func206,ntmps206;go_wp2_with fail;go_loopw[8] (fun i wr=>i=.int .i64 1/\wr=w) (fun _ _=>0);case atStart=>exact⟨rfl,rfl⟩
 obtain⟨rfl,rfl⟩:=hrel;go_wp2
 go_end0
 exact⟨rfl,rfl⟩
theorem Tz(p:Q02)(cap:Nat)(lim:Int)(fv:Value)(w:ag):
  Calls prog 137 #[.slice p 0 cap,.int .i64 0,.int .i64 0,.int .i64 lim,fv] w fun e w'=>e=.returned (.tuple #[])/\w'=w:=by
 go_enter func137,ntmps137;go_wp2_with fail;go_loopw[1,2] (fun a b wr=>a=.int .i64 0/\b=.int .i64 0/\wr=w) (fun _ _ _=>0);case atStart=>exact⟨rfl,rfl,rfl⟩
 obtain⟨rfl,rfl,rfl⟩:=hrel;go_wp2_with fail;refine(JY p cap fv _).mono ?_;rintro e w1 ⟨rfl,rfl⟩;go_wp2;refine bodyPost_ret (results_none rfl _ _ _) rfl ?_;exact⟨rfl,rfl⟩
theorem PV(p:Q02)(cap:Nat)(fv:Value)(w:ag):
  Calls prog 57 #[.slice p 0 cap,fv] w fun e w'=>e=.returned (.tuple #[])/\w'=w:=by
 go_enter func57,ntmps57;go_wp2_with fail;refine(Tryz.bits_Len 0 _ (by omega) (by omega)).mono ?_;rintro e w1 ⟨rfl,rfl⟩;go_wp2_with fail;refine(Tz p cap _ fv _).mono ?_;rintro e w1 ⟨rfl,rfl⟩;go_wp2
 go_end0
 exact⟨rfl,rfl⟩
set_option linter.unusedSectionVars false
section
variable  [DecidableEq Fc]
def JZ(L0:Q04)(w:World)(e:Ending)(w':World):Prop:=(∃(L:Q04) (v:Value),e=.returned v/\L.Perm L0/\L.Pairwise (fun x y=>Op.bytesLess (U5 y) (U5 x)=false)/\w'.ownsRow w.heap.size 52 5 v L.length (av L))/\ae w w'
theorem Ei(st:Q00)(ad:Q02)(cap:Nat)(rs:Q06)(Y8:Q02)(cap':Nat)(ts:Q05)(w:ag)(hlen:rs.length<=1048576)(hs:kI w ad rs)(hl:∀r∈rs,r.light)(hfr:∀r∈rs,r.fits)(hcp:∀r∈rs,r.caps)(hlt:ts.length<=1048576)(hst:Sl w Y8 ts)(hft:∀x∈ts,x.fits)(hle:aN (ai rs)=true->Least (ai rs) st):
  Calls prog 11 #[.slice ad rs.length cap,.slice Y8 ts.length cap'] w (JZ (aA st rs ts) w):=by
 have HC:=ah (CB (fU rs) ad cap rs Y8 cap' ts w hlen hs hl hfr (xR ad cap rs w hlen hs hl hfr hcp) (fun h t ht=>yZ h ht) hlt hst hft);have HS:=ah hs;have Zd:=ah hft;have HFR:=ah hfr;have ZH:=ah hle;clear hs hl hfr hcp hst hft hle;go_enter func11,ntmps11;go_wp2_with fail;refine HC.out.mono ?_;rintro e w1 ⟨hb1,⟨hr,rfl⟩|⟨hr,D,br,bp,bt,nr,np,Mr,Mp,vo,vu,f,rfl,hbt,hLf,hDA⟩⟩
 ·have HP:Hid (JZ (aA st rs ts) w (.returned (.slice none 0 0)) w1):=⟨⟨[],_,rfl,by rw[fV hr],List.Pairwise.nil,World.ownsRow_nil _ _ _ _⟩,hb1⟩;clear hb1 HC hr;go_wp2;go_ret;exact HP.out
 have hsd:aN (ai rs)=true/\ts.length<=40:=by
  unfold aQ dW at hr;simp only[XN,XU]at hr;exact⟨hr.1.1,hr.1.2.1⟩
 obtain⟨hsd,ht40⟩:=hsd;have hSP:=bf.1 hsd;obtain⟨h6,hr6,-⟩:=bI hSP.1;have hE36:=xB h6 hr6;have hfk:∀k∈ay (ai rs),f k+1<=(ay (ai rs)).length:=fun k hk=>by
  obtain⟨g,hg,hb⟩:=hLf.sol.few (lK hSP.2.1);have h1:=hLf.low k hk g hg;have h2:=hb k hk;omega
 have hc0:0<=ig (dP f rs):=(xS (dP f rs) 0).1;have hcl:ig (dP f rs)<=(ay (ai rs)).length:=Hl _ _ _ (by omega) fun x hx=>by
  obtain⟨k,hk,e,-⟩:=SF hx;rw[e];exact hfk k hk
 obtain⟨N,hN⟩:∃N:Nat,ig (dP f rs)=N:=⟨(ig (dP f rs)).toNat,by omega⟩;have hkN:∀k∈ay (ai rs),f k<(N:Int):=fun k hk=>by
  obtain⟨x,hx,e⟩:=Nw (f:=f) hk;have h2:=(xS (dP f rs) 0).2 x hx;have h3:x.1.2+1<=ig (dP f rs):=h2;rw[e,hN]at h3;omega
 have hLs:iV (ai rs) ts f (fA ts) (dA ts) N=aA st rs ts:=by
  rw[dZ hr];unfold qL;rw[<-uf (fun k hk=>hLf.same (ZH.out hsd) k hk)];exact(Fg hkN _ (by omega)).symm
 rw [hN]at hDA;have Z8:=ah (FV w1 rs ad D br bp bt N nr Mr f ts (fA ts) (dA ts) np Mp vo vu hDA (HS.out.below hb1) (by omega) (by have:=kY ts;omega) (by have:=jI ts;omega) hE36 (fun k=>by
  have:(G.lookL (dP f rs) k).length<=(dP f rs).length:=YM _ _;rw[Ny]at this;omega) hSP.1 Zd.out (by omega) (ik Zd.out) (gy Zd.out) (mU HFR.out))
 rw[hLs]at Z8;have hGO:=kw f rs ts (fA ts) (dA ts) N;rw[hLs]at hGO;have HB1:=ah hb1;have hll:=hGO.len (by have:=kY ts;omega) hE36 (by have:=jI ts;omega);have HFF:Hid (∀x∈aA st rs ts,x.fits):=fun x hx=>by
  have h1:=hGO.sub x hx;unfold Aj at h1;obtain⟨o,ho,h1⟩:=XZ.1 h1;obtain⟨k,hk,h1⟩:=XZ.1 h1;obtain⟨u,hu,rfl⟩:=XW.1 h1;exact⟨(ik Zd.out o ho).1,(ik Zd.out o ho).2,mU HFR.out k hk,(gy Zd.out u hu).1,(gy Zd.out u hu).2⟩
 obtain⟨L0,hL0⟩:=eQx (aA st rs ts);rw[<-hL0]at Z8 hll HFF;have HL0:=ah hL0;clear HC hb1 hDA hLf hfk hc0 hcl hN hkN hLs hGO hSP hsd h6 hr6 hE36 hr hbt hL0;go_wp2_with fail;refine Z8.out.mono ?_;rintro e w2 ⟨⟨v,rfl,hown⟩,hb2⟩;have HB2:=ah (HB1.out.trans (hb2.mono HB1.out.size));have YZ:=ah (bW hown HB1.out.size);clear Z8 hown hb2 HB1;cases L0 with
 | nil =>
  obtain⟨ZG,Za,rfl,-⟩:=gV YZ.out;have HSN:=ah (PV ZG Za (.func (.func 58) #[] #[]) w2);have HP:Hid (JZ [] w (.returned (.slice ZG 0 Za)) w2):=⟨⟨[],_,rfl,List.Perm.refl _,List.Pairwise.nil,YZ.out⟩,HB2.out⟩;clear YZ HB2;go_wp2_with fail;refine HSN.out.mono ?_;rintro e w3 ⟨rfl,rfl⟩;go_wp2;go_ret;rw[<-HL0.out];exact HP.out
 | cons x0 xs0 =>
  obtain⟨L1,hL1⟩:=eQx (x0::xs0);obtain⟨g,Za,rfl⟩:=ownsRow_succ (k:=xs0.length) YZ.out;have hgl:=(YZ.out.lt g rfl).1;have HSF:=ah (PU w.heap.size g Za (x0::xs0) w2 HFF.out YZ.out (by simp) (by omega));rw[<-hL1]at HSF;have hlL:xs0.length+1=L1.length:=by rw[hL1];rfl
  rw[<-hL1]at HL0;rw[hlL];clear YZ HFF hll hL1 hlL;go_wp2_with fail;refine HSF.out.mono ?_;rintro e w3 ⟨rfl,ys,hp,hso,hrow,hcg⟩;have HP:Hid (JZ L1 w (.returned (.slice (some ⟨g,0,none⟩) L1.length Za)) w3):=⟨⟨ys,_,rfl,hp,hso,by rw[hp.length_eq];exact hrow⟩,HB2.out.trans (hcg.below (fun k hk=>by rw[hk];exact hgl) HB2.out.size)⟩;clear hp hso hrow hcg HB2 HSF;go_wp2;go_ret;rw[<-HL0.out];exact HP.out
end
def uE(x y:Fc):Bool:=ib x.a x.b x.r x.c x.d ⟨#[]⟩ y.a y.b y.r y.c y.d ⟨#[]⟩
theorem NF{w W w':ag}{n m i0 i1 i2 i3 i4 j0 j1 j2 j3 j4:Nat}{x0 x1 x2 x3 x4 y0 y1 y2 y3 y4:Value}(h:W.cell? ⟨n,i0,none⟩=some x0/\W.cell? ⟨n,i1,none⟩=some x1/\W.cell? ⟨n,i2,none⟩=some x2/\W.cell? ⟨n,i3,none⟩=some x3/\W.cell? ⟨n,i4,none⟩=some x4/\W.cell? ⟨m,j0,none⟩=some y0/\W.cell? ⟨m,j1,none⟩=some y1/\W.cell? ⟨m,j2,none⟩=some y2/\W.cell? ⟨m,j3,none⟩=some y3/\W.cell? ⟨m,j4,none⟩=some y4/\ae w W)(hb:ae W w'):w'.cell? ⟨n,i0,none⟩=some x0/\w'.cell? ⟨n,i1,none⟩=some x1/\w'.cell? ⟨n,i2,none⟩=some x2/\w'.cell? ⟨n,i3,none⟩=some x3/\w'.cell? ⟨n,i4,none⟩=some x4/\w'.cell? ⟨m,j0,none⟩=some y0/\w'.cell? ⟨m,j1,none⟩=some y1/\w'.cell? ⟨m,j2,none⟩=some y2/\w'.cell? ⟨m,j3,none⟩=some y3/\w'.cell? ⟨m,j4,none⟩=some y4/\ae w w':=by
 obtain⟨h0,h1,h2,h3,h4,k0,k1,k2,k3,k4,hB⟩:=h;exact⟨az hb (ax h0) h0,az hb (ax h1) h1,az hb (ax h2) h2,az hb (ax h3) h3,az hb (ax h4) h4,az hb (ax k0) k0,az hb (ax k1) k1,az hb (ax k2) k2,az hb (ax k3) k3,az hb (ax k4) k4,hB.trans (hb.mono hB.size)⟩
theorem MN(ad:Q02)(cap:Nat)(rows:Q04)(w:ag)(hlen:rows.length<=1048576)(hs:jX w ad rows)(hfit:∀x∈rows,x.fits):
  Calls prog 60 #[.slice ad rows.length cap] w fun e w'=>(∃v:Value,e=.returned v/\w'.ownsRow w.heap.size 52 5 v rows.length (av (oq uE rows)))/\ae w w':=by
 obtain⟨iR,hiR,zR0,zR1,zR2⟩:=mI;have Zk:Hid (prog.info? 52=some iR/\iR.zero=some (.agg #[.string ⟨#[]⟩,.string ⟨#[]⟩,.string ⟨#[]⟩,.string ⟨#[]⟩,.string ⟨#[]⟩])/\iR.size=5/\iR.bytes=80):=⟨hiR,zR0,zR1,zR2⟩;have HS:=ah hs;have Zd:=ah hfit;clear hs hfit hiR zR0 zR1 zR2;obtain⟨W0,hW0⟩:=eQx (w.alloc (.cells #[] 52));have HB0:=lX hW0;have HO0:Hid (W0.ownsRow w.heap.size 52 5 (.slice (some ⟨w.heap.size,0,none⟩) 0 0) 0 []):=by
  show World.ownsRow _ _ _ _ _ _ _;rw[hW0];exact World.ownsRow_lit w #[] 0 (XK _) (by unfold maxLen;omega) (by simp)
 go_enter func60,ntmps60;go_wp2_with fail;rw[<-hW0];clear hW0;go_loopw[3,4] (fun v i wr=>∃(k g c:Nat),k<=rows.length/\i=.int .i64 k/\v=.slice (some ⟨g,0,none⟩) k c/\Hid (wr.ownsRow w.heap.size 52 5 (.slice (some ⟨g,0,none⟩) k c) k (av (oq uE (rows.take k))))/\Hid (ae w wr)) (fun _ i _=>rows.length-(intOf i).toNat);case atStart=>exact⟨0,w.heap.size,0,XP _,rfl,rfl,HO0,HB0⟩
 clear HO0 HB0;obtain⟨k,g,c,hk,rfl,rfl,HO,HB⟩:=hrel;by_cases hlt:k<rows.length
 ·obtain⟨acc,hacc⟩:=eQx (oq uE (rows.take k));obtain⟨b,off,YW,hrow,hbl⟩:∃b off,ad=some ⟨b,off,none⟩/\yP w b (off+k*5) rows[k]/\b<w.heap.size:=by
   rcases HS.out with h|⟨b',off',e,hb,hr⟩
   ·rw[h]at hlt;simp at hlt
   exact⟨b',off',e,hr k hlt,hb⟩
  obtain⟨x,hx⟩:∃x,rows[k]=x:=⟨_,rfl⟩;have HNX:Hid (oq uE (rows.take (k+1))=yx uE x acc):=by show _=_;rw[XM hlt,KD,hacc,hx]
  have hal:acc.length=k:=by rw[hacc,(nk _).length_eq,Yc];omega
  have HXF:Hid x.fits:=by show Fc.fits x;rw[<-hx];exact Zd.out _ (XI hlt)
  have HAF:Hid (∀z∈acc,z.fits):=fun z hz=>by
   rw[hacc]at hz;exact Zd.out z (List.mem_of_mem_take ((nk _).mem_iff.1 hz))
  rw[<-hacc]at HO;rw[hx]at hrow;have Zl:=ah hal;have hkc:k<=c:=xq HO.out;have hk1:=bG k;have hk2:(k:Int)<(rows.length:Int):=by omega
  have Z0:=ah hrow;have HBL:=ah hbl;obtain⟨wo,hwo⟩:=eQx wr;subst hwo;subst YW;clear hacc hal hrow hbl hx;go_wp2_with fail;go_loopw[5] (fun i wr=>∃p:Nat,p<=k/\i=.int .i64 p/\Hid (∀(i:Nat) (h:i<acc.length),i<p->uE acc[i] x=true)/\Hid (ae wo wr)) (fun i _=>k-(intOf i).toNat);case atStart=>exact⟨0,XP _,rfl,fun i h hi=>absurd hi (YG _),XL _ _⟩
  obtain⟨p,hp,rfl,HU,HBP⟩:=hrel;have HOP:Hid (wr.ownsRow w.heap.size 52 5 (.slice (some ⟨g,0,none⟩) k c) k (av acc)):=gW HO.out fun z hz=>HBP.out.block z (HO.out.lt z hz).2;have HBWP:Hid (ae w wr):=HB.out.trans (HBP.out.mono HB.out.size);obtain⟨y0,y1,y2,y3,y4⟩:=Z0.out.same (fun o=>HBWP.out.cell (p:=⟨b,o,none⟩) HBL.out);have hbr:b<wr.heap.size:=XJ HBL.out HBWP.out.size;have hgr:g<wr.heap.size:=(HOP.out.lt g rfl).2;have hp1:=bG p;by_cases hpk:p<k
  ·have hp2:(p:Int)<(k:Int):=by omega
   have hd:decide ((p:Int)<(k:Int))=true:=by simp;omega
   have hpa:p<acc.length:=by rw[Zl.out];exact hpk
   obtain⟨y,hy⟩:∃y,acc[p]=y:=⟨_,rfl⟩;have hc5:∀c,c<5->wr.cell? ⟨g,p*5+c,none⟩=y.row[c]?:=fun c hc=>by
    rw[HOP.out.cellAt (p*5+c) (by omega),lQ acc p hpa c hc,hy]
   have s0:wr.cell? ⟨g,p*5,none⟩=some (.string y.a):=hc5 0 (by omega);have s1:wr.cell? ⟨g,p*5+1,none⟩=some (.string y.b):=hc5 1 (by omega);have s2:wr.cell? ⟨g,p*5+2,none⟩=some (.string y.r):=hc5 2 (by omega);have s3:wr.cell? ⟨g,p*5+3,none⟩=some (.string y.c):=hc5 3 (by omega);have s4:wr.cell? ⟨g,p*5+4,none⟩=some (.string y.d):=hc5 4 (by omega);have hyf:y.fits:=by rw[<-hy];exact HAF.out _ (XI hpa)
   have HC:Hid (∀W':World,Calls prog 142 #[.agg #[.string y.a,.string y.b,.string y.r,.string y.c,.string y.d],.agg #[.string x.a,.string x.b,.string x.r,.string x.c,.string x.d]] W' fun e w'=>e=.returned (.bool (uE y x))/\ae W' w'):=fun W'=>xQ _ _ _ _ _ _ _ _ _ _ W' hyf.1 hyf.2.1 hyf.2.2.1 hyf.2.2.2.1 hyf.2.2.2.2 HXF.out.1 HXF.out.2.1 HXF.out.2.2.1 HXF.out.2.2.2.1 HXF.out.2.2.2.2;clear hc5 hyf;have HYE:=ah hy;clear hy;have hbp:=HBP.out;cases hq:uE y x;case true=>
    have HU2:Hid (∀(i:Nat) (h:i<acc.length),i<p+1->uE acc[i] x=true):=fun i h hi=>by
     by_cases e:i=p
     ·subst e;rw[HYE.out];exact hq
     exact HU.out i h (by omega)
    rw[hq]at HC;clear hq;go_wp2_with fail
    go_region_held3 (fun w'=>w'.cell? ⟨g,p*5,none⟩=some (.string y.a)/\w'.cell? ⟨g,p*5+1,none⟩=some (.string y.b)/\w'.cell? ⟨g,p*5+2,none⟩=some (.string y.r)/\w'.cell? ⟨g,p*5+3,none⟩=some (.string y.c)/\w'.cell? ⟨g,p*5+4,none⟩=some (.string y.d)/\w'.cell? ⟨b,off+k*5,none⟩=some (.string x.a)/\w'.cell? ⟨b,off+k*5+1,none⟩=some (.string x.b)/\w'.cell? ⟨b,off+k*5+2,none⟩=some (.string x.r)/\w'.cell? ⟨b,off+k*5+3,none⟩=some (.string x.c)/\w'.cell? ⟨b,off+k*5+4,none⟩=some (.string x.d)/\ae wo w')
     (first|assumption|exact NF (by assumption) hbx|exact⟨s0,s1,s2,s3,s4,y0,y1,y2,y3,y4,hbp.drew⟩)
     (first|(go_at_call 142;refine(HC.out _).mono ?_;rintro e w' ⟨rfl,hbx⟩))
    rename_i hJ;have HJB:=ah hJ.2.2.2.2.2.2.2.2.2.2;have HSZ:Hid (wr.heap.size<=w'.heap.size):=by show _<=_;exact XR (by first|exact XK _|simp) hbx.size
    clear hJ s0 s1 s2 s3 s4 y0 y1 y2 y3 y4 hd;go_wp2;go_roundw;case rel=>exact⟨p+1,by omega,by go_num,HU2,HJB⟩
    simp[intOf]<;>omega
   have HPT:Hid (yx uE x acc=acc.take p++x::acc.drop p):=Gp (by rw[Zl.out];exact hp) HU.out (fun _=>by rw[HYE.out];exact hq);rw[hq]at HC;clear hq;go_wp2_with fail
   go_region_held3 (fun w'=>w'.cell? ⟨g,p*5,none⟩=some (.string y.a)/\w'.cell? ⟨g,p*5+1,none⟩=some (.string y.b)/\w'.cell? ⟨g,p*5+2,none⟩=some (.string y.r)/\w'.cell? ⟨g,p*5+3,none⟩=some (.string y.c)/\w'.cell? ⟨g,p*5+4,none⟩=some (.string y.d)/\w'.cell? ⟨b,off+k*5,none⟩=some (.string x.a)/\w'.cell? ⟨b,off+k*5+1,none⟩=some (.string x.b)/\w'.cell? ⟨b,off+k*5+2,none⟩=some (.string x.r)/\w'.cell? ⟨b,off+k*5+3,none⟩=some (.string x.c)/\w'.cell? ⟨b,off+k*5+4,none⟩=some (.string x.d)/\ae wo w')
    (first|assumption|exact NF (by assumption) hbx|exact⟨s0,s1,s2,s3,s4,y0,y1,y2,y3,y4,hbp.drew⟩)
    (first|(go_at_call 142;refine(HC.out _).mono ?_;rintro e w' ⟨rfl,hbx⟩))
   rename_i hJ;have HJB:=ah hJ.2.2.2.2.2.2.2.2.2.2;have HSZ:Hid (wr.heap.size<=w'.heap.size):=by show _<=_;exact XR (by first|exact XK _|simp) hbx.size
   obtain⟨X,hX⟩:∃X,w'=X:=⟨_,rfl⟩;subst hX;have Zv:=aK HJB;have HSX:Hid (wr.heap.size<=w'.heap.size):=by show _<=_;exact HSZ.out
   clear hJ s0 s1 s2 s3 s4 hd HC HYE hbp HJB HSZ;clear y0 y1 y2 y3 y4 hbr HOP HBWP HBP HU;obtain⟨W1,hW1⟩:=eQx (w'.alloc (.cells #[] 52));have Zz:Hid (W1.ownsRow w'.heap.size 52 5 (.slice (some ⟨w'.heap.size,0,none⟩) 0 0) 0 []):=by
    show World.ownsRow _ _ _ _ _ _ _;rw[hW1];exact World.ownsRow_lit w' #[] 0 (XK _) (by unfold maxLen;omega) (by simp)
   have HB1:=lX hW1;have HBO1:Hid (ae wo W1):=Zv.out.trans (HB1.out.mono Zv.out.size);have HR1:Hid (W1.ownsRow w.heap.size 52 5 (.slice (some ⟨g,0,none⟩) k c) k (av acc)):=gW HO.out fun z hz=>HBO1.out.block z (HO.out.lt z hz).2;have hz1:w'.heap.size<=W1.heap.size:=HB1.out.size;have hgX:g<w'.heap.size:=XJ (HO.out.lt g rfl).2 Zv.out.size;have hpc:p<=c:=by omega
   go_wp2_with(at_builtin;go_must (rw[<-hW1];clear hW1;refine wpList_append_own_at _ rfl _ _ 44 rfl w'.heap.size 52 iR (.agg #[.string ⟨#[]⟩,.string ⟨#[]⟩,.string ⟨#[]⟩,.string ⟨#[]⟩,.string ⟨#[]⟩]) 5 80 underlying44 Zk.out.1 Zk.out.2.1 Zk.out.2.2.1 Zk.out.2.2.2 rfl (by decide) _ 0 [] rfl Zz.out ⟨g,0,none⟩ p c (av (acc.take p)) rfl (by rw[fe,Yc];congr 1;have:=Zl.out;omega) (qH HR1.out p hp) (kv _) (by unfold maxLen;omega) (by omega) hz1 ?_));intro v2 w2 hown2 ZP _ _;have YZ:Hid (w2.ownsRow w'.heap.size 52 5 v2 p (av (acc.take p))):=by
    show World.ownsRow _ _ _ _ _ _ _
    first|exact hown2|(rw[Yg,YI]at hown2;exact hown2)|simpa using hown2
   have HB2:Hid (ae w' w2):=HB1.out.grown ZP HB1.out.size (fun z hz=>by simp[Value.ownBlock]at hz;omega);have hz2:w'.heap.size<=w2.heap.size:=HB2.out.size;have HBO2:Hid (ae w w2):=(HB.out.trans (Zv.out.mono HB.out.size)).trans (HB2.out.mono (XR HB.out.size Zv.out.size));obtain⟨y0,y1,y2,y3,y4⟩:=Z0.out.same (fun o=>HBO2.out.cell (p:=⟨b,o,none⟩) HBL.out);have hbr:b<w2.heap.size:=XJ HBL.out HBO2.out.size;obtain⟨W3,hW3⟩:=eQx (w2.alloc (.cells #[.string x.a,.string x.b,.string x.r,.string x.c,.string x.d] 52));have Zq:Hid (W3.ownsRow w'.heap.size 52 5 v2 p (av (acc.take p))):=by show World.ownsRow _ _ _ _ _ _ _;rw[hW3];exact YZ.out.alloc _
   have HNW:Hid (∀j u,x.row[j]?=some u->W3.cell? ((⟨w2.heap.size,0,none⟩:Addr).add j)=some u):=by show ∀j u,_;rw[hW3];exact xm w2 x
   have HB3:Hid (ae w' W3):=by show Below _ _ _;rw[hW3];exact HB2.out.alloc HB2.out.size _
   have hz3:w'.heap.size<=W3.heap.size:=HB3.out.size;clear hown2 ZP Zz HB1 HBO1 HR1 hz1;go_wp2_with(at_builtin;go_must (rw[<-hW3];clear hW3;refine wpList_append_own_at _ rfl _ _ 44 rfl w'.heap.size 52 iR (.agg #[.string ⟨#[]⟩,.string ⟨#[]⟩,.string ⟨#[]⟩,.string ⟨#[]⟩,.string ⟨#[]⟩]) 5 80 underlying44 Zk.out.1 Zk.out.2.1 Zk.out.2.2.1 Zk.out.2.2.2 rfl (by decide) v2 p (av (acc.take p)) rfl Zq.out ⟨w2.heap.size,0,none⟩ 1 1 x.row rfl rfl HNW.out (by simp[Fc.row,Value.oneCell']) (by unfold maxLen;omega) (by omega) hz3 ?_));intro v4 w4 ZJ hgr4 _ _;have Zg:=aK ZJ;have Z7:Hid (ae w' w4):=HB3.out.grown hgr4 HB3.out.size (fun z hz=>(YZ.out.lt z hz).1);have hz4:w'.heap.size<=w4.heap.size:=Z7.out.size;have HBO4:Hid (ae wo w4):=Zv.out.trans (Z7.out.mono Zv.out.size);have HR4:Hid (w4.ownsRow w.heap.size 52 5 (.slice (some ⟨g,0,none⟩) k c) k (av acc)):=gW HO.out fun z hz=>HBO4.out.block z (HO.out.lt z hz).2;clear ZJ hgr4 Zq YZ HNW HB3 hz3 HB2 hz2 HBO2 y0 y1 y2 y3 y4 hbr;go_wp2_with(at_builtin;go_must (refine wpList_append_own_at _ rfl _ _ 44 rfl w'.heap.size 52 iR (.agg #[.string ⟨#[]⟩,.string ⟨#[]⟩,.string ⟨#[]⟩,.string ⟨#[]⟩,.string ⟨#[]⟩]) 5 80 underlying44 Zk.out.1 Zk.out.2.1 Zk.out.2.2.1 Zk.out.2.2.2 rfl (by decide) v4 (p+1) (av (acc.take p)++x.row) rfl Zg.out ⟨g,p*5,none⟩ (k-p) (c-p) (av (acc.drop p)) rfl (by rw[fe,YD];have:=Zl.out;congr 1;omega) (vQ HR4.out p hp) (kv _) (by unfold maxLen;omega) (by omega) hz4 ?_));intro v5 w5 hown5 hgr5 _ _;have hn5:p+1+(k-p)=k+1:=by omega
   have HB5:Hid (ae w' w5):=Z7.out.grown hgr5 Z7.out.size (fun z hz=>(Zg.out.lt z hz).1);have hown6:w5.ownsRow w'.heap.size 52 5 v5 (k+1) (av (oq uE (rows.take (k+1)))):=by
    rw[HNX.out,HPT.out,av,YE,Ym,<-hn5];exact hown5
   obtain⟨ad5,c5,rfl⟩:=qG hown6;obtain⟨g5,rfl,-⟩:=pM hown6 (Nat.succ_ne_zero _);have ZI:=ah (pO hown6 (XR HB.out.size Zv.out.size));have HB6:Hid (ae w w5):=(HB.out.trans (Zv.out.mono HB.out.size)).trans (HB5.out.mono (XR HB.out.size Zv.out.size));clear hown5 hown6 hgr5 hn5;go_wp2;go_roundw;case rel=>exact⟨k+1,g5,c5,by omega,by go_num,by first|rfl|simp,ZI,HB6⟩
   simp[intOf]<;>omega
  have hd:decide ((p:Int)<(k:Int))=false:=by simp;omega
  have hpe:¬(p:Int)<(k:Int):=by omega
  have HPT:Hid (yx uE x acc=acc.take p++x::acc.drop p):=Gp (by rw[Zl.out];exact hp) HU.out (fun h=>absurd (by rw[Zl.out]at h;exact h) hpk);go_wp2_with fail;go_quiet (fail);clear hd hpe;obtain⟨X,hX⟩:∃X,wr.drewN nq=X:=⟨_,rfl⟩;have Zv:Hid (ae wo X):=by show Below _ _ _;rw[<-hX];exact below_drewN HBP.out _
  have HSX:Hid (wr.heap.size<=X.heap.size):=by show _<=_;rw[<-hX];exact XK _
  rw[hX];clear hX y0 y1 y2 y3 y4 hbr HOP HBWP HBP HU;obtain⟨W1,hW1⟩:=eQx (X.alloc (.cells #[] 52));have Zz:Hid (W1.ownsRow X.heap.size 52 5 (.slice (some ⟨X.heap.size,0,none⟩) 0 0) 0 []):=by
   show World.ownsRow _ _ _ _ _ _ _;rw[hW1];exact World.ownsRow_lit X #[] 0 (XK _) (by unfold maxLen;omega) (by simp)
  have HB1:=lX hW1;have HBO1:Hid (ae wo W1):=Zv.out.trans (HB1.out.mono Zv.out.size);have HR1:Hid (W1.ownsRow w.heap.size 52 5 (.slice (some ⟨g,0,none⟩) k c) k (av acc)):=gW HO.out fun z hz=>HBO1.out.block z (HO.out.lt z hz).2;have hz1:X.heap.size<=W1.heap.size:=HB1.out.size;have hgX:g<X.heap.size:=XJ (HO.out.lt g rfl).2 Zv.out.size;have hpc:p<=c:=by omega
  go_wp2_with(at_builtin;go_must (rw[<-hW1];clear hW1;refine wpList_append_own_at _ rfl _ _ 44 rfl X.heap.size 52 iR (.agg #[.string ⟨#[]⟩,.string ⟨#[]⟩,.string ⟨#[]⟩,.string ⟨#[]⟩,.string ⟨#[]⟩]) 5 80 underlying44 Zk.out.1 Zk.out.2.1 Zk.out.2.2.1 Zk.out.2.2.2 rfl (by decide) _ 0 [] rfl Zz.out ⟨g,0,none⟩ p c (av (acc.take p)) rfl (by rw[fe,Yc];congr 1;have:=Zl.out;omega) (qH HR1.out p hp) (kv _) (by unfold maxLen;omega) (by omega) hz1 ?_));intro v2 w2 hown2 ZP _ _;have YZ:Hid (w2.ownsRow X.heap.size 52 5 v2 p (av (acc.take p))):=by
   show World.ownsRow _ _ _ _ _ _ _
   first|exact hown2|(rw[Yg,YI]at hown2;exact hown2)|simpa using hown2
  have HB2:Hid (ae X w2):=HB1.out.grown ZP HB1.out.size (fun z hz=>by simp[Value.ownBlock]at hz;omega);have hz2:X.heap.size<=w2.heap.size:=HB2.out.size;have HBO2:Hid (ae w w2):=(HB.out.trans (Zv.out.mono HB.out.size)).trans (HB2.out.mono (XR HB.out.size Zv.out.size));obtain⟨y0,y1,y2,y3,y4⟩:=Z0.out.same (fun o=>HBO2.out.cell (p:=⟨b,o,none⟩) HBL.out);have hbr:b<w2.heap.size:=XJ HBL.out HBO2.out.size;obtain⟨W3,hW3⟩:=eQx (w2.alloc (.cells #[.string x.a,.string x.b,.string x.r,.string x.c,.string x.d] 52));have Zq:Hid (W3.ownsRow X.heap.size 52 5 v2 p (av (acc.take p))):=by show World.ownsRow _ _ _ _ _ _ _;rw[hW3];exact YZ.out.alloc _
  have HNW:Hid (∀j u,x.row[j]?=some u->W3.cell? ((⟨w2.heap.size,0,none⟩:Addr).add j)=some u):=by show ∀j u,_;rw[hW3];exact xm w2 x
  have HB3:Hid (ae X W3):=by show Below _ _ _;rw[hW3];exact HB2.out.alloc HB2.out.size _
  have hz3:X.heap.size<=W3.heap.size:=HB3.out.size;clear hown2 ZP Zz HB1 HBO1 HR1 hz1;go_wp2_with(at_builtin;go_must (rw[<-hW3];clear hW3;refine wpList_append_own_at _ rfl _ _ 44 rfl X.heap.size 52 iR (.agg #[.string ⟨#[]⟩,.string ⟨#[]⟩,.string ⟨#[]⟩,.string ⟨#[]⟩,.string ⟨#[]⟩]) 5 80 underlying44 Zk.out.1 Zk.out.2.1 Zk.out.2.2.1 Zk.out.2.2.2 rfl (by decide) v2 p (av (acc.take p)) rfl Zq.out ⟨w2.heap.size,0,none⟩ 1 1 x.row rfl rfl HNW.out (by simp[Fc.row,Value.oneCell']) (by unfold maxLen;omega) (by omega) hz3 ?_));intro v4 w4 ZJ hgr4 _ _;have Zg:=aK ZJ;have Z7:Hid (ae X w4):=HB3.out.grown hgr4 HB3.out.size (fun z hz=>(YZ.out.lt z hz).1);have hz4:X.heap.size<=w4.heap.size:=Z7.out.size;have HBO4:Hid (ae wo w4):=Zv.out.trans (Z7.out.mono Zv.out.size);have HR4:Hid (w4.ownsRow w.heap.size 52 5 (.slice (some ⟨g,0,none⟩) k c) k (av acc)):=gW HO.out fun z hz=>HBO4.out.block z (HO.out.lt z hz).2;clear ZJ hgr4 Zq YZ HNW HB3 hz3 HB2 hz2 HBO2 y0 y1 y2 y3 y4 hbr;obtain rfl:p=k:=by omega
  have HDN:Hid (acc.drop p=[]):=Ya (by rw[Zl.out];exact XK _);by_cases hce:c=p
  all_goals
   go_wp2_with(at_builtin;go_must (refine wpList_append_own_at _ rfl _ _ 44 rfl X.heap.size 52 iR (.agg #[.string ⟨#[]⟩,.string ⟨#[]⟩,.string ⟨#[]⟩,.string ⟨#[]⟩,.string ⟨#[]⟩]) 5 80 underlying44 Zk.out.1 Zk.out.2.1 Zk.out.2.2.1 Zk.out.2.2.2 rfl (by decide) v4 (p+1) (av (acc.take p)++x.row) rfl Zg.out _ 0 _ (av (acc.drop p)) rfl (by rw[HDN.out];rfl) (LA HDN.out) (kv _) (by unfold maxLen;omega) (by omega) hz4 ?_));intro v5 w5 hown5 hgr5 _ _;have hn5:p+1+0=p+1:=rfl;have HB5:Hid (ae X w5):=Z7.out.grown hgr5 Z7.out.size (fun z hz=>(Zg.out.lt z hz).1);have hown6:w5.ownsRow X.heap.size 52 5 v5 (p+1) (av (oq uE (rows.take (p+1)))):=by
    rw[HNX.out,HPT.out,av,YE,Ym,<-hn5];exact hown5
   obtain⟨ad5,c5,rfl⟩:=qG hown6;obtain⟨g5,rfl,-⟩:=pM hown6 (Nat.succ_ne_zero _);have ZI:=ah (pO hown6 (XR HB.out.size Zv.out.size));have HB6:Hid (ae w w5):=(HB.out.trans (Zv.out.mono HB.out.size)).trans (HB5.out.mono (XR HB.out.size Zv.out.size));clear hown5 hown6 hgr5 hn5;go_wp2;go_roundw;case rel=>exact⟨p+1,g5,c5,by omega,by go_num,by first|rfl|simp,ZI,HB6⟩
   simp[intOf]<;>omega
 obtain rfl:k=rows.length:=by omega
 have HE:Hid (wr.ownsRow w.heap.size 52 5 (.slice (some ⟨g,0,none⟩) rows.length c) rows.length (av (oq uE rows))):=by have h:=HO.out;rw[X8]at h;exact h
 go_wp2;go_ret;exact⟨⟨_,rfl,HE.out⟩,HB.out⟩
section
variable  [DecidableEq Fc]
theorem MO{st:Q00}{rs:Q06}{ts:Q05}{x:Fc}(hx:x∈aA st rs ts):∃o∈fA ts,∃k∈ay (ai rs),∃u∈dA ts,x=⟨o.t,o.s,k.2,u.t,u.s⟩:=by
 cases hr:aQ (fU rs) rs ts;case false=>rw[fV hr]at hx;cases hx
 rw[dZ hr]at hx;have h1:=(kw st rs ts (fA ts) (dA ts) _).sub x hx;unfold Aj at h1;obtain⟨o,ho,h1⟩:=XZ.1 h1;obtain⟨k,hk,h1⟩:=XZ.1 h1;unfold jH at h1;obtain⟨u,hu,rfl⟩:=XW.1 h1;exact⟨o,ho,k,hk,u,hu,rfl⟩
theorem zW{st:Q00}{rs:Q06}{ts:Q05}(hfr:∀r∈rs,r.fits)(hft:∀x∈ts,x.fits):∀x∈aA st rs ts,x.fits:=fun x hx=>by
 obtain⟨o,ho,k,hk,u,hu,rfl⟩:=MO hx;have h1:=ik hft o ho;have h2:=gy hft u hu;exact⟨h1.1,h1.2,mU hfr k hk,h2.1,h2.2⟩
def lc(st:Q00)(rs:Q06)(ts:Q05):List Fc:=oq uE (aA st rs ts)
theorem MP(st:Q00)(rs:Q06)(ts:Q05):(lc st rs ts).length=(aA st rs ts).length:=(nk _).length_eq
end
theorem F7(x y:Fc):pI x y=pI y x:=by rw[X9,iU,iU];exact⟨Eq.symm,Eq.symm⟩
theorem PW{x y:Q04}(h:x.Perm y)(f:Fc):aR x f=aR y f:=by rw[X9,aU,aU];exact h.mem_iff
theorem J3(ad:Q02)(cap:Nat)(ts:Q04)(t:Fc)(w:ag)(hlen:ts.length<=1048576)(hs:jX w ad ts):
  Calls prog 69 #[.slice ad ts.length cap,.agg #[.string t.a,.string t.b,.string t.r,.string t.c,.string t.d]] w fun e w'=>(∃r:Int,e=.returned (.int .i64 r)/\decide (0<=r)=aR ts t)/\ae w w':=by
 have HS:=ah hs;clear hs;obtain⟨W0,hW0⟩:=eQx (w.alloc (.cells #[.string t.a,.string t.b,.string t.r,.string t.c,.string t.d] 52));have HB0:=lX hW0;have HX0:Hid (kC W0 w.heap.size t):=by show kC _ _ _;rw[hW0];exact World.alloc_heap_new w _
 go_enter func69,ntmps69;go_wp2_with fail;rw[<-hW0];clear hW0;go_loopw[8] (fun i wr=>∃k:Nat,k<=ts.length/\i=.int .i64 k/\Hid (aR (ts.drop k) t=aR ts t)/\Hid (ae W0 wr)) (fun i _=>ts.length-(intOf i).toNat);case atStart=>exact⟨0,XP _,rfl,rfl,XL _ _⟩
 obtain⟨k,hk,rfl,HP,HB⟩:=hrel;have Y9:Hid (ae w wr):=HB0.out.trans (HB.out.mono HB0.out.size);by_cases hlt:k<ts.length
 ·obtain⟨b,off,YW,⟨t0,t1,t2,t3,t4⟩,hb⟩:=jX.at0 (HS.out.below Y9.out) hlt;obtain⟨x0,x1,x2,x3,x4,xl⟩:=(HX0.out.bel HB.out).c;have hk1:=bG k;have hk2:(k:Int)<(ts.length:Int):=by omega
  have HD:Hid (aR ts t=(pI ts[k] t || aR (ts.drop (k+1)) t)):=by show _=_;rw[<-HP.out];exact yQ hlt
  subst YW;cases hq:pI ts[k] t;case true=>
   have heq:=r9 t ts[k] (v:=true) (by rw[F7];exact hq);have HN:Hid (aR ts t=true):=by show _=_;rw[HD.out,hq];rfl
   clear hq;go_wp2_with fail;go_quiet (fail);clear t0 t1 t2 t3 t4 x0 x1 x2 x3 x4 heq;go_wp2;go_ret;exact⟨⟨k,rfl,by rw[HN.out];simp⟩,below_drewN Y9.out _⟩
  have heq:=r9 t ts[k] (v:=false) (by rw[F7];exact hq);have Zc:Hid (aR (ts.drop (k+1)) t=aR ts t):=by show _=_;rw[HD.out,hq];rfl
  clear hq;go_wp2_with fail;go_quiet (fail);clear t0 t1 t2 t3 t4 x0 x1 x2 x3 x4 heq;go_wp2;go_roundw;case rel=>exact⟨k+1,by omega,by go_num,Zc,below_drewN HB.out _⟩
  simp[intOf]<;>omega
 have HN:Hid (aR ts t=false):=by show _=_;rw[<-HP.out,Ya (by omega)];rfl
 go_wp2;go_ret;exact⟨⟨-1,rfl,by rw[HN.out];simp⟩,Y9.out⟩
theorem Dx(ad:Q02)(cap:Nat)(ts:Q04)(t:Fc)(w:ag)(hlen:ts.length<=1048576)(hs:jX w ad ts):
  Calls prog 73 #[.slice ad ts.length cap,.agg #[.string t.a,.string t.b,.string t.r,.string t.c,.string t.d]] w fun e w'=>e=.returned (.bool (aR ts t))/\ae w w':=by
 obtain⟨W0,hW0⟩:=eQx (w.alloc (.cells #[.string t.a,.string t.b,.string t.r,.string t.c,.string t.d] 52));have HB0:=lX hW0;have HC:=ah (J3 ad cap ts t W0 hlen (hs.below HB0.out));clear hs;go_enter func73,ntmps73;go_wp2_with fail;rw[<-hW0];clear hW0;refine HC.out.mono ?_;rintro e w' ⟨⟨r,rfl,hr⟩,hbx⟩;have HR:=ah hr;have Zv:=ah (HB0.out.trans (hbx.mono HB0.out.size));clear hr hbx;go_wp2;go_ret;exact⟨by rw[<-HR.out];rfl,Zv.out⟩
section
variable  [DecidableEq Fc]
theorem uV(st:Q00)(ad:Q02)(cap:Nat)(rs:Q06)(Y8:Q02)(cap':Nat)(ts:Q05)(f:Fc)(w:ag)(hlen:rs.length<=1048576)(hs:kI w ad rs)(hl:∀r∈rs,r.light)(hfr:∀r∈rs,r.fits)(hcp:∀r∈rs,r.caps)(hlt:ts.length<=1048576)(hst:Sl w Y8 ts)(hft:∀x∈ts,x.fits)(hle:aN (ai rs)=true->Least (ai rs) st):
  Calls prog 20 #[.slice ad rs.length cap,.slice Y8 ts.length cap',.agg #[.string f.a,.string f.b,.string f.r,.string f.c,.string f.d]] w fun e w'=>e=.returned (.bool (aR (aA st rs ts) f))/\ae w w':=by
 obtain⟨W0,hW0⟩:=eQx (w.alloc (.cells #[.string f.a,.string f.b,.string f.r,.string f.c,.string f.d] 52));have HB0:ae w W0:=by rw[hW0];exact(XL _ _).alloc (XK _) _
 have hbx:kC W0 w.heap.size f:=by rw[hW0];exact World.alloc_heap_new w _
 obtain⟨c0,c1,c2,c3,c4,cl⟩:=hbx.c;have ZW:Hid (∀W':World,(W'.cell? ⟨w.heap.size,0,none⟩=some (.string f.a)/\W'.cell? ⟨w.heap.size,1,none⟩=some (.string f.b)/\W'.cell? ⟨w.heap.size,2,none⟩=some (.string f.r)/\W'.cell? ⟨w.heap.size,3,none⟩=some (.string f.c)/\W'.cell? ⟨w.heap.size,4,none⟩=some (.string f.d)/\ae w W')->Calls prog 11 #[.slice ad rs.length cap,.slice Y8 ts.length cap'] W' (JZ (aA st rs ts) W')):=fun W' h=>Ei st ad cap rs Y8 cap' ts W' hlen (hs.below h.2.2.2.2.2) hl hfr hcp hlt (hst.below h.2.2.2.2.2) hft hle;have hLl:=jJ st (rs:=rs) (ts:=ts);clear hs hl hfr hcp hst hft hle hbx;go_enter func20,ntmps20;go_wp2_with fail;rw[<-hW0];clear hW0
 go_region_held3 (fun w'=>w'.cell? ⟨w.heap.size,0,none⟩=some (.string f.a)/\w'.cell? ⟨w.heap.size,1,none⟩=some (.string f.b)/\w'.cell? ⟨w.heap.size,2,none⟩=some (.string f.r)/\w'.cell? ⟨w.heap.size,3,none⟩=some (.string f.c)/\w'.cell? ⟨w.heap.size,4,none⟩=some (.string f.d)/\ae w w')
  (first|assumption|exact vY (by assumption) hbx|exact⟨c0,c1,c2,c3,c4,HB0.drew⟩)
  (first|(go_at_call 11;refine(ZW.out _ (by assumption)).mono ?_;rintro e w' ⟨⟨L,v,rfl,hp,-,hown⟩,hbx⟩;obtain⟨Zo,Y0,rfl,hsl⟩:=gV hown;have HLL:Hid (L.length<=1048576):=(by show _<=_;rw[hp.length_eq];exact XR hLl (by decide)))|(go_at_call 73;refine(Dx Zo Y0 L f _ HLL.out (by first|exact hsl|exact hsl.below (XL _ _))).mono ?_;rintro e w'' ⟨rfl,hbx⟩))
 rename_i hJ;have HG:=ah hJ.2.2.2.2.2;have HE:=ah (PW hp f);clear hJ hown hsl hp c0 c1 c2 c3 c4;go_wp2;go_ret;exact⟨by rw[HE.out];rfl,HG.out⟩
end
section
variable  [DecidableEq Fc]
theorem Ej(st:Q00)(ad:Q02)(cap:Nat)(rs:Q06)(Y8:Q02)(cap':Nat)(ts:Q05)(w:ag)(hlen:rs.length<=1048576)(hs:kI w ad rs)(hl:∀r∈rs,r.light)(hfr:∀r∈rs,r.fits)(hlt:ts.length<=1048576)(hst:Sl w Y8 ts)(hft:∀x∈ts,x.fits)(hle:aN (ai rs)=true->Least (ai rs) st):
  Calls prog 13 #[.slice ad rs.length cap,.slice Y8 ts.length cap'] w fun e w'=>(∃v,e=.returned v/\w'.ownsRow w.heap.size 52 5 v (lc st rs ts).length (av (lc st rs ts)))/\ae w w':=by
 have hLl:=jJ st (rs:=rs) (ts:=ts);have HFQ:=ah (zW (st:=st) hfr hft);have HRC:=ah (zR ad cap rs Y8 cap' ts w hlen hs hl hfr hlt hst hft);have HAC:Hid (aQ (fU rs) rs ts=true->∀W':World,ae w W'->Calls prog 61 #[.slice ad rs.length cap,.slice Y8 ts.length cap'] W' fun e w'=>(∃v,e=.returned v/\w'.ownsRow W'.heap.size 52 5 v (aA st rs ts).length (av (aA st rs ts)))/\ae W' w'):=fun hr W' hb=>by
  have hsd:aN (ai rs)=true/\ts.length<=40:=by
   unfold aQ dW at hr;simp only[XN,XU]at hr;exact⟨hr.1.1,hr.1.2.1⟩
  have:=yU st ad cap rs Y8 cap' ts W' (bf.1 hsd.1) (hle hsd.1) (hs.below hb) hl hsd.2 (hst.below hb);rw[<-dZ hr]at this;exact this
 clear hs hl hfr hst hft hle;go_enter func13,ntmps13;go_wp2_with fail;refine HRC.out.mono ?_;rintro e w1 ⟨rfl,hb1⟩;have HB1:=ah hb1;clear hb1 HRC;cases hr:aQ (fU rs) rs ts;case false=>
  have HN:Hid (lc st rs ts=[]):=by show _=_;unfold lc;rw[fV hr];rfl
  clear hr HAC;obtain⟨W2,hW2⟩:=eQx (w1.alloc (.cells #[] 52));have YZ:Hid (W2.ownsRow w.heap.size 52 5 (.slice (some ⟨w1.heap.size,0,none⟩) 0 0) 0 []):=by
   show World.ownsRow _ _ _ _ _ _ _;rw[hW2];exact World.ownsRow_lit w1 #[] 0 HB1.out.size (by unfold maxLen;omega) (by simp)
  have HB2:Hid (ae w W2):=by show Below _ _ _;rw[hW2];exact HB1.out.alloc HB1.out.size _
  go_wp2;rw[<-hW2];go_ret;exact⟨⟨_,rfl,by rw[HN.out];exact YZ.out⟩,HB2.out⟩
 have HA:=ah (HAC.out hr);clear HAC hr;obtain⟨L,hL⟩:∃L,aA st rs ts=L:=⟨_,rfl⟩;have HSL:Hid (lc st rs ts=oq uE L):=by show _=_;unfold lc;rw[hL]
 rw[hL]at HA HFQ hLl;clear hL;go_wp2_with fail;refine(HA.out _ HB1.out).mono ?_;rintro e w2 ⟨⟨v,rfl,hown⟩,hb2⟩;obtain⟨Zo,Y0,rfl,hsl⟩:=gV hown;have HSF:=ah hsl;have HB2:=jr HB1 hb2;clear hown hsl hb2 HB1 HA;have HLL:Hid (L.length<=1048576):=XR hLl (by decide);clear hLl;go_wp2_with fail;refine(MN Zo Y0 L _ HLL.out HSF.out HFQ.out).mono ?_;rintro e w3 ⟨⟨v,rfl,hown⟩,hb3⟩;have HB3:=jr HB2 hb3;have Zq:Hid (w3.ownsRow w.heap.size 52 5 v (lc st rs ts).length (av (lc st rs ts))):=by
  show World.ownsRow _ _ _ _ _ _ _;rw[HSL.out,(nk L).length_eq];exact pO hown HB2.out.size
 clear hown hb3;go_wp2;go_ret;exact⟨⟨v,rfl,Zq.out⟩,HB3.out⟩
end
theorem zg{x y:Q04}{f:Fc}(h:∀g∈x,g∈y)(hf:aR x f=true):aR y f=true:=aU.2 (h f (aU.1 hf))
theorem Dy{α:Type}{p q:α->Bool}{xs:List α}(h:∀x,p x=true->q x=true)(ha:xs.any p=true):xs.any q=true:=by
 obtain⟨x,hx,hp⟩:=Yq.1 ha;exact Yq.2 ⟨x,hx,h x hp⟩
theorem qU{l:Q05}{es:Q09}{truth:Q04}{f:Fc}:∀(k:Nat) (x y:Q04) (n:Nat),(∀g∈x,g∈y)->dC l es truth f k x n=true->dC l es truth f k y n=true
 | 0,_,_,_,_,h=>by cases h
 | k+1,x,y,n,hs,h=>by
  unfold dC at h⊢;cases e:es[n]? with
  | none=>rw[e]at h;cases h
  | some q =>
   rw[e]at h;simp only at h⊢;by_cases k1:q.kind=1
   ·rw[if_pos k1]at h⊢;unfold fO at h⊢;refine Dy (fun t ht=>?_) h;simp only[XN]at ht⊢;refine⟨ht.1,?_⟩;have h2:=ht.2;split at h2
    ·rename_i he;rw[if_pos he];exact h2
    rename_i he;rw[if_neg he];exact zg hs h2
   rw[if_neg k1]at h ⊢;by_cases k2:q.kind=2
   ·rw[if_pos k2]at h ⊢;exact zg hs h
   rw[if_neg k2]at h ⊢;by_cases k3:q.kind=3
   ·rw[if_pos k3]at h⊢;unfold gY at h⊢;refine Dy (fun t ht=>?_) h;simp only[XN]at ht⊢;exact⟨ht.1,zg hs ht.2⟩
   rw[if_neg k3]at h ⊢;by_cases k4:q.kind=4
   ·rw[if_pos k4]at h ⊢;exact Dy (fun i hi=>qU k x y _ hs hi) h
   rw[if_neg k4]at h ⊢;by_cases k5:q.kind=5
   ·rw[if_pos k5]at h ⊢;rw[XY]at h ⊢;exact fun i hi=>qU k x y _ hs (h i hi)
   rw[if_neg k5]at h ⊢;by_cases k6:q.kind=6
   ·rw[if_pos k6]at h ⊢;simp only[XN]at h ⊢;exact⟨qU k x y _ hs h.1,h.2⟩
   rw[if_neg k6]at h;cases h
theorem PX{rs:Q06}{ts:Q05}{truth x y:Q04}{f:Fc}(hs:∀g∈x,g∈y)(h:rz rs ts truth x f=true):rz rs ts truth y f=true:=qU _ _ _ _ hs h
section
variable  [DecidableEq Fc]
end
theorem F8(x y:Fc):pI x y=pI y x:=by rw[X9,iU,iU];exact⟨Eq.symm,Eq.symm⟩
theorem J4(ad:Q02)(cap:Nat)(ts:Q04)(t:Fc)(w:ag)(hlen:ts.length<=1048576)(hs:jX w ad ts):
  Calls prog 69 #[.slice ad ts.length cap,.agg #[.string t.a,.string t.b,.string t.r,.string t.c,.string t.d]] w fun e w'=>(∃r:Int,e=.returned (.int .i64 r)/\(r=-1/\aR ts t=false \/ ∃k:Nat,r=(k:Int)/\∃h:k<ts.length,ts[k]=t/\t ∉ ts.take k))/\ae w w':=by
 have HS:=ah hs;clear hs;obtain⟨W0,hW0⟩:=eQx (w.alloc (.cells #[.string t.a,.string t.b,.string t.r,.string t.c,.string t.d] 52));have HB0:=lX hW0;have HX0:Hid (kC W0 w.heap.size t):=by show kC _ _ _;rw[hW0];exact World.alloc_heap_new w _
 go_enter func69,ntmps69;go_wp2_with fail;rw[<-hW0];clear hW0;go_loopw[8] (fun i wr=>∃k:Nat,k<=ts.length/\i=.int .i64 k/\Hid (aR (ts.drop k) t=aR ts t)/\Hid (t ∉ ts.take k)/\Hid (ae W0 wr)) (fun i _=>ts.length-(intOf i).toNat);case atStart=>exact⟨0,XP _,rfl,rfl,by show t ∉ ts.take 0;simp,XL _ _⟩
 obtain⟨k,hk,rfl,HP,ZQ,HB⟩:=hrel;have Y9:Hid (ae w wr):=HB0.out.trans (HB.out.mono HB0.out.size);by_cases hlt:k<ts.length
 ·obtain⟨b,off,YW,⟨t0,t1,t2,t3,t4⟩,hb⟩:=jX.at0 (HS.out.below Y9.out) hlt;obtain⟨x0,x1,x2,x3,x4,xl⟩:=(HX0.out.bel HB.out).c;have hk1:=bG k;have hk2:(k:Int)<(ts.length:Int):=by omega
  have HD:Hid (aR ts t=(pI ts[k] t || aR (ts.drop (k+1)) t)):=by show _=_;rw[<-HP.out];exact yQ hlt
  subst YW;cases hq:pI ts[k] t;case true=>
   have heq:=r9 t ts[k] (v:=true) (by rw[F8];exact hq);have HTK:Hid (ts[k]=t):=iU.1 hq;clear hq;go_wp2_with fail;go_quiet (fail);clear t0 t1 t2 t3 t4 x0 x1 x2 x3 x4 heq;go_wp2;go_ret;exact⟨⟨k,rfl,.inr ⟨k,rfl,hlt,HTK.out,ZQ.out⟩⟩,below_drewN Y9.out _⟩
  have heq:=r9 t ts[k] (v:=false) (by rw[F8];exact hq);have Zc:Hid (aR (ts.drop (k+1)) t=aR ts t):=by show _=_;rw[HD.out,hq];rfl
  have HNO2:Hid (t ∉ ts.take (k+1)):=fun hm=>by
   rw[XM hlt]at hm;rcases XV.1 hm with hm|hm
   ·exact ZQ.out hm
   rw[<-XX.1 hm,iU.2 rfl]at hq;cases hq
  clear hq;go_wp2_with fail;go_quiet (fail);clear t0 t1 t2 t3 t4 x0 x1 x2 x3 x4 heq;go_wp2;go_roundw;case rel=>exact⟨k+1,by omega,by go_num,Zc,HNO2,below_drewN HB.out _⟩
  simp[intOf]<;>omega
 have HN:Hid (aR ts t=false):=by show _=_;rw[<-HP.out,Ya (by omega)];rfl
 go_wp2;go_ret;exact⟨⟨-1,rfl,.inl ⟨rfl,HN.out⟩⟩,Y9.out⟩
section
variable  [DecidableEq Fc]
def x8(st:Q00)(rs:Q06)(ts:Q05)(L:Q04):Bool:=((aQ (fU rs) rs ts&&decide (1<=L.length))&&decide (L.length<=200))&&oQ rs ts (aA st rs ts) L L.length
theorem rf(st:Q00)(ad:Q02)(cap:Nat)(rs:Q06)(Y8:Q02)(cap':Nat)(ts:Q05)(Zo:Q02)(Y0:Nat)(L:Q04)(w:ag)(hlen:rs.length<=1048576)(hs:kI w ad rs)(hl:∀r∈rs,r.light)(hfr:∀r∈rs,r.fits)(hcp:∀r∈rs,r.caps)(hlt:ts.length<=1048576)(hst:Sl w Y8 ts)(hft:∀x∈ts,x.fits)(hLl:L.length<=1048576)(hL:jX w Zo L)(hLf:∀x∈L,x.fits)(hle:aN (ai rs)=true->Least (ai rs) st):
  Calls prog 21 #[.slice ad rs.length cap,.slice Y8 ts.length cap',.slice Zo L.length Y0] w fun e w'=>e=.returned (.bool (x8 st rs ts L))/\ae w w':=by
 have HPC:=ah (Hw st ad cap rs Y8 cap' ts w hlen hs hl hfr hcp hlt hst hft hle);have HS:=ah hs;have HL:=ah hL;have HLF:=ah hLf;have Zd:=ah hft;have hmm:=@run_makeMap prog;clear hs hl hfr hcp hst hft hle hL hLf;go_enter func21,ntmps21;go_wp2_with fail;refine HPC.out.mono ?_;rintro e w1 ⟨hb1,⟨hr,rfl⟩|⟨hr,P,D,br,bp,bt,nr,np,n1,Mr,Er,Mp,vo,vu,ZG,Za,bK,nK,rfl,hP,hD⟩⟩
 ·have HN:Hid (x8 st rs ts L=false):=by show _=_;unfold x8;rw[hr];rfl
  have HB1:=ah hb1;clear hb1 hr HPC;go_wp2;go_ret;exact⟨by rw[HN.out];rfl,HB1.out⟩
 have HB1:=ah hb1;have HS1:=ah (HS.out.below hb1);have HL1:=ah (HL.out.below hb1);have HP:=ah hP;have HD:=ah hD;have hsd:aN (ai rs)=true/\ts.length<=40:=by
  have hr2:=hr;unfold aQ dW at hr2;simp only[XN,XU]at hr2;exact⟨hr2.1.1,hr2.1.2.1⟩
 have HSH:=ah (bf.1 hsd.1).1;have ht40:=hsd.2;have HR1:=ah hr;clear hb1 hr HPC hP hD hsd HS HL;by_cases h1:1<=L.length
 ·have hd1:¬((L.length:Int)<1):=by omega
  by_cases h2:L.length<=200
  ·have hd2:¬((200:Int)<(L.length:Int)):=by omega
   have HE:Hid (x8 st rs ts L=oQ rs ts (aA st rs ts) L L.length):=by show _=_;unfold x8;rw[HR1.out,decide_eq_true h1,decide_eq_true h2];rfl
   obtain⟨W0,hW0⟩:=eQx (w1.alloc (.map #[] 0));have HB0:=lX hW0;have HV0:Hid (aL dM prog 52 W0 w1.heap.size 0 (vV (L.take 0))):=by
    have h:=jL dM prog 52 w1;show aL _ _ _ _ _ _ _;rw[hW0];exact h
   have hz0:w1.heap.size<W0.heap.size:=by rw[hW0];simp
   obtain⟨Q,hQ⟩:=eQx (aA st rs ts);rw[<-hQ]at HE HP;clear h1 hQ;go_wp2_with fail;rw[<-hW0];clear hW0 hmm;go_loopw[33] (fun i wr=>∃k:Nat,k<=L.length/\i=.int .i64 k/\Hid (oQ rs ts Q L k=true)/\Hid (aL dM prog 52 wr w1.heap.size k (vV (L.take k)))/\Hid (ae w1 wr)/\Hid (w1.heap.size<wr.heap.size)) (fun i _=>L.length-(intOf i).toNat);case atStart=>exact⟨0,XP _,rfl,rfl,HV0,HB0,hz0⟩
   clear HV0 HB0 hz0;obtain⟨k,hk,rfl,HPK,HV,HB,HZ⟩:=hrel;by_cases hlk:k<L.length
   ·obtain⟨b,off,YW,⟨t0,t1,t2,t3,t4⟩,hbl⟩:=jX.at0 (HL1.out.below HB.out) hlk;have hi1:=bG k;have hi2:(k:Int)<(L.length:Int):=by omega
    have HT:Hid (L.take (k+1)=L.take k++[L[k]]):=XM hlk;have HSU:=ah (F5 rs ts Q hlk);have HHI:Hid ((okB L[k]&&rz rs ts Q (L.take k) L[k])=false->oQ rs ts Q L L.length=false):=JW rs ts Q hlk;have HXF:=ah (HLF.out _ (XI hlk));obtain⟨kl,hkl⟩:=lN L[k] HXF.out;obtain⟨x,hx⟩:=eQx (L[k]);rw[<-hx]at t0 t1 t2 t3 t4 HT hkl HSU HHI HXF;have ZY:=ah hkl;clear hx hkl;obtain⟨W1,hW1⟩:=eQx (wr.alloc (.cells #[.string x.a,.string x.b,.string x.r,.string x.c,.string x.d] 52));have ZF:=lX hW1;have HC1:Hid (W1.cell? ⟨wr.heap.size,0,none⟩=some (.string x.a)/\W1.cell? ⟨wr.heap.size,1,none⟩=some (.string x.b)/\W1.cell? ⟨wr.heap.size,2,none⟩=some (.string x.r)/\W1.cell? ⟨wr.heap.size,3,none⟩=some (.string x.c)/\W1.cell? ⟨wr.heap.size,4,none⟩=some (.string x.d)/\ae wr W1):=by
     refine⟨?_,?_,?_,?_,?_,ZF.out⟩<;>rw[hW1]<;>simp
    have Z8:=ah (MF x W1 HXF.out);subst YW;go_wp2_with fail;rw[<-hW1];clear hW1 t0 t1 t2 t3 t4;refine Z8.out.mono ?_;rintro e w2 ⟨rfl,hb2⟩;have ZM:=ah (vY HC1.out hb2);clear hb2 Z8 HC1 ZF;have HB2:=ah (HB.out.trans (ZM.out.2.2.2.2.2.mono HB.out.size));cases hq:okB x;case false=>
     rw[hq]at HHI;have HN:=ah (HHI.out rfl);have HBE:Hid (ae w w2):=HB1.out.trans (HB2.out.mono HB1.out.size);go_wp2;go_ret;exact⟨by rw[HE.out,HN.out];rfl,HBE.out⟩
    rw[hq]at HHI HSU;have HRU:=ah (Dw (f:=x) (HP.out.below HB2.out) (HD.out.below HB2.out) HXF.out Zd.out (by omega) HSH.out (HS1.out.below HB2.out));obtain⟨c0,c1,c2,c3,c4,-⟩:=ZM.out;clear hq;go_wp2_with fail;refine HRU.out.mono ?_;rintro e w3 ⟨⟨v,n,rfl,hru,-⟩,hb3⟩;have HC3:=ah (vY ZM.out hb3);have HB3:=ah (HB2.out.trans (hb3.mono HB2.out.size));have hV3:=HV.out.below HC3.out.2.2.2.2.2;obtain⟨T,a,rfl,hkd⟩:=hru.kind;have hm:=xY hkd;have HRUN:=ah (AX hkd);have HFC:=ah (JX hru (U1 hV3));have HV3:=ah hV3;clear hru hb3 hkd hV3 HRU c0 c1 c2 c3 c4 ZM;go_wp2_with fail;rw[HRUN.out,Oper.upon_enter];refine HFC.out.mono ?_;rintro e w4 ⟨rfl,hb4⟩;rw[pX];have HC4:=ah (vY HC3.out hb4);have Z7:=ah (HB3.out.trans (hb4.mono HB3.out.size));have HV4:=ah (HV3.out.below hb4);obtain⟨v,hv⟩:∃v,rz rs ts Q (L.take k) x=v:=⟨_,rfl⟩;rw[hv]at HSU HHI ⊢;clear hb4 hm HRUN HFC HV3 HC3 hv;cases v;case false=>
     have HN:=ah (HHI.out rfl);have HBE:Hid (ae w w4):=HB1.out.trans (Z7.out.mono HB1.out.size);go_wp2;go_ret;exact⟨by rw[HE.out,HN.out];rfl,HBE.out⟩
    have Zc:Hid (oQ rs ts Q L (k+1)=true):=by show _=_;rw[HSU.out,HPK.out];rfl
    obtain⟨c0,c1,c2,c3,c4,-⟩:=HC4.out;have hz4:w1.heap.size<w4.heap.size:=XJ HZ.out HC4.out.2.2.2.2.2.size;go_wp2_with(at_mapUpdate;refine jw _ rfl _ _ _ 115 rfl 52 107 oO nM underlying115 w1.heap.size k _ rfl HV4.out (by unfold maxLen;omega) x kl rfl ZY.out (.agg #[]) rfl ?_);intro w5 hM5 hg5;have HV5:Hid (aL dM prog 52 w5 w1.heap.size (k+1) (vV (L.take (k+1)))):=by show aL _ _ _ _ _ _ _;rw[HT.out,<-He];exact hM5
    have HB5:Hid (ae w1 w5):=Z7.out.grown hg5 Z7.out.size (fun g hg=>by injection hg with hg;omega);have HZ5:Hid (w1.heap.size<w5.heap.size):=XJ hz4 hg5.size;clear hM5 hg5 c0 c1 c2 c3 c4;go_wp2;go_roundw;case rel=>exact⟨k+1,by omega,by go_num,Zc,HV5,HB5,HZ5⟩
    simp[intOf]<;>omega
   have HEE:Hid (x8 st rs ts L=true):=by
    have e:k=L.length:=by omega
    show _=_;rw[HE.out,<-e];exact HPK.out
   have HBE:Hid (ae w wr):=HB1.out.trans (HB.out.mono HB1.out.size);go_wp2;go_ret;exact⟨by rw[HEE.out];rfl,HBE.out⟩
  have hd2:(200:Int)<(L.length:Int):=by omega
  have HN:Hid (x8 st rs ts L=false):=by show _=_;unfold x8;rw[decide_eq_false h2];simp
  clear hmm;go_wp2;go_ret;exact⟨by rw[HN.out];rfl,HB1.out⟩
 have hd1:(L.length:Int)<1:=by omega
 have HN:Hid (x8 st rs ts L=false):=by show _=_;unfold x8;rw[decide_eq_false h1];simp
 clear hmm;go_wp2;go_ret;exact⟨by rw[HN.out];rfl,HB1.out⟩
end
end Go.Proofs.YtojjoblnpldniaaGreat
