/- The library's SortFunc over a row of facts: the same facts, each no higher than those behind it. -/
import Derived.Test.YtojjoblnpldniaaGreatSq
import Derived.Test.YtojjoblnpldniaaGreatShelfS
import Derived.Test.YtojjoblnpldniaaGreatJ16
open Go.Proofs.Tryz
set_option maxHeartbeats 80000000
set_option linter.defProp false
namespace Go.Proofs.YtojjoblnpldniaaGreat
set_option maxRecDepth 100000
set_option linter.unusedVariables false
open ChangeShapes WideShapes ChangeAt RowKit Maps Go.Shelf Go.Sort
open Pl
def sW(f:Fc)(w:ag):
  Calls prog 140 #[.agg (cf f)] w fun e w'=>e=.returned (.agg #[.string f.a,.string f.b,.string f.r,.string f.c,.string f.d,.string ⟨#[]⟩])/\BelowD w.heap.size w w':=by
 go_enter func140,ntmps140;go_wp2;exact bodyPost_ret (v:=.agg #[.string f.a,.string f.b,.string f.r,.string f.c,.string f.d,.string ⟨#[]⟩]) (by simp[results,Tryz.results140,go_sem, *]) rfl ⟨rfl,⟨by
  repeat(first|exact XL _ _|refine Below.setCell ?_ (by first|(simp;done)|(simp;omega)) _|refine Below.alloc ?_ (by first|(simp;done)|(simp;omega)) _),XK _⟩⟩
def U3(x y:Fc):Int:=KP x.a x.b x.r x.c x.d ⟨#[]⟩ y.a y.b y.r y.c y.d ⟨#[]⟩
def U4{w W w':ag}{n m:Nat}{x0 x1 x2 x3 x4 y0 y1 y2 y3 y4:Value}(h:W.cell? (am n)=some x0/\W.cell? (ap n 1)=some x1/\W.cell? (ap n 2)=some x2/\W.cell? (ap n 3)=some x3/\W.cell? (ap n 4)=some x4/\W.cell? (am m)=some y0/\W.cell? (ap m 1)=some y1/\W.cell? (ap m 2)=some y2/\W.cell? (ap m 3)=some y3/\W.cell? (ap m 4)=some y4/\BelowD w.heap.size w W)(hb:BelowD W.heap.size W w'):w'.cell? (am n)=some x0/\w'.cell? (ap n 1)=some x1/\w'.cell? (ap n 2)=some x2/\w'.cell? (ap n 3)=some x3/\w'.cell? (ap n 4)=some x4/\w'.cell? (am m)=some y0/\w'.cell? (ap m 1)=some y1/\w'.cell? (ap m 2)=some y2/\w'.cell? (ap m 3)=some y3/\w'.cell? (ap m 4)=some y4/\BelowD w.heap.size w w':=by
 obtain⟨h0,h1,h2,h3,h4,g0,g1,g2,g3,g4,hB⟩:=h;exact⟨az hb.b (ax h0) h0,az hb.b (ax h1) h1,az hb.b (ax h2) h2,az hb.b (ax h3) h3,az hb.b (ax h4) h4,az hb.b (ax g0) g0,az hb.b (ax g1) g1,az hb.b (ax g2) g2,az hb.b (ax g3) g3,az hb.b (ax g4) g4,hB.trans<|hb.mono hB.size⟩
def zf(x y:Fc)(w:ag)(hx:x.fits)(hy:y.fits):
  Calls prog 58 #[.agg #[.string x.a,.string x.b,.string x.r,.string x.c,.string x.d],.agg #[.string y.a,.string y.b,.string y.r,.string y.c,.string y.d]] w fun e w'=>e=.returned (.int .i64<|U3 x y)/\BelowD w.heap.size w w':=by
 have he0:(⟨#[]⟩:ByteArray).size<=maxLen:=cv;obtain⟨x0,x1,x2,x3,x4⟩:=hx;obtain⟨y0,y1,y2,y3,y4⟩:=hy;obtain⟨W0,hW0⟩:=eQx<|(w.alloc<|.cells #[.string x.a,.string x.b,.string x.r,.string x.c,.string x.d] 52).alloc<|.cells #[.string y.a,.string y.b,.string y.r,.string y.c,.string y.d] 52;have HB0:BelowD w.heap.size w W0:=by rw[hW0];exact Ns _ _ _
 have c0:W0.cell? ⟨w.heap.size,0,none⟩=some (.string x.a):=by rw[hW0];simp
 have c1:W0.cell? ⟨w.heap.size,1,none⟩=some (.string x.b):=by rw[hW0];simp
 have c2:W0.cell? ⟨w.heap.size,2,none⟩=some (.string x.r):=by rw[hW0];simp
 have c3:W0.cell? ⟨w.heap.size,3,none⟩=some (.string x.c):=by rw[hW0];simp
 have c4:W0.cell? ⟨w.heap.size,4,none⟩=some (.string x.d):=by rw[hW0];simp
 have e0:W0.cell? ⟨w.heap.size+1,0,none⟩=some (.string y.a):=by rw[hW0];simp
 have e1:W0.cell? ⟨w.heap.size+1,1,none⟩=some (.string y.b):=by rw[hW0];simp
 have e2:W0.cell? ⟨w.heap.size+1,2,none⟩=some (.string y.r):=by rw[hW0];simp
 have e3:W0.cell? ⟨w.heap.size+1,3,none⟩=some (.string y.c):=by rw[hW0];simp
 have e4:W0.cell? ⟨w.heap.size+1,4,none⟩=some (.string y.d):=by rw[hW0];simp
 unfold U3;go_enter func58,ntmps58;go_wp2_with fail;rw[<-hW0];clear hW0
 go_region_held3 (fun w'=>w'.cell? ⟨w.heap.size,0,none⟩=some (.string x.a)/\w'.cell? ⟨w.heap.size,1,none⟩=some (.string x.b)/\w'.cell? ⟨w.heap.size,2,none⟩=some (.string x.r)/\w'.cell? ⟨w.heap.size,3,none⟩=some (.string x.c)/\w'.cell? ⟨w.heap.size,4,none⟩=some (.string x.d)/\w'.cell? ⟨w.heap.size+1,0,none⟩=some (.string y.a)/\w'.cell? ⟨w.heap.size+1,1,none⟩=some (.string y.b)/\w'.cell? ⟨w.heap.size+1,2,none⟩=some (.string y.r)/\w'.cell? ⟨w.heap.size+1,3,none⟩=some (.string y.c)/\w'.cell? ⟨w.heap.size+1,4,none⟩=some (.string y.d)/\BelowD w.heap.size w w')
  (first|assumption|exact U4 cE hbx|exact⟨c0,c1,c2,c3,c4,e0,e1,e2,e3,e4,HB0.drew⟩)
  (first|(go_at_call_of 140 (Value.agg #[.string x.a,.string x.b,.string x.r,.string x.c,.string x.d]);refine(sW x _).mono ?_;rintro e w' ⟨rfl,hbx⟩)|(go_at_call_of 140 (Value.agg #[.string y.a,.string y.b,.string y.r,.string y.c,.string y.d]);refine(sW y _).mono ?_;rintro e w' ⟨rfl,hbx⟩)|(go_at_call 139;refine(vX x.a x.b x.r x.c x.d ⟨#[]⟩ y.a y.b y.r y.c y.d ⟨#[]⟩ _ x0 x1 x2 x3 x4 he0 y0 y1 y2 y3 y4 he0).mono ?_;rintro e w' ⟨rfl,hbx⟩))
 all_goals(rename_i hJ;obtain⟨-,-,-,-,-,-,-,-,-,-,gB⟩:=hJ;clear c0 c1 c2 c3 c4 e0 e1 e2 e3 e4;go_wp2;go_ret;exact⟨rfl,gB⟩)
abbrev ND:={ f:Fc // f.fits }
def pY(x:ND):List Value:=x.1.row
def XC(x y:ND):Int:=U3 x.1 y.1
def U5(x:Fc):List UInt8:=(bC x.a x.b x.r x.c x.d ⟨#[]⟩).toList
def Vx(x y:ND):Bool:=Op.bytesLess (U5 x.1)<|U5 y.1
def Tw:ltOf XC=Vx:=by
 funext x y
 unfold ltOf XC Vx U3 KP U5;rw[wU,Go.ByteArray.toList_eq,Go.ByteArray.toList_eq]
def U6:Go.Sort.SWO Vx where
 irrefl x:=Ls.lt_irrefl _
 trans x y z h k:=Ls.lt_trans _ _ _ h k
 ntrans x y z h k:=by
  cases e:Vx x z;case false=>rfl
  by_cases e1:U5 y.1=U5 x.1
  ·unfold Vx at *;rw[e1]at k;rw[k]at e;cases e
  rcases Ls.lt_total _ _ e1 with h1|h1
  ·have:Vx y z=true:=Ls.lt_trans _ _ _ h1 e;rw[k]at this;cases this
  have h:Vx x y=false:=h;have h1:Vx x y=true:=h1;rw[h]at h1;cases h1
def Tx[Inhabited ND](blk off size:Nat)(w:ag):CmpLays prog 58 #[] pY 5 XC blk off size w:=fun m os dk _ x y =>
 (zf x.1 y.1 _ x.2 y.2).mono fun e w' ⟨he,hb⟩=>⟨he,hb.grew⟩
def mq(xs:List ND):List Fc:=xs.map (·.1)
def mV(xs:List ND):(mq xs).length=xs.length:=by simp[mq]
def PT[Inhabited ND](w:ag)(blk off n:Nat)(d:Array ND)(os:Array Obj):Chg (fun g=>g=blk) w (sortWorldK pY 5 w blk off n d os):=by
 refine⟨⟨rfl,rfl,rfl,?_,fun k hk=>absurd hk<|YG _⟩,fun k hk hne=>?_,fun g hg hf j=>?_⟩
 ·simp[sortWorldK,grow,putRowK,Sort.ahead]
 ·simp only[sortWorldK,putRowK];rw[heap_grow_old _ _ (by simpa[Sort.ahead] using hk)];have hne:blk≠k:=fun e=>hne e.symm;simp[putRow,mapBlock,Sort.ahead,Array.getElem?_modify,hne]
 simp only[sortWorldK,putRowK];rw[frozen?_grow _ _ _ (by simpa[Sort.ahead] using hg),frozen?_putRow,frozen?_ahead];exact hf j
def NE[Inhabited ND]{w:ag}{base g cap:Nat}{xs:List ND}(h:w.ownsRow base 52 5 (.slice (some<|am g) xs.length cap) xs.length<|av<|mq xs):HoldsK pY 5 w g 0 xs.toArray:=by
 intro t ht;rw[size_flatK]at ht;have ht':t<xs.length*5:=by simpa using ht
 have hi:t / 5<xs.length:=cq;have hr:t%5<5:=Nat.mod_lt _ cq;refine⟨?_,by rw[Yg];exact h.frozenAt t⟩;rw[Yg,h.cellAt t ht',get_flatK _ _ _ _ ht];have e:t=t / 5*5+t%5:=cq
 have h1:=lQ (mq xs) (t / 5) (by rw[mV];exact hi) (t%5) hr;rw[<-e]at h1;rw[h1];have h2:(xs.toArray)[t / 5]! = xs[t / 5]:=by rw[getElem!_pos xs.toArray _ (by simpa using hi)];simp
 rw[h2];have h3:(mq xs)[t / 5]'(by rw[mV];exact hi)=xs[t / 5].1:=by simp[mq]
 rw[h3];have hl:t%5<(Fc.row xs[t / 5].1).length:=hr;show _=some ((Fc.row xs[t / 5].1)[t%5]!);rw[XQ hl,getElem!_pos (Fc.row xs[t / 5].1) (t%5) hl]
def Xy[Inhabited ND]{w:ag}{base g n cap:Nat}{xs ys:List ND}(h0:w.ownsRow base 52 5 (.slice (some<|am g) n cap) n<|av<|mq xs)(hx:xs.length=n)(hl:ys.length=n)(m:Nat)(os:Array Obj):(sortWorldK pY 5 w g 0 m ys.toArray os).ownsRow base 52 5 (.slice (some<|am g) n cap) n (av<|mq ys):=by
 subst hx;have hg:=(h0.lt g rfl).2;have hH:=holdsK_sortWorldK_c pY 5 w g 0 xs.toArray ys.toArray m os (NE h0) hg (by simpa using hl);have hlen:(av<|mq ys).length=xs.length*5:=by rw[fe,mV,hl]
 refine⟨hlen,.inr ?_⟩;rcases h0.2 with⟨e,-⟩|⟨g',cap',cur,e,h1,h2,h3,h4,h5,-⟩
 ·cases e
 injection e with e1 e2 e3;injection e1 with e1;injection e1 with e1;subst e1;subst e3;have hb:(sortWorldK pY 5 w g 0 m ys.toArray os).heap[g]?=some (.cells (putCells id 0 (flatK pY 5 ys.toArray) cur) 52 (0,0)):=by
  simp only[sortWorldK,putRowK];rw[heap_grow_old _ _ (by simpa[Sort.ahead] using hg)];simp[putRow,mapBlock,Sort.ahead,Array.getElem?_modify,h2,onCells]
 refine⟨g,cap,_,rfl,h1,hb,h3,h4,by simp only[putCells,Array.size_mapIdx];exact h5,?_⟩;refine List.ext_getElem? fun j=>?_;by_cases hj:j<xs.length*5
 ·rw[List.getElem?_take_of_lt hj];have hi:j / 5<ys.length:=cq;have h6:=(hH j<|by rw[size_flatK];simpa[hl] using hj).1;rw[Yg,get_flatK _ _ _ _<|by simpa[hl] using hj]at h6;replace h6:ac (sortWorldK pY 5 w g 0 m ys.toArray os) g j ((pY (ys.toArray)[j / 5]!)[j%5]!):=h6;have h7:(putCells id 0 (flatK pY 5 ys.toArray) cur).toList[j]?=some ((pY (ys.toArray)[j / 5]!)[j%5]!):=by
   rw[<-h6];simp[World.cell?,hb]
  rw[h7];have e:j=j / 5*5+j%5:=cq;have h8:=lQ (mq ys) (j / 5) (by rw[mV];exact hi) (j%5) (Nat.mod_lt _ cq);rw[<-e]at h8;rw[h8];have h9:(ys.toArray)[j / 5]! = ys[j / 5]:=by rw[getElem!_pos ys.toArray _ (by simpa using hi)];simp
  have h10:(mq ys)[j / 5]'(by rw[mV];exact hi)=ys[j / 5].1:=by simp[mq]
  rw[h9,h10];have hl2:j%5<(Fc.row ys[j / 5].1).length:=Nat.mod_lt _ cq;show some ((Fc.row ys[j / 5].1)[j%5]!)=_;rw[XQ hl2,getElem!_pos (Fc.row ys[j / 5].1) (j%5) hl2]
 rw[List.getElem?_eq_none (by rw[Yc];omega),List.getElem?_eq_none cq]
def PU(base g cap:Nat)(fs:Q04)(w:ag)(hf:∀f∈fs,f.fits)(hR:w.ownsRow base 52 5 (.slice (some<|am g) fs.length cap) fs.length<|av fs)(hne:fs≠[])(h6:fs.length<=200000):
  Calls prog 57 #[.slice (some<|am g) fs.length cap,.func (.func 58) #[] #[]] w fun e w'=>e=.returned (.tuple #[])/\∃ys:List Fc,ys.Perm fs/\ys.Pairwise (fun x y=>Op.bytesLess (U5 y) (U5 x)=false)/\w'.ownsRow base 52 5 (.slice (some<|am g) fs.length cap) fs.length (av ys)/\Chg (fun k=>k=g) w w':=by
 obtain⟨xs,hxs⟩:∃xs:List ND,mq xs=fs:=⟨fs.attach.map fun x=>⟨x.1,hf x.1 x.2⟩,by unfold mq;rw[List.map_map];simp[Function.comp_def]⟩;subst hxs;rw[mV]at hR h6 ⊢;cases xs with
 | nil=>exact absurd rfl hne
 | cons x0 xs0 =>
  letI:Inhabited ND:=⟨x0⟩
  have hg:=hR.lt g rfl;have eg:∀args w,(callFunc 58 args).run prog w=.ok (.enter 58 args) w:=enters_of func58 cw rfl;have hs:=AnyQ.slices_SortFunc Tryz.sortF 5 Tryz.isAgg52 Tryz.sizeOf52 pY (fun _=>rfl) (fun x v hv=>by simp[pY,Fc.row]at hv;rcases hv with rfl|rfl|rfl|rfl|rfl<;>rfl) XC (by rw[Tw];exact U6) 58 #[] g 0 cap (x0::xs0).toArray w eg (Tx g 0 _ w) (NE hR) hg.2 (by simp at h6⊢;omega)
  change Calls prog 57 _ _ _ at hs
  rw[Tw]at hs;refine hs.mono fun e w' ⟨he,d',n,os,hp,hso,hw⟩=>⟨he,mq d'.toList,?_,?_,?_,?_⟩
  ·have:=hp.2.2;have h2:d'.toList.Perm (x0::xs0):=by simpa[Array.extract_eq_self_of_le,hp.1] using this
   exact h2.map _
  ·have hz:d'.size=xs0.length+1:=by simpa using hp.1
   unfold mq;rw[List.pairwise_map,List.pairwise_iff_getElem];intro i j hi hj hij;have hi2:i<d'.size:=by simpa using hi
   have hj2:j<d'.size:=by simpa using hj
   have hlt:=hso i j (XP _) hij (by rw[hz]at hj2;simpa using hj2);rw[getElem!_pos d' j hj2,getElem!_pos d' i hi2]at hlt;exact hlt
  ·rw[hw];have hz:d'.toList.length=(x0::xs0).length:=by simpa using hp.1
   have:=Xy hR rfl hz n os;simpa using this
  rw[hw];exact PT w g 0 n d' os
def JY(p:Q02)(cap:Nat)(fv:Value)(w:ag):
  Calls prog 206 #[.slice p 0 cap,.int .i64 0,.int .i64 0,fv] w (bh w<|.tuple #[]):=by
 go_enter func206,ntmps206;go_wp2_with fail;go_loopw[8] (fun i wr=>i=.int .i64 1/\wr=w) (fun _ _=>0);case atStart=>exact⟨rfl,rfl⟩
 obtain⟨rfl,rfl⟩:=hrel;go_wp2
 go_end0
 exact⟨rfl,rfl⟩
def Tz(p:Q02)(cap:Nat)(lim:Int)(fv:Value)(w:ag):
  Calls prog 137 #[.slice p 0 cap,.int .i64 0,.int .i64 0,.int .i64 lim,fv] w (bh w<|.tuple #[]):=by
 go_enter func137,ntmps137;go_wp2_with fail;go_loopw[1,2] (fun a b wr=>a=.int .i64 0/\b=.int .i64 0/\wr=w) (fun _ _ _=>0);case atStart=>exact⟨rfl,rfl,rfl⟩
 obtain⟨rfl,rfl,rfl⟩:=hrel;go_wp2_with fail;refine(JY p cap fv _).mono ?_;rintro e w1 ⟨rfl,rfl⟩;go_wp2;refine bodyPost_ret (results_none rfl _ _ _) rfl ?_;exact⟨rfl,rfl⟩
def PV(p:Q02)(cap:Nat)(fv:Value)(w:ag):
  Calls prog 57 #[.slice p 0 cap,fv] w (bh w<|.tuple #[]):=by
 go_enter func57,ntmps57;go_wp2_with fail;refine(Tryz.bits_Len 0 _ cq cq).mono ?_;rintro e w1 ⟨rfl,rfl⟩;go_wp2_with fail;refine(Tz p cap _ fv _).mono ?_;rintro e w1 ⟨rfl,rfl⟩;go_wp2
 go_end0
 exact⟨rfl,rfl⟩
set_option linter.unusedSectionVars false
section
variable  [DecidableEq Fc]
def JZ(L0:Q04)(w:World)(e:Ending)(w':World):Prop:=(∃(L:Q04) (v:Value),e=.returned v/\L.Perm L0/\L.Pairwise (fun x y=>Op.bytesLess (U5 y) (U5 x)=false)/\w'.ownsRow w.heap.size 52 5 v L.length (av L))/\ae w w'
def Ei(st:Q00)(ad:Q02)(cap:Nat)(rs:Q06)(Y8:Q02)(cap':Nat)(ts:Q05)(w:ag)(hlen:a7 rs)(hs:kI w ad rs)(hl:∀r∈rs,r.light)(hfr:∀r∈rs,r.fits)(hcp:∀r∈rs,r.caps)(hlt:a7 ts)(hst:Sl w Y8 ts)(hft:∀x∈ts,x.fits)(hle:aN (ai rs)=true->Least (ai rs) st):
  Calls prog 11 #[.slice ad rs.length cap,.slice Y8 ts.length cap'] w (JZ (aA st rs ts) w):=by
 have HC:=ah<|CB (fU rs) ad cap rs Y8 cap' ts w hlen hs hl hfr (xR ad cap rs w hlen hs hl hfr hcp) (fun h t ht=>yZ h ht) hlt hst hft;have HS:=ah hs;have Zd:=ah hft;have HFR:=ah hfr;have ZH:=ah hle;clear hs hl hfr hcp hst hft hle;go_enter func11,ntmps11;go_wp2_with fail;refine HC.mono ?_;rintro e w1 ⟨hb1,⟨hr,rfl⟩|⟨hr,D,br,bp,bt,nr,np,Mr,Mp,vo,vu,f,rfl,hbt,hLf,hDA⟩⟩
 ·have HP:O (JZ (aA st rs ts) w (.returned<|.slice none 0 0) w1):=⟨⟨[],_,rfl,by rw[fV hr],List.Pairwise.nil,World.ownsRow_nil _ _ _ _⟩,hb1⟩;clear hb1 HC hr;go_wp2;go_ret;exact HP
 have hsd:aN (ai rs)=true/\ts.length<=40:=by
  unfold aQ dW at hr;simp only[XN,XU]at hr;exact⟨hr.1.1,hr.1.2.1⟩
 obtain⟨hsd,ht40⟩:=hsd;have hSP:=bf.1 hsd;obtain⟨h6,hr6,-⟩:=bI hSP.1;have hE36:=xB h6 hr6;have hfk:∀k∈ay (ai rs),f k+1<=(ay<|ai rs).length:=fun k hk=>by
  obtain⟨g,hg,hb⟩:=hLf.sol.few<|lK hSP.2.1;have h1:=hLf.low k hk g hg;have h2:=hb k hk;omega
 have hc0:0<=ig (dP f rs):=(xS (dP f rs) 0).1;have hcl:ig (dP f rs)<=(ay<|ai rs).length:=Hl _ _ _ cq fun x hx=>by
  obtain⟨k,hk,e,-⟩:=SF hx;rw[e];exact hfk k hk
 obtain⟨N,hN⟩:∃N:Nat,ig (dP f rs)=N:=⟨(ig<|dP f rs).toNat,cq⟩;have hkN:∀k∈ay (ai rs),f k<(N:Int):=fun k hk=>by
  obtain⟨x,hx,e⟩:=Nw (f:=f) hk;have h2:=(xS (dP f rs) 0).2 x hx;have h3:x.1.2+1<=ig (dP f rs):=h2;rw[e,hN]at h3;omega
 have hLs:iV (ai rs) ts f (fA ts) (dA ts) N=aA st rs ts:=by
  rw[dZ hr];unfold qL;rw[<-uf (fun k hk=>hLf.same (ZH hsd) k hk)];exact(Fg hkN _ cq).symm
 rw [hN]at hDA;have Z8:=ah (FV w1 rs ad D br bp bt N nr Mr f ts (fA ts) (dA ts) np Mp vo vu hDA (HS.below hb1) cq (by have:=kY ts;omega) (by have:=jI ts;omega) hE36 (fun k=>by
  have:(G.lookL (dP f rs) k).length<=(dP f rs).length:=YM _ _;rw[Ny]at this;omega) hSP.1 Zd cq (ik Zd) (gy Zd) (mU HFR))
 rw[hLs]at Z8;have hGO:=kw f rs ts (fA ts) (dA ts) N;rw[hLs]at hGO;have HB1:=ah hb1;have hll:=hGO.len (by have:=kY ts;omega) hE36 (by have:=jI ts;omega);have HFF:O (∀x∈aA st rs ts,x.fits):=fun x hx=>by
  have h1:=hGO.sub x hx;unfold Aj at h1;obtain⟨o,ho,h1⟩:=XZ.1 h1;obtain⟨k,hk,h1⟩:=XZ.1 h1;obtain⟨u,hu,rfl⟩:=XW.1 h1;exact⟨(ik Zd o ho).1,(ik Zd o ho).2,mU HFR k hk,(gy Zd u hu).1,(gy Zd u hu).2⟩
 obtain⟨L0,hL0⟩:=eQx<|aA st rs ts;rw[<-hL0]at Z8 hll HFF;have HL0:=ah hL0;clear HC hb1 hDA hLf hfk hc0 hcl hN hkN hLs hGO hSP hsd h6 hr6 hE36 hr hbt hL0;go_wp2_with fail;refine Z8.mono ?_;rintro e w2 ⟨⟨v,rfl,hown⟩,hb2⟩;have HB2:=ah<|HB1.trans<|hb2.mono HB1.size;have YZ:=ah<|bW hown HB1.size;clear Z8 hown hb2 HB1;cases L0 with
 | nil =>
  obtain⟨ZG,Za,rfl,-⟩:=gV YZ;have HSN:=ah<|PV ZG Za (.func (.func 58) #[] #[]) w2;have HP:O (JZ [] w (.returned<|.slice ZG 0 Za) w2):=⟨⟨[],_,rfl,List.Perm.refl _,List.Pairwise.nil,YZ⟩,HB2⟩;clear YZ HB2;go_wp2_with fail;refine HSN.mono ?_;rintro e w3 ⟨rfl,rfl⟩;go_wp2;go_ret;rw[<-HL0];exact HP
 | cons x0 xs0 =>
  obtain⟨L1,hL1⟩:=eQx (x0::xs0);obtain⟨g,Za,rfl⟩:=ownsRow_succ (k:=xs0.length) YZ;have hgl:=(YZ.lt g rfl).1;have HSF:=ah<|PU w.heap.size g Za (x0::xs0) w2 HFF YZ ct cq;rw[<-hL1]at HSF;have hlL:xs0.length+1=L1.length:=by rw[hL1];rfl
  rw[<-hL1]at HL0;rw[hlL];clear YZ HFF hll hL1 hlL;go_wp2_with fail;refine HSF.mono ?_;rintro e w3 ⟨rfl,ys,hp,hso,hrow,hcg⟩;have HP:O (JZ L1 w (.returned<|.slice (some<|am g) L1.length Za) w3):=⟨⟨ys,_,rfl,hp,hso,by rw[hp.length_eq];exact hrow⟩,HB2.trans<|hcg.below (fun k hk=>by rw[hk];exact hgl) HB2.size⟩;clear hp hso hrow hcg HB2 HSF;go_wp2;go_ret;rw[<-HL0];exact HP
end
def uE(x y:Fc):Bool:=ib x.a x.b x.r x.c x.d ⟨#[]⟩ y.a y.b y.r y.c y.d ⟨#[]⟩
def NF{w W w':ag}{n m i0 i1 i2 i3 i4 j0 j1 j2 j3 j4:Nat}{x0 x1 x2 x3 x4 y0 y1 y2 y3 y4:Value}(h:W.cell? (ap n i0)=some x0/\W.cell? (ap n i1)=some x1/\W.cell? (ap n i2)=some x2/\W.cell? (ap n i3)=some x3/\W.cell? (ap n i4)=some x4/\W.cell? (ap m j0)=some y0/\W.cell? (ap m j1)=some y1/\W.cell? (ap m j2)=some y2/\W.cell? (ap m j3)=some y3/\W.cell? (ap m j4)=some y4/\ae w W)(hb:ae W w'):w'.cell? (ap n i0)=some x0/\w'.cell? (ap n i1)=some x1/\w'.cell? (ap n i2)=some x2/\w'.cell? (ap n i3)=some x3/\w'.cell? (ap n i4)=some x4/\w'.cell? (ap m j0)=some y0/\w'.cell? (ap m j1)=some y1/\w'.cell? (ap m j2)=some y2/\w'.cell? (ap m j3)=some y3/\w'.cell? (ap m j4)=some y4/\ae w w':=by
 obtain⟨h0,h1,h2,h3,h4,k0,k1,k2,k3,k4,hB⟩:=h;exact⟨az hb (ax h0) h0,az hb (ax h1) h1,az hb (ax h2) h2,az hb (ax h3) h3,az hb (ax h4) h4,az hb (ax k0) k0,az hb (ax k1) k1,az hb (ax k2) k2,az hb (ax k3) k3,az hb (ax k4) k4,hB.trans<|hb.mono hB.size⟩
def MN(ad:Q02)(cap:Nat)(rows:Q04)(w:ag)(hlen:a7 rows)(hs:jX w ad rows)(hfit:∀x∈rows,x.fits):
  Calls prog 60 #[.slice ad rows.length cap] w fun e w'=>(∃v:Value,e=.returned v/\bj w w' 52 5 v rows.length (av<|oq uE rows))/\ae w w':=by
 obtain⟨iR,hiR,zR0,zR1,zR2⟩:=mI;have Zk:O (prog.info? 52=some iR/\iR.zero=some (.agg ar)/\iR.size=5/\iR.bytes=80):=⟨hiR,zR0,zR1,zR2⟩;have HS:=ah hs;have Zd:=ah hfit;clear hs hfit hiR zR0 zR1 zR2;obtain⟨W0,hW0⟩:=eQx<|w.alloc<|.cells #[] 52;have HB0:=lX hW0;have HO0:O (bj w W0 52 5 (.slice (some<|aE w) 0 0) 0 []):=by
  show World.ownsRow _ _ _ _ _ _ _;rw[hW0];exact World.ownsRow_lit w #[] 0 (XK _) cy ct
 go_enter func60,ntmps60;go_wp2_with fail;rw[<-hW0];clear hW0;go_loopw[3,4] (fun v i wr=>∃(k g c:Nat),k<=rows.length/\i=.int .i64 k/\v=.slice (some<|am g) k c/\O (bj w wr 52 5 (.slice (some<|am g) k c) k<|av<|oq uE<|rows.take k)/\O (ae w wr)) (fun _ i _=>rows.length-(intOf i).toNat);case atStart=>exact⟨0,w.heap.size,0,XP _,rfl,rfl,HO0,HB0⟩
 clear HO0 HB0;obtain⟨k,g,c,hk,rfl,rfl,HO,HB⟩:=hrel;by_cases hlt:k<rows.length
 ·obtain⟨acc,hacc⟩:=eQx<|oq uE<|rows.take k;obtain⟨b,off,YW,hrow,hbl⟩:∃b off,ad=some (ap b off)/\yP w b (off+k*5) rows[k]/\b<w.heap.size:=by
   rcases HS.out with h|⟨b',off',e,hb,hr⟩
   ·rw[h]at hlt;simp at hlt
   exact⟨b',off',e,hr k hlt,hb⟩
  obtain⟨x,hx⟩:∃x,rows[k]=x:=⟨_,rfl⟩;have HNX:O (oq uE (rows.take<|k+1)=yx uE x acc):=by show _=_;rw[XM hlt,KD,hacc,hx]
  have hal:acc.length=k:=by rw[hacc,(nk _).length_eq,Yc];omega
  have HXF:O x.fits:=by show Fc.fits x;rw[<-hx];exact Zd _<|XI hlt
  have HAF:O (∀z∈acc,z.fits):=fun z hz=>by
   rw[hacc]at hz;exact Zd z<|List.mem_of_mem_take<|(nk _).mem_iff.1 hz
  rw[<-hacc]at HO;rw[hx]at hrow;have Zl:=ah hal;have hkc:k<=c:=xq HO;have hk1:=bG k;have hk2:(k:Int)<(rows.length:Int):=cq;have Z0:=ah hrow;have HBL:=ah hbl;obtain⟨wo,hwo⟩:=eQx wr;subst hwo;subst YW;clear hacc hal hrow hbl hx;go_wp2_with fail;go_loopw[5] (fun i wr=>∃p:Nat,p<=k/\i=.int .i64 p/\O (∀(i:Nat) (h:i<acc.length),i<p->uE acc[i] x=true)/\O (ae wo wr)) (fun i _=>k-(intOf i).toNat);case atStart=>exact⟨0,XP _,rfl,fun i h hi=>absurd hi<|YG _,XL _ _⟩
  obtain⟨p,hp,rfl,HU,HBP⟩:=hrel;have HOP:O (bj w wr 52 5 (.slice (some<|am g) k c) k<|av acc):=gW HO fun z hz=>HBP.block z (HO.lt z hz).2;have HBWP:O (ae w wr):=HB.trans<|HBP.mono HB.size;obtain⟨y0,y1,y2,y3,y4⟩:=Z0.same fun o=>HBWP.cell (p:=⟨b,o,none⟩) HBL;have hbr:cW b wr:=XJ HBL HBWP.size;have hgr:cW g wr:=(HOP.lt g rfl).2;have hp1:=bG p;by_cases hpk:p<k
  ·have hp2:(p:Int)<(k:Int):=cq;have hd:decide ((p:Int)<(k:Int))=true:=by simp;omega
   have hpa:p<acc.length:=by rw[Zl];exact hpk
   obtain⟨y,hy⟩:∃y,acc[p]=y:=⟨_,rfl⟩;have hc5:∀c,c<5->wr.cell? (ap g<|p*5+c)=y.row[c]?:=fun c hc=>by
    rw[HOP.cellAt (p*5+c) cq,lQ acc p hpa c hc,hy]
   have s0:ac wr g (p*5) (.string y.a):=hc5 0 cq;have s1:ac wr g (p*5+1) (.string y.b):=hc5 1 cq;have s2:ac wr g (p*5+2) (.string y.r):=hc5 2 cq;have s3:ac wr g (p*5+3) (.string y.c):=hc5 3 cq;have s4:ac wr g (p*5+4) (.string y.d):=hc5 4 cq;have hyf:y.fits:=by rw[<-hy];exact HAF _<|XI hpa
   have HC:O (∀W':World,Calls prog 142 #[.agg (cf y),.agg<|cf x] W' fun e w'=>e=.returned (.bool<|uE y x)/\ae W' w'):=fun W'=>xQ _ _ _ _ _ _ _ _ _ _ W' hyf.1 hyf.2.1 hyf.2.2.1 hyf.2.2.2.1 hyf.2.2.2.2 HXF.1 HXF.2.1 HXF.2.2.1 HXF.2.2.2.1 HXF.2.2.2.2;clear hc5 hyf;have HYE:=ah hy;clear hy;have hbp:=HBP.out;cases hq:uE y x;case true=>
    have HU2:O (∀(i:Nat) (h:i<acc.length),i<p+1->uE acc[i] x=true):=fun i h hi=>by
     by_cases e:i=p
     ·subst e;rw[HYE];exact hq
     exact HU i h cq
    rw[hq]at HC;clear hq;go_wp2_with fail
    go_region_held3 (fun w'=>w'.cell? (ap g<|p*5)=some (.string y.a)/\w'.cell? (ap g<|p*5+1)=some (.string y.b)/\w'.cell? (ap g<|p*5+2)=some (.string y.r)/\w'.cell? (ap g<|p*5+3)=some (.string y.c)/\w'.cell? (ap g<|p*5+4)=some (.string y.d)/\w'.cell? (ap b<|off+k*5)=some (.string x.a)/\w'.cell? (ap b<|off+k*5+1)=some (.string x.b)/\w'.cell? (ap b<|off+k*5+2)=some (.string x.r)/\w'.cell? (ap b<|off+k*5+3)=some (.string x.c)/\w'.cell? (ap b<|off+k*5+4)=some (.string x.d)/\ae wo w')
     (first|assumption|exact NF cE hbx|exact⟨s0,s1,s2,s3,s4,y0,y1,y2,y3,y4,hbp.drew⟩)
     (first|(go_at_call 142;refine(HC _).mono ?_;rintro e w' ⟨rfl,hbx⟩))
    rename_i hJ;have HJB:=ah hJ.2.2.2.2.2.2.2.2.2.2;have HSZ:O (wr.heap.size<=w'.heap.size):=by show _<=_;exact XR (by first|exact XK _|simp) hbx.size
    clear hJ s0 s1 s2 s3 s4 y0 y1 y2 y3 y4 hd;go_wp2;go_roundw;case rel=>exact⟨p+1,cq,cx,HU2,HJB⟩
    simp[intOf]<;>omega
   have HPT:O (yx uE x acc=acc.take p++x::acc.drop p):=Gp (by rw[Zl];exact hp) HU (fun _=>by rw[HYE];exact hq);rw[hq]at HC;clear hq;go_wp2_with fail
   go_region_held3 (fun w'=>w'.cell? (ap g<|p*5)=some (.string y.a)/\w'.cell? (ap g<|p*5+1)=some (.string y.b)/\w'.cell? (ap g<|p*5+2)=some (.string y.r)/\w'.cell? (ap g<|p*5+3)=some (.string y.c)/\w'.cell? (ap g<|p*5+4)=some (.string y.d)/\w'.cell? (ap b<|off+k*5)=some (.string x.a)/\w'.cell? (ap b<|off+k*5+1)=some (.string x.b)/\w'.cell? (ap b<|off+k*5+2)=some (.string x.r)/\w'.cell? (ap b<|off+k*5+3)=some (.string x.c)/\w'.cell? (ap b<|off+k*5+4)=some (.string x.d)/\ae wo w')
    (first|assumption|exact NF cE hbx|exact⟨s0,s1,s2,s3,s4,y0,y1,y2,y3,y4,hbp.drew⟩)
    (first|(go_at_call 142;refine(HC _).mono ?_;rintro e w' ⟨rfl,hbx⟩))
   rename_i hJ;have HJB:=ah hJ.2.2.2.2.2.2.2.2.2.2;have HSZ:O (wr.heap.size<=w'.heap.size):=by show _<=_;exact XR (by first|exact XK _|simp) hbx.size
   obtain⟨X,hX⟩:∃X,w'=X:=⟨_,rfl⟩;subst hX;have Zv:=aK HJB;have HSX:O (wr.heap.size<=w'.heap.size):=by show _<=_;exact HSZ
   clear hJ s0 s1 s2 s3 s4 hd HC HYE hbp HJB HSZ;clear y0 y1 y2 y3 y4 hbr HOP HBWP HBP HU;obtain⟨W1,hW1⟩:=eQx<|w'.alloc<|.cells #[] 52;have Zz:O (bj w' W1 52 5 (.slice (some<|aE w') 0 0) 0 []):=by
    show World.ownsRow _ _ _ _ _ _ _;rw[hW1];exact World.ownsRow_lit w' #[] 0 (XK _) cy ct
   have HB1:=lX hW1;have HBO1:O (ae wo W1):=Zv.trans<|HB1.mono Zv.size;have HR1:O (bj w W1 52 5 (.slice (some<|am g) k c) k<|av acc):=gW HO fun z hz=>HBO1.block z (HO.lt z hz).2;have hz1:cY w' W1:=HB1.size;have hgX:cW g w':=XJ (HO.lt g rfl).2 Zv.size;have hpc:p<=c:=cq
   go_wp2_with(at_builtin;go_must (rw[<-hW1];clear hW1;refine wpList_append_own_at _ rfl _ _ 44 rfl w'.heap.size 52 iR (.agg ar) 5 80 underlying44 Zk.1 Zk.2.1 Zk.2.2.1 Zk.2.2.2 rfl cv _ 0 [] rfl Zz ⟨g,0,none⟩ p c (av<|acc.take p) rfl (by rw[fe,Yc];congr 1;have:=Zl.out;omega) (qH HR1 p hp) (kv _) cy cq hz1 ?_));intro v2 w2 hown2 ZP _ _;have YZ:O (bj w' w2 52 5 v2 p<|av<|acc.take p):=by
    show World.ownsRow _ _ _ _ _ _ _
    first|exact hown2|(rw[Yg,YI]at hown2;exact hown2)|simpa using hown2
   have HB2:O (ae w' w2):=HB1.grown ZP HB1.size (fun z hz=>by simp[Value.ownBlock]at hz;omega);have hz2:cY w' w2:=HB2.size;have HBO2:O (ae w w2):=(HB.trans<|Zv.mono HB.size).trans<|HB2.mono<|XR HB.size Zv.size;obtain⟨y0,y1,y2,y3,y4⟩:=Z0.same fun o=>HBO2.cell (p:=⟨b,o,none⟩) HBL;have hbr:cW b w2:=XJ HBL HBO2.size;obtain⟨W3,hW3⟩:=eQx<|w2.alloc<|.cells (cf x) 52;have Zq:O (bj w' W3 52 5 v2 p<|av<|acc.take p):=by show World.ownsRow _ _ _ _ _ _ _;rw[hW3];exact YZ.alloc _
   have HNW:O (∀j u,x.row[j]?=some u->W3.cell? ((⟨w2.heap.size,0,none⟩:Addr).add j)=some u):=by show ∀j u,_;rw[hW3];exact xm w2 x
   have HB3:O (ae w' W3):=by show Below _ _ _;rw[hW3];exact HB2.alloc HB2.size _
   have hz3:cY w' W3:=HB3.size;clear hown2 ZP Zz HB1 HBO1 HR1 hz1;go_wp2_with(at_builtin;go_must (rw[<-hW3];clear hW3;refine wpList_append_own_at _ rfl _ _ 44 rfl w'.heap.size 52 iR (.agg ar) 5 80 underlying44 Zk.1 Zk.2.1 Zk.2.2.1 Zk.2.2.2 rfl cv v2 p (av<|acc.take p) rfl Zq ⟨w2.heap.size,0,none⟩ 1 1 x.row rfl rfl HNW (by simp[Fc.row,Value.oneCell']) cy cq hz3 ?_));intro v4 w4 ZJ hgr4 _ _;have Zg:=aK ZJ;have Z7:O (ae w' w4):=HB3.grown hgr4 HB3.size fun z hz=>(YZ.lt z hz).1;have hz4:cY w' w4:=Z7.size;have HBO4:O (ae wo w4):=Zv.trans<|Z7.mono Zv.size;have HR4:O (bj w w4 52 5 (.slice (some<|am g) k c) k<|av acc):=gW HO fun z hz=>HBO4.block z (HO.lt z hz).2;clear ZJ hgr4 Zq YZ HNW HB3 hz3 HB2 hz2 HBO2 y0 y1 y2 y3 y4 hbr;go_wp2_with(at_builtin;go_must (refine wpList_append_own_at _ rfl _ _ 44 rfl w'.heap.size 52 iR (.agg ar) 5 80 underlying44 Zk.1 Zk.2.1 Zk.2.2.1 Zk.2.2.2 rfl cv v4 (p+1) (av (acc.take p)++x.row) rfl Zg ⟨g,p*5,none⟩ (k-p) (c-p) (av<|acc.drop p) rfl (by rw[fe,YD];have:=Zl.out;congr 1;omega) (vQ HR4 p hp) (kv _) cy cq hz4 ?_));intro v5 w5 hown5 hgr5 _ _;have hn5:p+1+(k-p)=k+1:=cq
   have HB5:O (ae w' w5):=Z7.grown hgr5 Z7.size fun z hz=>(Zg.lt z hz).1;have hown6:bj w' w5 52 5 v5 (k+1) (av<|oq uE<|rows.take<|k+1):=by
    rw[HNX,HPT,av,YE,Ym,<-hn5];exact hown5
   obtain⟨ad5,c5,rfl⟩:=qG hown6;obtain⟨g5,rfl,-⟩:=pM hown6<|Nat.succ_ne_zero _;have ZI:=ah<|pO hown6<|XR HB.size Zv.size;have HB6:O (ae w w5):=(HB.trans<|Zv.mono HB.size).trans<|HB5.mono<|XR HB.size Zv.size;clear hown5 hown6 hgr5 hn5;go_wp2;go_roundw;case rel=>exact⟨k+1,g5,c5,cq,cx,by first|rfl|simp,ZI,HB6⟩
   simp[intOf]<;>omega
  have hd:decide ((p:Int)<(k:Int))=false:=by simp;omega
  have hpe:¬(p:Int)<(k:Int):=cq;have HPT:O (yx uE x acc=acc.take p++x::acc.drop p):=Gp (by rw[Zl];exact hp) HU (fun h=>absurd (by rw[Zl]at h;exact h) hpk);go_wp2_with fail;go_quiet (fail);clear hd hpe;obtain⟨X,hX⟩:∃X,wr.drewN nq=X:=⟨_,rfl⟩;have Zv:O (ae wo X):=by show Below _ _ _;rw[<-hX];exact below_drewN HBP _
  have HSX:O (wr.heap.size<=X.heap.size):=by show _<=_;rw[<-hX];exact XK _
  rw[hX];clear hX y0 y1 y2 y3 y4 hbr HOP HBWP HBP HU;obtain⟨W1,hW1⟩:=eQx<|X.alloc<|.cells #[] 52;have Zz:O (bj X W1 52 5 (.slice (some<|aE X) 0 0) 0 []):=by
   show World.ownsRow _ _ _ _ _ _ _;rw[hW1];exact World.ownsRow_lit X #[] 0 (XK _) cy ct
  have HB1:=lX hW1;have HBO1:O (ae wo W1):=Zv.trans<|HB1.mono Zv.size;have HR1:O (bj w W1 52 5 (.slice (some<|am g) k c) k<|av acc):=gW HO fun z hz=>HBO1.block z (HO.lt z hz).2;have hz1:cY X W1:=HB1.size;have hgX:cW g X:=XJ (HO.lt g rfl).2 Zv.size;have hpc:p<=c:=cq
  go_wp2_with(at_builtin;go_must (rw[<-hW1];clear hW1;refine wpList_append_own_at _ rfl _ _ 44 rfl X.heap.size 52 iR (.agg ar) 5 80 underlying44 Zk.1 Zk.2.1 Zk.2.2.1 Zk.2.2.2 rfl cv _ 0 [] rfl Zz ⟨g,0,none⟩ p c (av<|acc.take p) rfl (by rw[fe,Yc];congr 1;have:=Zl.out;omega) (qH HR1 p hp) (kv _) cy cq hz1 ?_));intro v2 w2 hown2 ZP _ _;have YZ:O (bj X w2 52 5 v2 p<|av<|acc.take p):=by
   show World.ownsRow _ _ _ _ _ _ _
   first|exact hown2|(rw[Yg,YI]at hown2;exact hown2)|simpa using hown2
  have HB2:O (ae X w2):=HB1.grown ZP HB1.size (fun z hz=>by simp[Value.ownBlock]at hz;omega);have hz2:cY X w2:=HB2.size;have HBO2:O (ae w w2):=(HB.trans<|Zv.mono HB.size).trans<|HB2.mono<|XR HB.size Zv.size;obtain⟨y0,y1,y2,y3,y4⟩:=Z0.same fun o=>HBO2.cell (p:=⟨b,o,none⟩) HBL;have hbr:cW b w2:=XJ HBL HBO2.size;obtain⟨W3,hW3⟩:=eQx<|w2.alloc<|.cells (cf x) 52;have Zq:O (bj X W3 52 5 v2 p<|av<|acc.take p):=by show World.ownsRow _ _ _ _ _ _ _;rw[hW3];exact YZ.alloc _
  have HNW:O (∀j u,x.row[j]?=some u->W3.cell? ((⟨w2.heap.size,0,none⟩:Addr).add j)=some u):=by show ∀j u,_;rw[hW3];exact xm w2 x
  have HB3:O (ae X W3):=by show Below _ _ _;rw[hW3];exact HB2.alloc HB2.size _
  have hz3:cY X W3:=HB3.size;clear hown2 ZP Zz HB1 HBO1 HR1 hz1;go_wp2_with(at_builtin;go_must (rw[<-hW3];clear hW3;refine wpList_append_own_at _ rfl _ _ 44 rfl X.heap.size 52 iR (.agg ar) 5 80 underlying44 Zk.1 Zk.2.1 Zk.2.2.1 Zk.2.2.2 rfl cv v2 p (av<|acc.take p) rfl Zq ⟨w2.heap.size,0,none⟩ 1 1 x.row rfl rfl HNW (by simp[Fc.row,Value.oneCell']) cy cq hz3 ?_));intro v4 w4 ZJ hgr4 _ _;have Zg:=aK ZJ;have Z7:O (ae X w4):=HB3.grown hgr4 HB3.size fun z hz=>(YZ.lt z hz).1;have hz4:cY X w4:=Z7.size;have HBO4:O (ae wo w4):=Zv.trans<|Z7.mono Zv.size;have HR4:O (bj w w4 52 5 (.slice (some<|am g) k c) k<|av acc):=gW HO fun z hz=>HBO4.block z (HO.lt z hz).2;clear ZJ hgr4 Zq YZ HNW HB3 hz3 HB2 hz2 HBO2 y0 y1 y2 y3 y4 hbr;obtain rfl:p=k:=cq
  have HDN:O (acc.drop p=[]):=Ya (by rw[Zl];exact XK _);by_cases hce:c=p
  all_goals
   go_wp2_with(at_builtin;go_must (refine wpList_append_own_at _ rfl _ _ 44 rfl X.heap.size 52 iR (.agg ar) 5 80 underlying44 Zk.1 Zk.2.1 Zk.2.2.1 Zk.2.2.2 rfl cv v4 (p+1) (av (acc.take p)++x.row) rfl Zg _ 0 _ (av<|acc.drop p) rfl (by rw[HDN];rfl) (LA HDN) (kv _) cy cq hz4 ?_));intro v5 w5 hown5 hgr5 _ _;have hn5:p+1+0=p+1:=rfl;have HB5:O (ae X w5):=Z7.grown hgr5 Z7.size fun z hz=>(Zg.lt z hz).1;have hown6:bj X w5 52 5 v5 (p+1) (av<|oq uE<|rows.take<|p+1):=by
    rw[HNX,HPT,av,YE,Ym,<-hn5];exact hown5
   obtain⟨ad5,c5,rfl⟩:=qG hown6;obtain⟨g5,rfl,-⟩:=pM hown6<|Nat.succ_ne_zero _;have ZI:=ah<|pO hown6<|XR HB.size Zv.size;have HB6:O (ae w w5):=(HB.trans<|Zv.mono HB.size).trans<|HB5.mono<|XR HB.size Zv.size;clear hown5 hown6 hgr5 hn5;go_wp2;go_roundw;case rel=>exact⟨p+1,g5,c5,cq,cx,by first|rfl|simp,ZI,HB6⟩
   simp[intOf]<;>omega
 obtain rfl:k=rows.length:=cq;have HE:O (bj w wr 52 5 (.slice (some<|am g) rows.length c) rows.length<|av<|oq uE rows):=by have h:=HO.out;rw[X8]at h;exact h
 go_wp2;go_ret;exact⟨⟨_,rfl,HE⟩,HB⟩
section
variable  [DecidableEq Fc]
def MO{st:Q00}{rs:Q06}{ts:Q05}{x:Fc}(hx:x∈aA st rs ts):∃o∈fA ts,∃k∈ay (ai rs),∃u∈dA ts,x=⟨o.t,o.s,k.2,u.t,u.s⟩:=by
 cases hr:aQ (fU rs) rs ts;case false=>rw[fV hr]at hx;cases hx
 rw[dZ hr]at hx;have h1:=(kw st rs ts (fA ts) (dA ts) _).sub x hx;unfold Aj at h1;obtain⟨o,ho,h1⟩:=XZ.1 h1;obtain⟨k,hk,h1⟩:=XZ.1 h1;unfold jH at h1;obtain⟨u,hu,rfl⟩:=XW.1 h1;exact⟨o,ho,k,hk,u,hu,rfl⟩
def zW{st:Q00}{rs:Q06}{ts:Q05}(hfr:∀r∈rs,r.fits)(hft:∀x∈ts,x.fits):∀x∈aA st rs ts,x.fits:=fun x hx=>by
 obtain⟨o,ho,k,hk,u,hu,rfl⟩:=MO hx;have h1:=ik hft o ho;have h2:=gy hft u hu;exact⟨h1.1,h1.2,mU hfr k hk,h2.1,h2.2⟩
def lc(st:Q00)(rs:Q06)(ts:Q05):List Fc:=oq uE<|aA st rs ts
def MP(st:Q00)(rs:Q06)(ts:Q05):(lc st rs ts).length=(aA st rs ts).length:=(nk _).length_eq
end
def F7(x y:Fc):pI x y=pI y x:=by rw[X9,iU,iU];exact⟨Eq.symm,Eq.symm⟩
def PW{x y:Q04}(h:x.Perm y)(f:Fc):aR x f=aR y f:=by rw[X9,aU,aU];exact h.mem_iff
def J3(ad:Q02)(cap:Nat)(ts:Q04)(t:Fc)(w:ag)(hlen:a7 ts)(hs:jX w ad ts):
  Calls prog 69 #[.slice ad ts.length cap,.agg<|cf t] w fun e w'=>(∃r:Int,e=.returned (.int .i64 r)/\decide (0<=r)=aR ts t)/\ae w w':=by
 have HS:=ah hs;clear hs;obtain⟨W0,hW0⟩:=eQx<|w.alloc<|.cells (cf t) 52;have HB0:=lX hW0;have HX0:O (kC W0 w.heap.size t):=by show kC _ _ _;rw[hW0];exact World.alloc_heap_new w _
 go_enter func69,ntmps69;go_wp2_with fail;rw[<-hW0];clear hW0;go_loopw[8] (fun i wr=>∃k:Nat,k<=ts.length/\i=.int .i64 k/\O (aR (ts.drop k) t=aR ts t)/\O (ae W0 wr)) (fun i _=>ts.length-(intOf i).toNat);case atStart=>exact⟨0,XP _,rfl,rfl,XL _ _⟩
 obtain⟨k,hk,rfl,HP,HB⟩:=hrel;have Y9:O (ae w wr):=HB0.trans<|HB.mono HB0.size;by_cases hlt:k<ts.length
 ·obtain⟨b,off,YW,⟨t0,t1,t2,t3,t4⟩,hb⟩:=jX.at0 (HS.below Y9) hlt;obtain⟨x0,x1,x2,x3,x4,xl⟩:=(HX0.bel HB).c;have hk1:=bG k;have hk2:(k:Int)<(ts.length:Int):=cq;have HD:O (aR ts t=(pI ts[k] t || aR (ts.drop<|k+1) t)):=by show _=_;rw[<-HP];exact yQ hlt
  subst YW;cases hq:pI ts[k] t;case true=>
   have heq:=r9 t ts[k] (v:=true) (by rw[F7];exact hq);have HN:O (aR ts t=true):=by show _=_;rw[HD,hq];rfl
   clear hq;go_wp2_with fail;go_quiet (fail);clear t0 t1 t2 t3 t4 x0 x1 x2 x3 x4 heq;go_wp2;go_ret;exact⟨⟨k,rfl,by rw[HN];simp⟩,below_drewN Y9 _⟩
  have heq:=r9 t ts[k] (v:=false) (by rw[F7];exact hq);have Zc:O (aR (ts.drop<|k+1) t=aR ts t):=by show _=_;rw[HD,hq];rfl
  clear hq;go_wp2_with fail;go_quiet (fail);clear t0 t1 t2 t3 t4 x0 x1 x2 x3 x4 heq;go_wp2;go_roundw;case rel=>exact⟨k+1,cq,cx,Zc,below_drewN HB _⟩
  simp[intOf]<;>omega
 have HN:O (aR ts t=false):=by show _=_;rw[<-HP,Ya cq];rfl
 go_wp2;go_ret;exact⟨⟨-1,rfl,by rw[HN];simp⟩,Y9⟩
def Dx(ad:Q02)(cap:Nat)(ts:Q04)(t:Fc)(w:ag)(hlen:a7 ts)(hs:jX w ad ts):
  Calls prog 73 #[.slice ad ts.length cap,.agg<|cf t] w (a8 w<|.bool<|aR ts t):=by
 obtain⟨W0,hW0⟩:=eQx<|w.alloc<|.cells (cf t) 52;have HB0:=lX hW0;have HC:=ah<|J3 ad cap ts t W0 hlen<|hs.below HB0;clear hs;go_enter func73,ntmps73;go_wp2_with fail;rw[<-hW0];clear hW0;refine HC.mono ?_;rintro e w' ⟨⟨r,rfl,hr⟩,hbx⟩;have HR:=ah hr;have Zv:=ah<|HB0.trans<|hbx.mono HB0.size;clear hr hbx;go_wp2;go_ret;exact⟨by rw[<-HR];rfl,Zv⟩
section
variable  [DecidableEq Fc]
def uV(st:Q00)(ad:Q02)(cap:Nat)(rs:Q06)(Y8:Q02)(cap':Nat)(ts:Q05)(f:Fc)(w:ag)(hlen:a7 rs)(hs:kI w ad rs)(hl:∀r∈rs,r.light)(hfr:∀r∈rs,r.fits)(hcp:∀r∈rs,r.caps)(hlt:a7 ts)(hst:Sl w Y8 ts)(hft:∀x∈ts,x.fits)(hle:aN (ai rs)=true->Least (ai rs) st):
  Calls prog 20 #[.slice ad rs.length cap,.slice Y8 ts.length cap',.agg<|cf f] w (a8 w<|.bool<|aR (aA st rs ts) f):=by
 obtain⟨W0,hW0⟩:=eQx<|w.alloc<|.cells (cf f) 52;have HB0:ae w W0:=by rw[hW0];exact(XL _ _).alloc (XK _) _
 have hbx:kC W0 w.heap.size f:=by rw[hW0];exact World.alloc_heap_new w _
 obtain⟨c0,c1,c2,c3,c4,cl⟩:=hbx.c;have ZW:O (∀W':World,(ab W' w.heap.size (.string f.a)/\ac W' w.heap.size 1 (.string f.b)/\ac W' w.heap.size 2 (.string f.r)/\ac W' w.heap.size 3 (.string f.c)/\ac W' w.heap.size 4 (.string f.d)/\ae w W')->Calls prog 11 #[.slice ad rs.length cap,.slice Y8 ts.length cap'] W' (JZ (aA st rs ts) W')):=fun W' h=>Ei st ad cap rs Y8 cap' ts W' hlen (hs.below h.2.2.2.2.2) hl hfr hcp hlt (hst.below h.2.2.2.2.2) hft hle;have hLl:=jJ st (rs:=rs) (ts:=ts);clear hs hl hfr hcp hst hft hle hbx;go_enter func20,ntmps20;go_wp2_with fail;rw[<-hW0];clear hW0
 go_region_held3 (fun w'=>w'.cell? (aE w)=some (.string f.a)/\w'.cell? (a6 w 1)=some (.string f.b)/\w'.cell? (a6 w 2)=some (.string f.r)/\w'.cell? (a6 w 3)=some (.string f.c)/\w'.cell? (a6 w 4)=some (.string f.d)/\ae w w')
  (first|assumption|exact vY cE hbx|exact⟨c0,c1,c2,c3,c4,HB0.drew⟩)
  (first|(go_at_call 11;refine(ZW _ cE).mono ?_;rintro e w' ⟨⟨L,v,rfl,hp,-,hown⟩,hbx⟩;obtain⟨Zo,Y0,rfl,hsl⟩:=gV hown;have HLL:O (L.length<=1048576):=(by show _<=_;rw[hp.length_eq];exact XR hLl cv))|(go_at_call 73;refine(Dx Zo Y0 L f _ HLL<|by first|exact hsl|exact hsl.below<|XL _ _).mono ?_;rintro e w'' ⟨rfl,hbx⟩))
 rename_i hJ;have HG:=ah hJ.2.2.2.2.2;have HE:=ah<|PW hp f;clear hJ hown hsl hp c0 c1 c2 c3 c4;go_wp2;go_ret;exact⟨by rw[HE];rfl,HG⟩
end
section
variable  [DecidableEq Fc]
def Ej(st:Q00)(ad:Q02)(cap:Nat)(rs:Q06)(Y8:Q02)(cap':Nat)(ts:Q05)(w:ag)(hlen:a7 rs)(hs:kI w ad rs)(hl:∀r∈rs,r.light)(hfr:∀r∈rs,r.fits)(hlt:a7 ts)(hst:Sl w Y8 ts)(hft:∀x∈ts,x.fits)(hle:aN (ai rs)=true->Least (ai rs) st):
  Calls prog 13 #[.slice ad rs.length cap,.slice Y8 ts.length cap'] w fun e w'=>(∃v,e=.returned v/\bj w w' 52 5 v (lc st rs ts).length (av<|lc st rs ts))/\ae w w':=by
 have hLl:=jJ st (rs:=rs) (ts:=ts);have HFQ:=ah<|zW (st:=st) hfr hft;have HRC:=ah<|zR ad cap rs Y8 cap' ts w hlen hs hl hfr hlt hst hft;have HAC:O (aQ (fU rs) rs ts=true->∀W':World,ae w W'->Calls prog 61 #[.slice ad rs.length cap,.slice Y8 ts.length cap'] W' fun e w'=>(∃v,e=.returned v/\bj W' w' 52 5 v (aA st rs ts).length (av<|aA st rs ts))/\ae W' w'):=fun hr W' hb=>by
  have hsd:aN (ai rs)=true/\ts.length<=40:=by
   unfold aQ dW at hr;simp only[XN,XU]at hr;exact⟨hr.1.1,hr.1.2.1⟩
  have:=yU st ad cap rs Y8 cap' ts W' (bf.1 hsd.1) (hle hsd.1) (hs.below hb) hl hsd.2<|hst.below hb;rw[<-dZ hr]at this;exact this
 clear hs hl hfr hst hft hle;go_enter func13,ntmps13;go_wp2_with fail;refine HRC.mono ?_;rintro e w1 ⟨rfl,hb1⟩;have HB1:=ah hb1;clear hb1 HRC;cases hr:aQ (fU rs) rs ts;case false=>
  have HN:O (lc st rs ts=[]):=by show _=_;unfold lc;rw[fV hr];rfl
  clear hr HAC;obtain⟨W2,hW2⟩:=eQx<|w1.alloc<|.cells #[] 52;have YZ:O (bj w W2 52 5 (.slice (some<|aE w1) 0 0) 0 []):=by
   show World.ownsRow _ _ _ _ _ _ _;rw[hW2];exact World.ownsRow_lit w1 #[] 0 HB1.size cy ct
  have HB2:O (ae w W2):=by show Below _ _ _;rw[hW2];exact HB1.alloc HB1.size _
  go_wp2;rw[<-hW2];go_ret;exact⟨⟨_,rfl,by rw[HN];exact YZ⟩,HB2⟩
 have HA:=ah<|HAC hr;clear HAC hr;obtain⟨L,hL⟩:∃L,aA st rs ts=L:=⟨_,rfl⟩;have HSL:O (lc st rs ts=oq uE L):=by show _=_;unfold lc;rw[hL]
 rw[hL]at HA HFQ hLl;clear hL;go_wp2_with fail;refine(HA _ HB1).mono ?_;rintro e w2 ⟨⟨v,rfl,hown⟩,hb2⟩;obtain⟨Zo,Y0,rfl,hsl⟩:=gV hown;have HSF:=ah hsl;have HB2:=jr HB1 hb2;clear hown hsl hb2 HB1 HA;have HLL:O (L.length<=1048576):=XR hLl cv;clear hLl;go_wp2_with fail;refine(MN Zo Y0 L _ HLL HSF HFQ).mono ?_;rintro e w3 ⟨⟨v,rfl,hown⟩,hb3⟩;have HB3:=jr HB2 hb3;have Zq:O (bj w w3 52 5 v (lc st rs ts).length<|av<|lc st rs ts):=by
  show World.ownsRow _ _ _ _ _ _ _;rw[HSL,(nk L).length_eq];exact pO hown HB2.size
 clear hown hb3;go_wp2;go_ret;exact⟨⟨v,rfl,Zq⟩,HB3⟩
end
def zg{x y:Q04}{f:Fc}(h:∀g∈x,g∈y)(hf:aR x f=true):aR y f=true:=aU.2<|h f<|aU.1 hf
def Dy{α:Type}{p q:α->Bool}{xs:List α}(h:∀x,p x=true->q x=true)(ha:xs.any p=true):xs.any q=true:=by
 obtain⟨x,hx,hp⟩:=Yq.1 ha;exact Yq.2 ⟨x,hx,h x hp⟩
def qU{l:Q05}{es:Q09}{truth:Q04}{f:Fc}:∀(k:Nat) (x y:Q04) (n:Nat),(∀g∈x,g∈y)->dC l es truth f k x n=true->dC l es truth f k y n=true
 | 0,_,_,_,_,h=>by cases h
 | k+1,x,y,n,hs,h=>by
  unfold dC at h⊢;cases e:es[n]? with
  | none=>rw[e]at h;cases h
  | some q =>
   rw[e]at h;simp only at h⊢;by_cases k1:q.kind=1
   ·rw[if_pos k1]at h⊢;unfold fO at h⊢;refine Dy (fun t ht=>?_) h;simp only[XN]at ht⊢;refine⟨ht.1,?_⟩;have h2:=ht.2;split at h2
    ·rename_i he;rw[if_pos he];exact h2
    rename_i he;rw[if_neg he];exact zg hs h2
   rw[if_neg k1]at h ⊢;by_cases k2:q.kind=2
   ·rw[if_pos k2]at h ⊢;exact zg hs h
   rw[if_neg k2]at h ⊢;by_cases k3:q.kind=3
   ·rw[if_pos k3]at h⊢;unfold gY at h⊢;refine Dy (fun t ht=>?_) h;simp only[XN]at ht⊢;exact⟨ht.1,zg hs ht.2⟩
   rw[if_neg k3]at h ⊢;by_cases k4:q.kind=4
   ·rw[if_pos k4]at h ⊢;exact Dy (fun i hi=>qU k x y _ hs hi) h
   rw[if_neg k4]at h ⊢;by_cases k5:q.kind=5
   ·rw[if_pos k5]at h ⊢;rw[XY]at h ⊢;exact fun i hi=>qU k x y _ hs<|h i hi
   rw[if_neg k5]at h ⊢;by_cases k6:q.kind=6
   ·rw[if_pos k6]at h ⊢;simp only[XN]at h ⊢;exact⟨qU k x y _ hs h.1,h.2⟩
   rw[if_neg k6]at h;cases h
def PX{rs:Q06}{ts:Q05}{truth x y:Q04}{f:Fc}(hs:∀g∈x,g∈y)(h:rz rs ts truth x f=true):rz rs ts truth y f=true:=qU _ _ _ _ hs h
section
variable  [DecidableEq Fc]
end
def F8(x y:Fc):pI x y=pI y x:=by rw[X9,iU,iU];exact⟨Eq.symm,Eq.symm⟩
def J4(ad:Q02)(cap:Nat)(ts:Q04)(t:Fc)(w:ag)(hlen:a7 ts)(hs:jX w ad ts):
  Calls prog 69 #[.slice ad ts.length cap,.agg<|cf t] w fun e w'=>(∃r:Int,e=.returned (.int .i64 r)/\(r=-1/\aR ts t=false \/ ∃k:Nat,r=(k:Int)/\∃h:k<ts.length,ts[k]=t/\t ∉ ts.take k))/\ae w w':=by
 have HS:=ah hs;clear hs;obtain⟨W0,hW0⟩:=eQx<|w.alloc<|.cells (cf t) 52;have HB0:=lX hW0;have HX0:O (kC W0 w.heap.size t):=by show kC _ _ _;rw[hW0];exact World.alloc_heap_new w _
 go_enter func69,ntmps69;go_wp2_with fail;rw[<-hW0];clear hW0;go_loopw[8] (fun i wr=>∃k:Nat,k<=ts.length/\i=.int .i64 k/\O (aR (ts.drop k) t=aR ts t)/\O (t ∉ ts.take k)/\O (ae W0 wr)) (fun i _=>ts.length-(intOf i).toNat);case atStart=>exact⟨0,XP _,rfl,rfl,by show t ∉ ts.take 0;simp,XL _ _⟩
 obtain⟨k,hk,rfl,HP,ZQ,HB⟩:=hrel;have Y9:O (ae w wr):=HB0.trans<|HB.mono HB0.size;by_cases hlt:k<ts.length
 ·obtain⟨b,off,YW,⟨t0,t1,t2,t3,t4⟩,hb⟩:=jX.at0 (HS.below Y9) hlt;obtain⟨x0,x1,x2,x3,x4,xl⟩:=(HX0.bel HB).c;have hk1:=bG k;have hk2:(k:Int)<(ts.length:Int):=cq;have HD:O (aR ts t=(pI ts[k] t || aR (ts.drop<|k+1) t)):=by show _=_;rw[<-HP];exact yQ hlt
  subst YW;cases hq:pI ts[k] t;case true=>
   have heq:=r9 t ts[k] (v:=true) (by rw[F8];exact hq);have HTK:O (ts[k]=t):=iU.1 hq;clear hq;go_wp2_with fail;go_quiet (fail);clear t0 t1 t2 t3 t4 x0 x1 x2 x3 x4 heq;go_wp2;go_ret;exact⟨⟨k,rfl,.inr ⟨k,rfl,hlt,HTK,ZQ⟩⟩,below_drewN Y9 _⟩
  have heq:=r9 t ts[k] (v:=false) (by rw[F8];exact hq);have Zc:O (aR (ts.drop<|k+1) t=aR ts t):=by show _=_;rw[HD,hq];rfl
  have HNO2:O (t ∉ ts.take (k+1)):=fun hm=>by
   rw[XM hlt]at hm;rcases XV.1 hm with hm|hm
   ·exact ZQ hm
   rw[<-XX.1 hm,iU.2 rfl]at hq;cases hq
  clear hq;go_wp2_with fail;go_quiet (fail);clear t0 t1 t2 t3 t4 x0 x1 x2 x3 x4 heq;go_wp2;go_roundw;case rel=>exact⟨k+1,cq,cx,Zc,HNO2,below_drewN HB _⟩
  simp[intOf]<;>omega
 have HN:O (aR ts t=false):=by show _=_;rw[<-HP,Ya cq];rfl
 go_wp2;go_ret;exact⟨⟨-1,rfl,.inl ⟨rfl,HN⟩⟩,Y9⟩
section
variable  [DecidableEq Fc]
def x8(st:Q00)(rs:Q06)(ts:Q05)(L:Q04):Bool:=((aQ (fU rs) rs ts&&decide (1<=L.length))&&decide (L.length<=200))&&oQ rs ts (aA st rs ts) L L.length
def rf(st:Q00)(ad:Q02)(cap:Nat)(rs:Q06)(Y8:Q02)(cap':Nat)(ts:Q05)(Zo:Q02)(Y0:Nat)(L:Q04)(w:ag)(hlen:a7 rs)(hs:kI w ad rs)(hl:∀r∈rs,r.light)(hfr:∀r∈rs,r.fits)(hcp:∀r∈rs,r.caps)(hlt:a7 ts)(hst:Sl w Y8 ts)(hft:∀x∈ts,x.fits)(hLl:a7 L)(hL:jX w Zo L)(hLf:∀x∈L,x.fits)(hle:aN (ai rs)=true->Least (ai rs) st):
  Calls prog 21 #[.slice ad rs.length cap,.slice Y8 ts.length cap',.slice Zo L.length Y0] w (a8 w<|.bool<|x8 st rs ts L):=by
 have HPC:=ah<|Hw st ad cap rs Y8 cap' ts w hlen hs hl hfr hcp hlt hst hft hle;have HS:=ah hs;have HL:=ah hL;have HLF:=ah hLf;have Zd:=ah hft;have hmm:=@run_makeMap prog;clear hs hl hfr hcp hst hft hle hL hLf;go_enter func21,ntmps21;go_wp2_with fail;refine HPC.mono ?_;rintro e w1 ⟨hb1,⟨hr,rfl⟩|⟨hr,P,D,br,bp,bt,nr,np,n1,Mr,Er,Mp,vo,vu,ZG,Za,bK,nK,rfl,hP,hD⟩⟩
 ·have HN:O (x8 st rs ts L=false):=by show _=_;unfold x8;rw[hr];rfl
  have HB1:=ah hb1;clear hb1 hr HPC;go_wp2;go_ret;exact⟨by rw[HN];rfl,HB1⟩
 have HB1:=ah hb1;have HS1:=ah<|HS.below hb1;have HL1:=ah<|HL.below hb1;have HP:=ah hP;have HD:=ah hD;have hsd:aN (ai rs)=true/\ts.length<=40:=by
  have hr2:=hr;unfold aQ dW at hr2;simp only[XN,XU]at hr2;exact⟨hr2.1.1,hr2.1.2.1⟩
 have HSH:=ah (bf.1 hsd.1).1;have ht40:=hsd.2;have HR1:=ah hr;clear hb1 hr HPC hP hD hsd HS HL;by_cases h1:1<=L.length
 ·have hd1:¬((L.length:Int)<1):=cq;by_cases h2:L.length<=200
  ·have hd2:¬((200:Int)<(L.length:Int)):=cq;have HE:O (x8 st rs ts L=oQ rs ts (aA st rs ts) L L.length):=by show _=_;unfold x8;rw[HR1,decide_eq_true h1,decide_eq_true h2];rfl
   obtain⟨W0,hW0⟩:=eQx<|w1.alloc<|.map #[] 0;have HB0:=lX hW0;have HV0:O (aL dM prog 52 W0 w1.heap.size 0<|vV<|L.take 0):=by
    have h:=jL dM prog 52 w1;show aL _ _ _ _ _ _ _;rw[hW0];exact h
   have hz0:w1.heap.size<W0.heap.size:=by rw[hW0];simp
   obtain⟨Q,hQ⟩:=eQx<|aA st rs ts;rw[<-hQ]at HE HP;clear h1 hQ;go_wp2_with fail;rw[<-hW0];clear hW0 hmm;go_loopw[33] (fun i wr=>∃k:Nat,k<=L.length/\i=.int .i64 k/\O (oQ rs ts Q L k=true)/\O (aL dM prog 52 wr w1.heap.size k<|vV<|L.take k)/\O (ae w1 wr)/\O (w1.heap.size<wr.heap.size)) (fun i _=>L.length-(intOf i).toNat);case atStart=>exact⟨0,XP _,rfl,rfl,HV0,HB0,hz0⟩
   clear HV0 HB0 hz0;obtain⟨k,hk,rfl,HPK,HV,HB,HZ⟩:=hrel;by_cases hlk:k<L.length
   ·obtain⟨b,off,YW,⟨t0,t1,t2,t3,t4⟩,hbl⟩:=jX.at0 (HL1.below HB) hlk;have hi1:=bG k;have hi2:(k:Int)<(L.length:Int):=cq;have HT:O (L.take (k+1)=L.take k++[L[k]]):=XM hlk;have HSU:=ah<|F5 rs ts Q hlk;have HHI:O ((okB L[k]&&rz rs ts Q (L.take k) L[k])=false->oQ rs ts Q L L.length=false):=JW rs ts Q hlk;have HXF:=ah<|HLF _<|XI hlk;obtain⟨kl,hkl⟩:=lN L[k] HXF;obtain⟨x,hx⟩:=eQx<|L[k];rw[<-hx]at t0 t1 t2 t3 t4 HT hkl HSU HHI HXF;have ZY:=ah hkl;clear hx hkl;obtain⟨W1,hW1⟩:=eQx<|wr.alloc<|.cells (cf x) 52;have ZF:=lX hW1;have HC1:O (W1.cell? (aE wr)=some (.string x.a)/\W1.cell? (a6 wr 1)=some (.string x.b)/\W1.cell? (a6 wr 2)=some (.string x.r)/\W1.cell? (a6 wr 3)=some (.string x.c)/\W1.cell? (a6 wr 4)=some (.string x.d)/\ae wr W1):=by
     refine⟨?_,?_,?_,?_,?_,ZF⟩<;>rw[hW1]<;>simp
    have Z8:=ah<|MF x W1 HXF;subst YW;go_wp2_with fail;rw[<-hW1];clear hW1 t0 t1 t2 t3 t4;refine Z8.mono ?_;rintro e w2 ⟨rfl,hb2⟩;have ZM:=ah<|vY HC1 hb2;clear hb2 Z8 HC1 ZF;have HB2:=ah<|HB.trans<|ZM.2.2.2.2.2.mono HB.size;cases hq:okB x;case false=>
     rw[hq]at HHI;have HN:=ah<|HHI rfl;have HBE:O (ae w w2):=HB1.trans<|HB2.mono HB1.size;go_wp2;go_ret;exact⟨by rw[HE,HN];rfl,HBE⟩
    rw[hq]at HHI HSU;have HRU:=ah<|Dw (f:=x) (HP.below HB2) (HD.below HB2) HXF Zd cq HSH<|HS1.below HB2;obtain⟨c0,c1,c2,c3,c4,-⟩:=ZM.out;clear hq;go_wp2_with fail;refine HRU.mono ?_;rintro e w3 ⟨⟨v,n,rfl,hru,-⟩,hb3⟩;have HC3:=ah<|vY ZM hb3;have HB3:=ah<|HB2.trans<|hb3.mono HB2.size;have hV3:=HV.below HC3.2.2.2.2.2;obtain⟨T,a,rfl,hkd⟩:=hru.kind;have hm:=xY hkd;have HRUN:=ah<|AX hkd;have HFC:=ah<|JX hru<|U1 hV3;have HV3:=ah hV3;clear hru hb3 hkd hV3 HRU c0 c1 c2 c3 c4 ZM;go_wp2_with fail;rw[HRUN.out,Oper.upon_enter];refine HFC.mono ?_;rintro e w4 ⟨rfl,hb4⟩;rw[pX];have HC4:=ah<|vY HC3 hb4;have Z7:=ah<|HB3.trans<|hb4.mono HB3.size;have HV4:=ah<|HV3.below hb4;obtain⟨v,hv⟩:∃v,rz rs ts Q (L.take k) x=v:=⟨_,rfl⟩;rw[hv]at HSU HHI ⊢;clear hb4 hm HRUN HFC HV3 HC3 hv;cases v;case false=>
     have HN:=ah<|HHI rfl;have HBE:O (ae w w4):=HB1.trans<|Z7.mono HB1.size;go_wp2;go_ret;exact⟨by rw[HE,HN];rfl,HBE⟩
    have Zc:O (oQ rs ts Q L (k+1)=true):=by show _=_;rw[HSU,HPK];rfl
    obtain⟨c0,c1,c2,c3,c4,-⟩:=HC4.out;have hz4:cX w1 w4:=XJ HZ HC4.2.2.2.2.2.size;go_wp2_with(at_mapUpdate;refine jw _ rfl _ _ _ 115 rfl 52 107 oO nM underlying115 w1.heap.size k _ rfl HV4 cy x kl rfl ZY (.agg #[]) rfl ?_);intro w5 hM5 hg5;have HV5:O (aL dM prog 52 w5 w1.heap.size (k+1)<|vV<|L.take<|k+1):=by show aL _ _ _ _ _ _ _;rw[HT,<-He];exact hM5
    have HB5:O (ae w1 w5):=Z7.grown hg5 Z7.size (fun g hg=>by injection hg with hg;omega);have HZ5:O (w1.heap.size<w5.heap.size):=XJ hz4 hg5.size;clear hM5 hg5 c0 c1 c2 c3 c4;go_wp2;go_roundw;case rel=>exact⟨k+1,cq,cx,Zc,HV5,HB5,HZ5⟩
    simp[intOf]<;>omega
   have HEE:O (x8 st rs ts L=true):=by
    have e:k=L.length:=cq;show _=_;rw[HE,<-e];exact HPK
   have HBE:O (ae w wr):=HB1.trans<|HB.mono HB1.size;go_wp2;go_ret;exact⟨by rw[HEE];rfl,HBE⟩
  have hd2:(200:Int)<(L.length:Int):=cq;have HN:O (x8 st rs ts L=false):=by show _=_;unfold x8;rw[decide_eq_false h2];simp
  clear hmm;go_wp2;go_ret;exact⟨by rw[HN];rfl,HB1⟩
 have hd1:(L.length:Int)<1:=cq;have HN:O (x8 st rs ts L=false):=by show _=_;unfold x8;rw[decide_eq_false h1];simp
 clear hmm;go_wp2;go_ret;exact⟨by rw[HN];rfl,HB1⟩
end
end Go.Proofs.YtojjoblnpldniaaGreat
