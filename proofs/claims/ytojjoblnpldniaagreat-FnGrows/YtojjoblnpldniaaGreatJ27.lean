/- The library's SortFunc over a row of facts: the same facts, each no higher than those behind it. -/
import Derived.Test.YtojjoblnpldniaaGreatSq
import Derived.Test.YtojjoblnpldniaaGreatJ15
import Derived.Test.YtojjoblnpldniaaGreatJ23
import Derived.Test.YtojjoblnpldniaaGreatShelfS
open Go.Proofs.Tryz
set_option maxHeartbeats 80000000
namespace Go.Proofs.YtojjoblnpldniaaGreat
set_option maxRecDepth 100000
set_option linter.unusedVariables false
open ChangeShapes WideShapes ChangeAt RowKit Maps Go.Shelf Go.Sort
open Pl
theorem rA(f:Fc)(w:ae):
  Calls prog 140 #[.agg #[.string f.a,.string f.b,.string f.r,.string f.c,.string f.d]] w fun e w'=>e=.returned (.agg #[.string f.a,.string f.b,.string f.r,.string f.c,.string f.d,.string ⟨#[]⟩])/\BelowD w.heap.size w w':=by
 go_enter func140,ntmps140;go_wp2;exact bodyPost_ret (v:=.agg #[.string f.a,.string f.b,.string f.r,.string f.c,.string f.d,.string ⟨#[]⟩]) (by simp[results,Tryz.results140,go_sem, *]) rfl ⟨rfl,⟨by
  repeat(first|exact Vs _ _|refine Below.setCell ?_ (by first|(simp;done)|(simp;omega)) _|refine Below.alloc ?_ (by first|(simp;done)|(simp;omega)) _),Vr _⟩⟩
def Sz(x y:Fc):Int:=Ev x.a x.b x.r x.c x.d ⟨#[]⟩ y.a y.b y.r y.c y.d ⟨#[]⟩
theorem SA{w W w':ae}{n m:Nat}{x0 x1 x2 x3 x4 y0 y1 y2 y3 y4:Value}(h:W.cell? ⟨n,0,none⟩=some x0/\W.cell? ⟨n,1,none⟩=some x1/\W.cell? ⟨n,2,none⟩=some x2/\W.cell? ⟨n,3,none⟩=some x3/\W.cell? ⟨n,4,none⟩=some x4/\W.cell? ⟨m,0,none⟩=some y0/\W.cell? ⟨m,1,none⟩=some y1/\W.cell? ⟨m,2,none⟩=some y2/\W.cell? ⟨m,3,none⟩=some y3/\W.cell? ⟨m,4,none⟩=some y4/\BelowD w.heap.size w W)(hb:BelowD W.heap.size W w'):w'.cell? ⟨n,0,none⟩=some x0/\w'.cell? ⟨n,1,none⟩=some x1/\w'.cell? ⟨n,2,none⟩=some x2/\w'.cell? ⟨n,3,none⟩=some x3/\w'.cell? ⟨n,4,none⟩=some x4/\w'.cell? ⟨m,0,none⟩=some y0/\w'.cell? ⟨m,1,none⟩=some y1/\w'.cell? ⟨m,2,none⟩=some y2/\w'.cell? ⟨m,3,none⟩=some y3/\w'.cell? ⟨m,4,none⟩=some y4/\BelowD w.heap.size w w':=by
 obtain⟨h0,h1,h2,h3,h4,g0,g1,g2,g3,g4,hB⟩:=h;exact⟨bW hb.b (aI h0) h0,bW hb.b (aI h1) h1,bW hb.b (aI h2) h2,bW hb.b (aI h3) h3,bW hb.b (aI h4) h4,bW hb.b (aI g0) g0,bW hb.b (aI g1) g1,bW hb.b (aI g2) g2,bW hb.b (aI g3) g3,bW hb.b (aI g4) g4,hB.trans (hb.mono hB.size)⟩
theorem xE(x y:Fc)(w:ae)(hx:x.fits)(hy:y.fits):
  Calls prog 58 #[.agg #[.string x.a,.string x.b,.string x.r,.string x.c,.string x.d],.agg #[.string y.a,.string y.b,.string y.r,.string y.c,.string y.d]] w fun e w'=>e=.returned (.int .i64 (Sz x y))/\BelowD w.heap.size w w':=by
 have he0:(⟨#[]⟩:ByteArray).size<=maxLen:=by decide
 obtain⟨x0,x1,x2,x3,x4⟩:=hx;obtain⟨y0,y1,y2,y3,y4⟩:=hy;obtain⟨W0,hW0⟩:∃W0,W0=(w.alloc (.cells #[.string x.a,.string x.b,.string x.r,.string x.c,.string x.d] 52)).alloc (.cells #[.string y.a,.string y.b,.string y.r,.string y.c,.string y.d] 52):=⟨_,rfl⟩;have HB0:BelowD w.heap.size w W0:=by rw[hW0];exact Lt _ _ _
 have c0:W0.cell? ⟨w.heap.size,0,none⟩=some (.string x.a):=by rw[hW0];simp
 have c1:W0.cell? ⟨w.heap.size,1,none⟩=some (.string x.b):=by rw[hW0];simp
 have c2:W0.cell? ⟨w.heap.size,2,none⟩=some (.string x.r):=by rw[hW0];simp
 have c3:W0.cell? ⟨w.heap.size,3,none⟩=some (.string x.c):=by rw[hW0];simp
 have c4:W0.cell? ⟨w.heap.size,4,none⟩=some (.string x.d):=by rw[hW0];simp
 have e0:W0.cell? ⟨w.heap.size+1,0,none⟩=some (.string y.a):=by rw[hW0];simp
 have e1:W0.cell? ⟨w.heap.size+1,1,none⟩=some (.string y.b):=by rw[hW0];simp
 have e2:W0.cell? ⟨w.heap.size+1,2,none⟩=some (.string y.r):=by rw[hW0];simp
 have e3:W0.cell? ⟨w.heap.size+1,3,none⟩=some (.string y.c):=by rw[hW0];simp
 have e4:W0.cell? ⟨w.heap.size+1,4,none⟩=some (.string y.d):=by rw[hW0];simp
 unfold Sz;go_enter func58,ntmps58;go_wp2_with fail;rw[<-hW0];clear hW0
 go_region_held3 (fun w'=>w'.cell? ⟨w.heap.size,0,none⟩=some (.string x.a)/\w'.cell? ⟨w.heap.size,1,none⟩=some (.string x.b)/\w'.cell? ⟨w.heap.size,2,none⟩=some (.string x.r)/\w'.cell? ⟨w.heap.size,3,none⟩=some (.string x.c)/\w'.cell? ⟨w.heap.size,4,none⟩=some (.string x.d)/\w'.cell? ⟨w.heap.size+1,0,none⟩=some (.string y.a)/\w'.cell? ⟨w.heap.size+1,1,none⟩=some (.string y.b)/\w'.cell? ⟨w.heap.size+1,2,none⟩=some (.string y.r)/\w'.cell? ⟨w.heap.size+1,3,none⟩=some (.string y.c)/\w'.cell? ⟨w.heap.size+1,4,none⟩=some (.string y.d)/\BelowD w.heap.size w w')
  (first|assumption|exact SA (by assumption) hbx|exact⟨c0,c1,c2,c3,c4,e0,e1,e2,e3,e4,HB0.drew⟩)
  (first|(go_at_call_of 140 (Value.agg #[.string x.a,.string x.b,.string x.r,.string x.c,.string x.d]);refine(rA x _).mono ?_;rintro e w' ⟨rfl,hbx⟩)|(go_at_call_of 140 (Value.agg #[.string y.a,.string y.b,.string y.r,.string y.c,.string y.d]);refine(rA y _).mono ?_;rintro e w' ⟨rfl,hbx⟩)|(go_at_call 139;refine(mo x.a x.b x.r x.c x.d ⟨#[]⟩ y.a y.b y.r y.c y.d ⟨#[]⟩ _ x0 x1 x2 x3 x4 he0 y0 y1 y2 y3 y4 he0).mono ?_;rintro e w' ⟨rfl,hbx⟩))
 all_goals(rename_i hJ;obtain⟨-,-,-,-,-,-,-,-,-,-,gB⟩:=hJ;clear c0 c1 c2 c3 c4 e0 e1 e2 e3 e4;go_wp2;go_ret;exact⟨rfl,gB⟩)
abbrev LM:={ f:Fc // f.fits }
def oJ(x:LM):List Value:=x.1.row
def Vh(x y:LM):Int:=Sz x.1 y.1
def FX(x:Fc):List UInt8:=(aV x.a x.b x.r x.c x.d ⟨#[]⟩).toList
def TE(x y:LM):Bool:=Op.bytesLess (FX x.1) (FX y.1)
theorem Q3:ltOf Vh=TE:=by
 funext x y
 unfold ltOf Vh TE Sz Ev FX;rw[oV,Go.ByteArray.toList_eq,Go.ByteArray.toList_eq]
theorem SB:Go.Sort.SWO TE where
 irrefl x:=Ls.lt_irrefl _
 trans x y z h k:=Ls.lt_trans _ _ _ h k
 ntrans x y z h k:=by
  cases e:TE x z;case false=>rfl
  by_cases e1:FX y.1=FX x.1
  ·unfold TE at *;rw[e1]at k;rw[k]at e;cases e
  rcases Ls.lt_total _ _ e1 with h1|h1
  ·have:TE y z=true:=Ls.lt_trans _ _ _ h1 e;rw[k]at this;cases this
  have h:TE x y=false:=h;have h1:TE x y=true:=h1;rw[h]at h1;cases h1
theorem Q4[Inhabited LM](blk off size:Nat)(w:ae):CmpLays prog 58 #[] oJ 5 Vh blk off size w:=fun m os dk _ x y =>
 (xE x.1 y.1 _ x.2 y.2).mono fun e w' ⟨he,hb⟩=>⟨he,hb.grew⟩
def ll(xs:List LM):List Fc:=xs.map (·.1)
theorem lV(xs:List LM):(ll xs).length=xs.length:=by simp[ll]
theorem N7[Inhabited LM](w:ae)(blk off n:Nat)(d:Array LM)(os:Array Obj):Chg (fun g=>g=blk) w (sortWorldK oJ 5 w blk off n d os):=by
 refine⟨⟨rfl,rfl,rfl,?_,fun k hk=>absurd hk (Wx _)⟩,fun k hk hne=>?_,fun g hg hf j=>?_⟩
 ·simp[sortWorldK,grow,putRowK,Sort.ahead]
 ·simp only[sortWorldK,putRowK];rw[heap_grow_old _ _ (by simpa[Sort.ahead] using hk)];have hne:blk≠k:=fun e=>hne e.symm;simp[putRow,mapBlock,Sort.ahead,Array.getElem?_modify,hne]
 simp only[sortWorldK,putRowK];rw[frozen?_grow _ _ _ (by simpa[Sort.ahead] using hg),frozen?_putRow,frozen?_ahead];exact hf j
theorem LP[Inhabited LM]{w:ae}{base g cap:Nat}{xs:List LM}(h:w.ownsRow base 52 5 (.slice (some ⟨g,0,none⟩) xs.length cap) xs.length (aH (ll xs))):HoldsK oJ 5 w g 0 xs.toArray:=by
 intro t ht;rw[size_flatK]at ht;have ht':t<xs.length*5:=by simpa using ht
 have hi:t / 5<xs.length:=by omega
 have hr:t%5<5:=Nat.mod_lt _ (by omega);refine⟨?_,by rw[VQ];exact h.frozenAt t⟩;rw[VQ,h.cellAt t ht',get_flatK _ _ _ _ ht];have e:t=t / 5*5+t%5:=by omega
 have h1:=q8 (ll xs) (t / 5) (by rw[lV];exact hi) (t%5) hr;rw[<-e]at h1;rw[h1];have h2:(xs.toArray)[t / 5]! = xs[t / 5]:=by rw[getElem!_pos xs.toArray _ (by simpa using hi)];simp
 rw[h2];have h3:(ll xs)[t / 5]'(by rw[lV];exact hi)=xs[t / 5].1:=by simp[ll]
 rw[h3];have hl:t%5<(Fc.row xs[t / 5].1).length:=hr;show _=some ((Fc.row xs[t / 5].1)[t%5]!);rw[Vy hl,getElem!_pos (Fc.row xs[t / 5].1) (t%5) hl]
theorem U7[Inhabited LM]{w:ae}{base g n cap:Nat}{xs ys:List LM}(h0:w.ownsRow base 52 5 (.slice (some ⟨g,0,none⟩) n cap) n (aH (ll xs)))(hx:xs.length=n)(hl:ys.length=n)(m:Nat)(os:Array Obj):(sortWorldK oJ 5 w g 0 m ys.toArray os).ownsRow base 52 5 (.slice (some ⟨g,0,none⟩) n cap) n (aH (ll ys)):=by
 subst hx;have hg:=(h0.lt g rfl).2;have hH:=holdsK_sortWorldK_c oJ 5 w g 0 xs.toArray ys.toArray m os (LP h0) hg (by simpa using hl);have hlen:(aH (ll ys)).length=xs.length*5:=by rw[lN,lV,hl]
 refine⟨hlen,.inr ?_⟩;rcases h0.2 with⟨e,-⟩|⟨g',cap',cur,e,h1,h2,h3,h4,h5,-⟩
 ·cases e
 injection e with e1 e2 e3;injection e1 with e1;injection e1 with e1;subst e1;subst e3;have hb:(sortWorldK oJ 5 w g 0 m ys.toArray os).heap[g]?=some (.cells (putCells id 0 (flatK oJ 5 ys.toArray) cur) 52 (0,0)):=by
  simp only[sortWorldK,putRowK];rw[heap_grow_old _ _ (by simpa[Sort.ahead] using hg)];simp[putRow,mapBlock,Sort.ahead,Array.getElem?_modify,h2,onCells]
 refine⟨g,cap,_,rfl,h1,hb,h3,h4,by simp only[putCells,Array.size_mapIdx];exact h5,?_⟩;refine List.ext_getElem? fun j=>?_;by_cases hj:j<xs.length*5
 ·rw[List.getElem?_take_of_lt hj];have hi:j / 5<ys.length:=by omega
  have h6:=(hH j (by rw[size_flatK];simpa[hl] using hj)).1;rw[VQ,get_flatK _ _ _ _ (by simpa[hl] using hj)]at h6;replace h6:(sortWorldK oJ 5 w g 0 m ys.toArray os).cell? ⟨g,j,none⟩=some ((oJ (ys.toArray)[j / 5]!)[j%5]!):=h6;have h7:(putCells id 0 (flatK oJ 5 ys.toArray) cur).toList[j]?=some ((oJ (ys.toArray)[j / 5]!)[j%5]!):=by
   rw[<-h6];simp[World.cell?,hb]
  rw[h7];have e:j=j / 5*5+j%5:=by omega
  have h8:=q8 (ll ys) (j / 5) (by rw[lV];exact hi) (j%5) (Nat.mod_lt _ (by omega));rw[<-e]at h8;rw[h8];have h9:(ys.toArray)[j / 5]! = ys[j / 5]:=by rw[getElem!_pos ys.toArray _ (by simpa using hi)];simp
  have h10:(ll ys)[j / 5]'(by rw[lV];exact hi)=ys[j / 5].1:=by simp[ll]
  rw[h9,h10];have hl2:j%5<(Fc.row ys[j / 5].1).length:=Nat.mod_lt _ (by omega);show some ((Fc.row ys[j / 5].1)[j%5]!)=_;rw[Vy hl2,getElem!_pos (Fc.row ys[j / 5].1) (j%5) hl2]
 rw[List.getElem?_eq_none (by rw[Wi];omega),List.getElem?_eq_none (by omega)]
theorem N8(base g cap:Nat)(fs:Q04)(w:ae)(hf:∀f∈fs,f.fits)(hR:w.ownsRow base 52 5 (.slice (some ⟨g,0,none⟩) fs.length cap) fs.length (aH fs))(hne:fs≠[])(h6:fs.length<=200000):
  Calls prog 57 #[.slice (some ⟨g,0,none⟩) fs.length cap,.func (.func 58) #[] #[]] w fun e w'=>e=.returned (.tuple #[])/\∃ys:List Fc,ys.Perm fs/\ys.Pairwise (fun x y=>Op.bytesLess (FX y) (FX x)=false)/\w'.ownsRow base 52 5 (.slice (some ⟨g,0,none⟩) fs.length cap) fs.length (aH ys)/\Chg (fun k=>k=g) w w':=by
 obtain⟨xs,hxs⟩:∃xs:List LM,ll xs=fs:=⟨fs.attach.map fun x=>⟨x.1,hf x.1 x.2⟩,by unfold ll;rw[List.map_map];simp[Function.comp_def]⟩;subst hxs;rw[lV]at hR h6 ⊢;cases xs with
 | nil=>exact absurd rfl hne
 | cons x0 YH =>
  letI:Inhabited LM:=⟨x0⟩
  have hg:=hR.lt g rfl;have eg:∀args w,(callFunc 58 args).run prog w=.ok (.enter 58 args) w:=enters_of func58 (by kernel_rfl) rfl;have hs:=AnyQ.slices_SortFunc Tryz.sortF 5 Tryz.isAgg52 Tryz.sizeOf52 oJ (fun _=>rfl) (fun x v hv=>by simp[oJ,Fc.row]at hv;rcases hv with rfl|rfl|rfl|rfl|rfl<;>rfl) Vh (by rw[Q3];exact SB) 58 #[] g 0 cap (x0::YH).toArray w eg (Q4 g 0 _ w) (LP hR) hg.2 (by simp at h6⊢;omega)
  change Calls prog 57 _ _ _ at hs
  rw[Q3]at hs;refine hs.mono fun e w' ⟨he,d',n,os,hp,hso,hw⟩=>⟨he,ll d'.toList,?_,?_,?_,?_⟩
  ·have:=hp.2.2;have h2:d'.toList.Perm (x0::YH):=by simpa[Array.extract_eq_self_of_le,hp.1] using this
   exact h2.map _
  ·have hz:d'.size=YH.length+1:=by simpa using hp.1
   unfold ll;rw[List.pairwise_map,List.pairwise_iff_getElem];intro i j hi hj hij;have hi2:i<d'.size:=by simpa using hi
   have hj2:j<d'.size:=by simpa using hj
   have hlt:=hso i j (Vv _) hij (by rw[hz]at hj2;simpa using hj2);rw[getElem!_pos d' j hj2,getElem!_pos d' i hi2]at hlt;exact hlt
  ·rw[hw];have hz:d'.toList.length=(x0::YH).length:=by simpa using hp.1
   have:=U7 hR rfl hz n os;simpa using this
  rw[hw];exact N7 w g 0 n d' os
theorem Iq(p:Q02)(cap:Nat)(fv:Value)(w:ae):
  Calls prog 206 #[.slice p 0 cap,.int .i64 0,.int .i64 0,fv] w fun e w'=>e=.returned (.tuple #[])/\w'=w:=by
 go_enter func206,ntmps206;go_wp2_with fail;go_loopw[8] (fun i wr=>i=.int .i64 1/\wr=w) (fun _ _=>0);case atStart=>exact⟨rfl,rfl⟩
 obtain⟨rfl,rfl⟩:=hrel;go_wp2
 go_end0
 exact⟨rfl,rfl⟩
theorem Q5(p:Q02)(cap:Nat)(lim:Int)(fv:Value)(w:ae):
  Calls prog 137 #[.slice p 0 cap,.int .i64 0,.int .i64 0,.int .i64 lim,fv] w fun e w'=>e=.returned (.tuple #[])/\w'=w:=by
 go_enter func137,ntmps137;go_wp2_with fail;go_loopw[1,2] (fun a b wr=>a=.int .i64 0/\b=.int .i64 0/\wr=w) (fun _ _ _=>0);case atStart=>exact⟨rfl,rfl,rfl⟩
 obtain⟨rfl,rfl,rfl⟩:=hrel;go_wp2_with fail;refine(Iq p cap fv _).mono ?_;rintro e w1 ⟨rfl,rfl⟩;go_wp2;refine bodyPost_ret (results_none rfl _ _ _) rfl ?_;exact⟨rfl,rfl⟩
theorem N9(p:Q02)(cap:Nat)(fv:Value)(w:ae):
  Calls prog 57 #[.slice p 0 cap,fv] w fun e w'=>e=.returned (.tuple #[])/\w'=w:=by
 go_enter func57,ntmps57;go_wp2_with fail;refine(Tryz.bits_Len 0 _ (by omega) (by omega)).mono ?_;rintro e w1 ⟨rfl,rfl⟩;go_wp2_with fail;refine(Q5 p cap _ fv _).mono ?_;rintro e w1 ⟨rfl,rfl⟩;go_wp2
 go_end0
 exact⟨rfl,rfl⟩
theorem oK{w w':ae}{base:Nat}{e:TypeId}{size:Nat}{v:Value}{n:Nat}{xs:Q03}(h:w.ownsRow base e size v n xs)(hh:∀g,v.ownBlock=some g->w'.heap[g]?=w.heap[g]?):w'.ownsRow base e size v n xs:=by
 refine⟨h.1,?_⟩;rcases h.2 with hl|⟨g,cap,cur,rfl,h1,h2,h3⟩
 ·exact .inl hl
 exact .inr ⟨g,cap,cur,rfl,h1,(hh g rfl).trans h2,h3⟩
theorem BM{w:ae}{base size n:Nat}{e:TypeId}{v:Value}{xs:Q03}(h:w.ownsRow base e size v n xs):∃ad cap,v=.slice ad n cap:=by
 rcases h.2 with⟨rfl,h0⟩|⟨g,cap,cur,rfl,-⟩
 ·exact⟨none,0,by rw[h0]⟩
 exact⟨_,_,rfl⟩
theorem Ef{w:ae}{base size n cap:Nat}{e:TypeId}{ad:Q02}{xs:Q03}(h:w.ownsRow base e size (.slice ad n cap) n xs)(hn:n≠0):∃g,ad=some ⟨g,0,none⟩/\(Value.slice ad n cap).ownBlock=some g:=by
 rcases h.2 with⟨-,h0⟩|⟨g,cap',cur,e1,-⟩
 ·exact absurd h0 hn
 injection e1 with e1;exact⟨g,e1,by rw[e1];rfl⟩
theorem xG{w:ae}{base base' size n:Nat}{e:TypeId}{v:Value}{xs:Q03}(h:w.ownsRow base e size v n xs)(hb:base'<=base):w.ownsRow base' e size v n xs:=by
 refine⟨h.1,?_⟩;rcases h.2 with hl|⟨g,cap,cur,e,h1,h2⟩
 ·exact .inl hl
 exact .inr ⟨g,cap,cur,e,Vz hb h1,h2⟩
theorem SC{w:ae}{base size n cap:Nat}{e:TypeId}{ad:Q02}{xs:Q03}(h:w.ownsRow base e size (.slice ad n cap) n xs):n<=cap:=by
 rcases h.2 with⟨e1,h0⟩|⟨g,cap',cur,e1,-,-,hnc,-⟩
 ·injection e1 with _ e2 e3;omega
 injection e1 with _ e2 e3;omega
theorem KF(xs:Q04):∀p,aH (xs.take p)=(aH xs).take (p*5):=by
 induction xs with
 | nil=>intro p;simp[aH]
 | cons x xs ih =>
  intro p;cases p with
  | zero=>simp[aH]
  | succ p =>
   have ih:=ih p;unfold aH at ih⊢;rw[List.take_succ_cons,VX,VX,ih,show(p+1)*5=p*5+1+1+1+1+1 by omega];simp[Fc.row]
theorem KG(xs:Q04):∀p,aH (xs.drop p)=(aH xs).drop (p*5):=by
 induction xs with
 | nil=>intro p;simp[aH]
 | cons x xs ih =>
  intro p;cases p with
  | zero=>simp[aH]
  | succ p =>
   have ih:=ih p;unfold aH at ih⊢;rw[List.drop_succ_cons,VX,ih,show(p+1)*5=p*5+1+1+1+1+1 by omega];simp[Fc.row]
theorem BN{w:ae}{base g n cap:Nat}{xs:Q04}(h:w.ownsRow base 52 5 (.slice (some ⟨g,0,none⟩) n cap) n (aH xs))(p:Nat)(hp:p<=n):∀j u,(aH (xs.take p))[j]?=some u->w.cell? ((⟨g,0,none⟩:Addr).add j)=some u:=fun j u hu=>by
 rw[KF,List.getElem?_take]at hu;split at hu
 ·rename_i hj;have:=h.cellAt j (by omega);rw[hu]at this;have e:(⟨g,0,none⟩:Addr).add j=⟨g,j,none⟩:=by unfold Addr.add;split<;>simp_all
  rw[e];exact this
 cases hu
theorem KH{w:ae}{base g n cap:Nat}{xs:Q04}(h:w.ownsRow base 52 5 (.slice (some ⟨g,0,none⟩) n cap) n (aH xs))(p:Nat)(hp:p<=n):∀j u,(aH (xs.drop p))[j]?=some u->w.cell? ((⟨g,p*5,none⟩:Addr).add j)=some u:=fun j u hu=>by
 rw[KG,List.getElem?_drop]at hu;have hl:=h.1;have hj:p*5+j<n*5:=by
  rw[<-hl];exact(List.getElem?_eq_some_iff.1 hu).1
 have:=h.cellAt (p*5+j) hj;rw[hu]at this;have e:(⟨g,p*5,none⟩:Addr).add j=⟨g,p*5+j,none⟩:=by unfold Addr.add;split<;>simp_all
 rw[e];exact this
theorem wH(xs:Q04):∀u∈aH xs,u.oneCell'=true:=fun u hu=>by
 obtain⟨q,-,h⟩:=VJ.1 hu;simp only[Fc.row,VH,List.not_mem_nil,or_false]at h;rcases h with rfl|rfl|rfl|rfl|rfl<;>rfl
theorem KI{w:ae}{a:Addr}{xs:Q04}(h:xs=[]):∀j u,(aH xs)[j]?=some u->w.cell? (a.add j)=some u:=fun j u hu=>by
 rw[h]at hu;simp[aH]at hu
def oL(x y:Fc):Bool:=fO x.a x.b x.r x.c x.d ⟨#[]⟩ y.a y.b y.r y.c y.d ⟨#[]⟩
theorem LQ{w W w':ae}{n m i0 i1 i2 i3 i4 j0 j1 j2 j3 j4:Nat}{x0 x1 x2 x3 x4 y0 y1 y2 y3 y4:Value}(h:W.cell? ⟨n,i0,none⟩=some x0/\W.cell? ⟨n,i1,none⟩=some x1/\W.cell? ⟨n,i2,none⟩=some x2/\W.cell? ⟨n,i3,none⟩=some x3/\W.cell? ⟨n,i4,none⟩=some x4/\W.cell? ⟨m,j0,none⟩=some y0/\W.cell? ⟨m,j1,none⟩=some y1/\W.cell? ⟨m,j2,none⟩=some y2/\W.cell? ⟨m,j3,none⟩=some y3/\W.cell? ⟨m,j4,none⟩=some y4/\ag w W)(hb:ag W w'):w'.cell? ⟨n,i0,none⟩=some x0/\w'.cell? ⟨n,i1,none⟩=some x1/\w'.cell? ⟨n,i2,none⟩=some x2/\w'.cell? ⟨n,i3,none⟩=some x3/\w'.cell? ⟨n,i4,none⟩=some x4/\w'.cell? ⟨m,j0,none⟩=some y0/\w'.cell? ⟨m,j1,none⟩=some y1/\w'.cell? ⟨m,j2,none⟩=some y2/\w'.cell? ⟨m,j3,none⟩=some y3/\w'.cell? ⟨m,j4,none⟩=some y4/\ag w w':=by
 obtain⟨h0,h1,h2,h3,h4,k0,k1,k2,k3,k4,hB⟩:=h;exact⟨bW hb (aI h0) h0,bW hb (aI h1) h1,bW hb (aI h2) h2,bW hb (aI h3) h3,bW hb (aI h4) h4,bW hb (aI k0) k0,bW hb (aI k1) k1,bW hb (aI k2) k2,bW hb (aI k3) k3,bW hb (aI k4) k4,hB.trans (hb.mono hB.size)⟩
theorem KJ(ad:Q02)(cap:Nat)(rows:Q04)(w:ae)(hlen:rows.length<=1048576)(hs:Au w ad rows)(hfit:∀x∈rows,x.fits):
  Calls prog 60 #[.slice ad rows.length cap] w fun e w'=>(∃v:Value,e=.returned v/\w'.ownsRow w.heap.size 52 5 v rows.length (aH (kC oL rows)))/\ag w w':=by
 obtain⟨iR,hiR,zR0,zR1,zR2⟩:=Fb;have XM:Hid (prog.info? 52=some iR/\iR.zero=some (.agg #[.string ⟨#[]⟩,.string ⟨#[]⟩,.string ⟨#[]⟩,.string ⟨#[]⟩,.string ⟨#[]⟩])/\iR.size=5/\iR.bytes=80):=⟨hiR,zR0,zR1,zR2⟩;have HS:=aF hs;have WR:=aF hfit;clear hs hfit hiR zR0 zR1 zR2;obtain⟨W0,hW0⟩:∃W0,W0=w.alloc (.cells #[] 52):=⟨_,rfl⟩;have HB0:=sH hW0;have Yd:Hid (W0.ownsRow w.heap.size 52 5 (.slice (some ⟨w.heap.size,0,none⟩) 0 0) 0 []):=by
  show World.ownsRow _ _ _ _ _ _ _;rw[hW0];exact World.ownsRow_lit w #[] 0 (Vr _) (by unfold maxLen;omega) (by simp)
 go_enter func60,ntmps60;go_wp2_with fail;rw[<-hW0];clear hW0;go_loopw[3,4] (fun v i wr=>∃(k g c:Nat),k<=rows.length/\i=.int .i64 k/\v=.slice (some ⟨g,0,none⟩) k c/\Hid (wr.ownsRow w.heap.size 52 5 (.slice (some ⟨g,0,none⟩) k c) k (aH (kC oL (rows.take k))))/\Hid (ag w wr)) (fun _ i _=>rows.length-(intOf i).toNat);case atStart=>exact⟨0,w.heap.size,0,Vv _,rfl,rfl,Yd,HB0⟩
 clear Yd HB0;obtain⟨k,g,c,hk,rfl,rfl,HO,HB⟩:=hrel;by_cases hlt:k<rows.length
 ·obtain⟨acc,hacc⟩:∃acc,acc=kC oL (rows.take k):=⟨_,rfl⟩;obtain⟨b,off,WO,hrow,hbl⟩:∃b off,ad=some ⟨b,off,none⟩/\MO w b (off+k*5) rows[k]/\b<w.heap.size:=by
   rcases HS.out with h|⟨b',off',e,hb,hr⟩
   ·rw[h]at hlt;simp at hlt
   exact⟨b',off',e,hr k hlt,hb⟩
  obtain⟨x,hx⟩:∃x,rows[k]=x:=⟨_,rfl⟩;have HNX:Hid (kC oL (rows.take (k+1))=qF oL x acc):=by show _=_;rw[Vu hlt,Jk,hacc,hx]
  have hal:acc.length=k:=by rw[hacc,(gY _).length_eq,Wi];omega
  have Zh:Hid x.fits:=by show Fc.fits x;rw[<-hx];exact WR.out _ (Vp hlt)
  have HAF:Hid (∀z∈acc,z.fits):=fun z hz=>by
   rw[hacc]at hz;exact WR.out z (List.mem_of_mem_take ((gY _).mem_iff.1 hz))
  rw[<-hacc]at HO;rw[hx]at hrow;have WX:=aF hal;have hkc:k<=c:=SC HO.out;have hk1:=bC k;have hk2:(k:Int)<(rows.length:Int):=by omega
  have XB:=aF hrow;have HBL:=aF hbl;obtain⟨wo,hwo⟩:∃wo,wo=wr:=⟨_,rfl⟩;subst hwo;subst WO;clear hacc hal hrow hbl hx;go_wp2_with fail;go_loopw[5] (fun i wr=>∃p:Nat,p<=k/\i=.int .i64 p/\Hid (∀(i:Nat) (h:i<acc.length),i<p->oL acc[i] x=true)/\Hid (ag wo wr)) (fun i _=>k-(intOf i).toNat);case atStart=>exact⟨0,Vv _,rfl,fun i h hi=>absurd hi (Wx _),Vs _ _⟩
  obtain⟨p,hp,rfl,HU,HBP⟩:=hrel;have HOP:Hid (wr.ownsRow w.heap.size 52 5 (.slice (some ⟨g,0,none⟩) k c) k (aH acc)):=oK HO.out fun z hz=>HBP.out.block z (HO.out.lt z hz).2;have HBWP:Hid (ag w wr):=HB.out.trans (HBP.out.mono HB.out.size);obtain⟨y0,y1,y2,y3,y4⟩:=XB.out.same (fun o=>HBWP.out.cell (p:=⟨b,o,none⟩) HBL.out);have hbr:b<wr.heap.size:=Vq HBL.out HBWP.out.size;have hgr:g<wr.heap.size:=(HOP.out.lt g rfl).2;have hp1:=bC p;by_cases hpk:p<k
  ·have hp2:(p:Int)<(k:Int):=by omega
   have hd:decide ((p:Int)<(k:Int))=true:=by simp;omega
   have hpa:p<acc.length:=by rw[WX.out];exact hpk
   obtain⟨y,hy⟩:∃y,acc[p]=y:=⟨_,rfl⟩;have hc5:∀c,c<5->wr.cell? ⟨g,p*5+c,none⟩=y.row[c]?:=fun c hc=>by
    rw[HOP.out.cellAt (p*5+c) (by omega),q8 acc p hpa c hc,hy]
   have s0:wr.cell? ⟨g,p*5,none⟩=some (.string y.a):=hc5 0 (by omega);have s1:wr.cell? ⟨g,p*5+1,none⟩=some (.string y.b):=hc5 1 (by omega);have s2:wr.cell? ⟨g,p*5+2,none⟩=some (.string y.r):=hc5 2 (by omega);have s3:wr.cell? ⟨g,p*5+3,none⟩=some (.string y.c):=hc5 3 (by omega);have s4:wr.cell? ⟨g,p*5+4,none⟩=some (.string y.d):=hc5 4 (by omega);have hyf:y.fits:=by rw[<-hy];exact HAF.out _ (Vp hpa)
   have HC:Hid (∀W':World,Calls prog 142 #[.agg #[.string y.a,.string y.b,.string y.r,.string y.c,.string y.d],.agg #[.string x.a,.string x.b,.string x.r,.string x.c,.string x.d]] W' fun e w'=>e=.returned (.bool (oL y x))/\ag W' w'):=fun W'=>vI _ _ _ _ _ _ _ _ _ _ W' hyf.1 hyf.2.1 hyf.2.2.1 hyf.2.2.2.1 hyf.2.2.2.2 Zh.out.1 Zh.out.2.1 Zh.out.2.2.1 Zh.out.2.2.2.1 Zh.out.2.2.2.2;clear hc5 hyf;have HYE:=aF hy;clear hy;have hbp:=HBP.out;cases hq:oL y x;case true=>
    have HU2:Hid (∀(i:Nat) (h:i<acc.length),i<p+1->oL acc[i] x=true):=fun i h hi=>by
     by_cases e:i=p
     ·subst e;rw[HYE.out];exact hq
     exact HU.out i h (by omega)
    rw[hq]at HC;clear hq;go_wp2_with fail
    go_region_held3 (fun w'=>w'.cell? ⟨g,p*5,none⟩=some (.string y.a)/\w'.cell? ⟨g,p*5+1,none⟩=some (.string y.b)/\w'.cell? ⟨g,p*5+2,none⟩=some (.string y.r)/\w'.cell? ⟨g,p*5+3,none⟩=some (.string y.c)/\w'.cell? ⟨g,p*5+4,none⟩=some (.string y.d)/\w'.cell? ⟨b,off+k*5,none⟩=some (.string x.a)/\w'.cell? ⟨b,off+k*5+1,none⟩=some (.string x.b)/\w'.cell? ⟨b,off+k*5+2,none⟩=some (.string x.r)/\w'.cell? ⟨b,off+k*5+3,none⟩=some (.string x.c)/\w'.cell? ⟨b,off+k*5+4,none⟩=some (.string x.d)/\ag wo w')
     (first|assumption|exact LQ (by assumption) hbx|exact⟨s0,s1,s2,s3,s4,y0,y1,y2,y3,y4,hbp.drew⟩)
     (first|(go_at_call 142;refine(HC.out _).mono ?_;rintro e w' ⟨rfl,hbx⟩))
    rename_i hJ;have HJB:=aF hJ.2.2.2.2.2.2.2.2.2.2;have Zu:Hid (wr.heap.size<=w'.heap.size):=by show _<=_;exact Vz (by first|exact Vr _|simp) hbx.size
    clear hJ s0 s1 s2 s3 s4 y0 y1 y2 y3 y4 hd;go_wp2;go_roundw;case rel=>exact⟨p+1,by omega,by go_num,HU2,HJB⟩
    simp[intOf]<;>omega
   have HPT:Hid (qF oL x acc=acc.take p++x::acc.drop p):=EF (by rw[WX.out];exact hp) HU.out (fun _=>by rw[HYE.out];exact hq);rw[hq]at HC;clear hq;go_wp2_with fail
   go_region_held3 (fun w'=>w'.cell? ⟨g,p*5,none⟩=some (.string y.a)/\w'.cell? ⟨g,p*5+1,none⟩=some (.string y.b)/\w'.cell? ⟨g,p*5+2,none⟩=some (.string y.r)/\w'.cell? ⟨g,p*5+3,none⟩=some (.string y.c)/\w'.cell? ⟨g,p*5+4,none⟩=some (.string y.d)/\w'.cell? ⟨b,off+k*5,none⟩=some (.string x.a)/\w'.cell? ⟨b,off+k*5+1,none⟩=some (.string x.b)/\w'.cell? ⟨b,off+k*5+2,none⟩=some (.string x.r)/\w'.cell? ⟨b,off+k*5+3,none⟩=some (.string x.c)/\w'.cell? ⟨b,off+k*5+4,none⟩=some (.string x.d)/\ag wo w')
    (first|assumption|exact LQ (by assumption) hbx|exact⟨s0,s1,s2,s3,s4,y0,y1,y2,y3,y4,hbp.drew⟩)
    (first|(go_at_call 142;refine(HC.out _).mono ?_;rintro e w' ⟨rfl,hbx⟩))
   rename_i hJ;have HJB:=aF hJ.2.2.2.2.2.2.2.2.2.2;have Zu:Hid (wr.heap.size<=w'.heap.size):=by show _<=_;exact Vz (by first|exact Vr _|simp) hbx.size
   obtain⟨X,hX⟩:∃X,w'=X:=⟨_,rfl⟩;subst hX;have Xh:=aC HJB;have HSX:Hid (wr.heap.size<=w'.heap.size):=by show _<=_;exact Zu.out
   clear hJ s0 s1 s2 s3 s4 hd HC HYE hbp HJB Zu;clear y0 y1 y2 y3 y4 hbr HOP HBWP HBP HU;obtain⟨W1,hW1⟩:∃W1,W1=w'.alloc (.cells #[] 52):=⟨_,rfl⟩;have Xx:Hid (W1.ownsRow w'.heap.size 52 5 (.slice (some ⟨w'.heap.size,0,none⟩) 0 0) 0 []):=by
    show World.ownsRow _ _ _ _ _ _ _;rw[hW1];exact World.ownsRow_lit w' #[] 0 (Vr _) (by unfold maxLen;omega) (by simp)
   have HB1:=sH hW1;have HBO1:Hid (ag wo W1):=Xh.out.trans (HB1.out.mono Xh.out.size);have HR1:Hid (W1.ownsRow w.heap.size 52 5 (.slice (some ⟨g,0,none⟩) k c) k (aH acc)):=oK HO.out fun z hz=>HBO1.out.block z (HO.out.lt z hz).2;have hz1:w'.heap.size<=W1.heap.size:=HB1.out.size;have hgX:g<w'.heap.size:=Vq (HO.out.lt g rfl).2 Xh.out.size;have hpc:p<=c:=by omega
   go_wp2_with(at_builtin;go_must (rw[<-hW1];clear hW1;refine wpList_append_own_at _ rfl _ _ 44 rfl w'.heap.size 52 iR (.agg #[.string ⟨#[]⟩,.string ⟨#[]⟩,.string ⟨#[]⟩,.string ⟨#[]⟩,.string ⟨#[]⟩]) 5 80 underlying44 XM.out.1 XM.out.2.1 XM.out.2.2.1 XM.out.2.2.2 rfl (by decide) _ 0 [] rfl Xx.out ⟨g,0,none⟩ p c (aH (acc.take p)) rfl (by rw[lN,Wi];congr 1;have:=WX.out;omega) (BN HR1.out p hp) (wH _) (by unfold maxLen;omega) (by omega) hz1 ?_));intro v2 w2 hown2 Xk _ _;have WL:Hid (w2.ownsRow w'.heap.size 52 5 v2 p (aH (acc.take p))):=by
    show World.ownsRow _ _ _ _ _ _ _
    first|exact hown2|(rw[VQ,Ww]at hown2;exact hown2)|simpa using hown2
   have HB2:Hid (ag w' w2):=HB1.out.grown Xk HB1.out.size (fun z hz=>by simp[Value.ownBlock]at hz;omega);have hz2:w'.heap.size<=w2.heap.size:=HB2.out.size;have Zb:Hid (ag w w2):=(HB.out.trans (Xh.out.mono HB.out.size)).trans (HB2.out.mono (Vz HB.out.size Xh.out.size));obtain⟨y0,y1,y2,y3,y4⟩:=XB.out.same (fun o=>Zb.out.cell (p:=⟨b,o,none⟩) HBL.out);have hbr:b<w2.heap.size:=Vq HBL.out Zb.out.size;obtain⟨W3,hW3⟩:∃W3,W3=w2.alloc (.cells #[.string x.a,.string x.b,.string x.r,.string x.c,.string x.d] 52):=⟨_,rfl⟩;have Xc:Hid (W3.ownsRow w'.heap.size 52 5 v2 p (aH (acc.take p))):=by show World.ownsRow _ _ _ _ _ _ _;rw[hW3];exact WL.out.alloc _
   have Yw:Hid (∀j u,x.row[j]?=some u->W3.cell? ((⟨w2.heap.size,0,none⟩:Addr).add j)=some u):=by show ∀j u,_;rw[hW3];exact LC w2 x
   have HB3:Hid (ag w' W3):=by show Below _ _ _;rw[hW3];exact HB2.out.alloc HB2.out.size _
   have hz3:w'.heap.size<=W3.heap.size:=HB3.out.size;clear hown2 Xk Xx HB1 HBO1 HR1 hz1;go_wp2_with(at_builtin;go_must (rw[<-hW3];clear hW3;refine wpList_append_own_at _ rfl _ _ 44 rfl w'.heap.size 52 iR (.agg #[.string ⟨#[]⟩,.string ⟨#[]⟩,.string ⟨#[]⟩,.string ⟨#[]⟩,.string ⟨#[]⟩]) 5 80 underlying44 XM.out.1 XM.out.2.1 XM.out.2.2.1 XM.out.2.2.2 rfl (by decide) v2 p (aH (acc.take p)) rfl Xc.out ⟨w2.heap.size,0,none⟩ 1 1 x.row rfl rfl Yw.out (by simp[Fc.row,Value.oneCell']) (by unfold maxLen;omega) (by omega) hz3 ?_));intro v4 w4 Xp X7 _ _;have WZ:=aC Xp;have Xt:Hid (ag w' w4):=HB3.out.grown X7 HB3.out.size (fun z hz=>(WL.out.lt z hz).1);have hz4:w'.heap.size<=w4.heap.size:=Xt.out.size;have HBO4:Hid (ag wo w4):=Xh.out.trans (Xt.out.mono Xh.out.size);have HR4:Hid (w4.ownsRow w.heap.size 52 5 (.slice (some ⟨g,0,none⟩) k c) k (aH acc)):=oK HO.out fun z hz=>HBO4.out.block z (HO.out.lt z hz).2;clear Xp X7 Xc WL Yw HB3 hz3 HB2 hz2 Zb y0 y1 y2 y3 y4 hbr;go_wp2_with(at_builtin;go_must (refine wpList_append_own_at _ rfl _ _ 44 rfl w'.heap.size 52 iR (.agg #[.string ⟨#[]⟩,.string ⟨#[]⟩,.string ⟨#[]⟩,.string ⟨#[]⟩,.string ⟨#[]⟩]) 5 80 underlying44 XM.out.1 XM.out.2.1 XM.out.2.2.1 XM.out.2.2.2 rfl (by decide) v4 (p+1) (aH (acc.take p)++x.row) rfl WZ.out ⟨g,p*5,none⟩ (k-p) (c-p) (aH (acc.drop p)) rfl (by rw[lN,WB];have:=WX.out;congr 1;omega) (KH HR4.out p hp) (wH _) (by unfold maxLen;omega) (by omega) hz4 ?_));intro v5 w5 hown5 hgr5 _ _;have hn5:p+1+(k-p)=k+1:=by omega
   have XD:Hid (ag w' w5):=Xt.out.grown hgr5 Xt.out.size (fun z hz=>(WZ.out.lt z hz).1);have hown6:w5.ownsRow w'.heap.size 52 5 v5 (k+1) (aH (kC oL (rows.take (k+1)))):=by
    rw[HNX.out,HPT.out,aH,Wj,VX,<-hn5];exact hown5
   obtain⟨ad5,c5,rfl⟩:=BM hown6;obtain⟨g5,rfl,-⟩:=Ef hown6 (Nat.succ_ne_zero _);have XL:=aF (xG hown6 (Vz HB.out.size Xh.out.size));have Ze:Hid (ag w w5):=(HB.out.trans (Xh.out.mono HB.out.size)).trans (XD.out.mono (Vz HB.out.size Xh.out.size));clear hown5 hown6 hgr5 hn5;go_wp2;go_roundw;case rel=>exact⟨k+1,g5,c5,by omega,by go_num,by first|rfl|simp,XL,Ze⟩
   simp[intOf]<;>omega
  have hd:decide ((p:Int)<(k:Int))=false:=by simp;omega
  have hpe:¬(p:Int)<(k:Int):=by omega
  have HPT:Hid (qF oL x acc=acc.take p++x::acc.drop p):=EF (by rw[WX.out];exact hp) HU.out (fun h=>absurd (by rw[WX.out]at h;exact h) hpk);go_wp2_with fail;go_quiet (fail);clear hd hpe;obtain⟨X,hX⟩:∃X,wr.drewN nq=X:=⟨_,rfl⟩;have Xh:Hid (ag wo X):=by show Below _ _ _;rw[<-hX];exact below_drewN HBP.out _
  have HSX:Hid (wr.heap.size<=X.heap.size):=by show _<=_;rw[<-hX];exact Vr _
  rw[hX];clear hX y0 y1 y2 y3 y4 hbr HOP HBWP HBP HU;obtain⟨W1,hW1⟩:∃W1,W1=X.alloc (.cells #[] 52):=⟨_,rfl⟩;have Xx:Hid (W1.ownsRow X.heap.size 52 5 (.slice (some ⟨X.heap.size,0,none⟩) 0 0) 0 []):=by
   show World.ownsRow _ _ _ _ _ _ _;rw[hW1];exact World.ownsRow_lit X #[] 0 (Vr _) (by unfold maxLen;omega) (by simp)
  have HB1:=sH hW1;have HBO1:Hid (ag wo W1):=Xh.out.trans (HB1.out.mono Xh.out.size);have HR1:Hid (W1.ownsRow w.heap.size 52 5 (.slice (some ⟨g,0,none⟩) k c) k (aH acc)):=oK HO.out fun z hz=>HBO1.out.block z (HO.out.lt z hz).2;have hz1:X.heap.size<=W1.heap.size:=HB1.out.size;have hgX:g<X.heap.size:=Vq (HO.out.lt g rfl).2 Xh.out.size;have hpc:p<=c:=by omega
  go_wp2_with(at_builtin;go_must (rw[<-hW1];clear hW1;refine wpList_append_own_at _ rfl _ _ 44 rfl X.heap.size 52 iR (.agg #[.string ⟨#[]⟩,.string ⟨#[]⟩,.string ⟨#[]⟩,.string ⟨#[]⟩,.string ⟨#[]⟩]) 5 80 underlying44 XM.out.1 XM.out.2.1 XM.out.2.2.1 XM.out.2.2.2 rfl (by decide) _ 0 [] rfl Xx.out ⟨g,0,none⟩ p c (aH (acc.take p)) rfl (by rw[lN,Wi];congr 1;have:=WX.out;omega) (BN HR1.out p hp) (wH _) (by unfold maxLen;omega) (by omega) hz1 ?_));intro v2 w2 hown2 Xk _ _;have WL:Hid (w2.ownsRow X.heap.size 52 5 v2 p (aH (acc.take p))):=by
   show World.ownsRow _ _ _ _ _ _ _
   first|exact hown2|(rw[VQ,Ww]at hown2;exact hown2)|simpa using hown2
  have HB2:Hid (ag X w2):=HB1.out.grown Xk HB1.out.size (fun z hz=>by simp[Value.ownBlock]at hz;omega);have hz2:X.heap.size<=w2.heap.size:=HB2.out.size;have Zb:Hid (ag w w2):=(HB.out.trans (Xh.out.mono HB.out.size)).trans (HB2.out.mono (Vz HB.out.size Xh.out.size));obtain⟨y0,y1,y2,y3,y4⟩:=XB.out.same (fun o=>Zb.out.cell (p:=⟨b,o,none⟩) HBL.out);have hbr:b<w2.heap.size:=Vq HBL.out Zb.out.size;obtain⟨W3,hW3⟩:∃W3,W3=w2.alloc (.cells #[.string x.a,.string x.b,.string x.r,.string x.c,.string x.d] 52):=⟨_,rfl⟩;have Xc:Hid (W3.ownsRow X.heap.size 52 5 v2 p (aH (acc.take p))):=by show World.ownsRow _ _ _ _ _ _ _;rw[hW3];exact WL.out.alloc _
  have Yw:Hid (∀j u,x.row[j]?=some u->W3.cell? ((⟨w2.heap.size,0,none⟩:Addr).add j)=some u):=by show ∀j u,_;rw[hW3];exact LC w2 x
  have HB3:Hid (ag X W3):=by show Below _ _ _;rw[hW3];exact HB2.out.alloc HB2.out.size _
  have hz3:X.heap.size<=W3.heap.size:=HB3.out.size;clear hown2 Xk Xx HB1 HBO1 HR1 hz1;go_wp2_with(at_builtin;go_must (rw[<-hW3];clear hW3;refine wpList_append_own_at _ rfl _ _ 44 rfl X.heap.size 52 iR (.agg #[.string ⟨#[]⟩,.string ⟨#[]⟩,.string ⟨#[]⟩,.string ⟨#[]⟩,.string ⟨#[]⟩]) 5 80 underlying44 XM.out.1 XM.out.2.1 XM.out.2.2.1 XM.out.2.2.2 rfl (by decide) v2 p (aH (acc.take p)) rfl Xc.out ⟨w2.heap.size,0,none⟩ 1 1 x.row rfl rfl Yw.out (by simp[Fc.row,Value.oneCell']) (by unfold maxLen;omega) (by omega) hz3 ?_));intro v4 w4 Xp X7 _ _;have WZ:=aC Xp;have Xt:Hid (ag X w4):=HB3.out.grown X7 HB3.out.size (fun z hz=>(WL.out.lt z hz).1);have hz4:X.heap.size<=w4.heap.size:=Xt.out.size;have HBO4:Hid (ag wo w4):=Xh.out.trans (Xt.out.mono Xh.out.size);have HR4:Hid (w4.ownsRow w.heap.size 52 5 (.slice (some ⟨g,0,none⟩) k c) k (aH acc)):=oK HO.out fun z hz=>HBO4.out.block z (HO.out.lt z hz).2;clear Xp X7 Xc WL Yw HB3 hz3 HB2 hz2 Zb y0 y1 y2 y3 y4 hbr;obtain rfl:p=k:=by omega
  have HDN:Hid (acc.drop p=[]):=VN (by rw[WX.out];exact Vr _);by_cases hce:c=p
  all_goals
   go_wp2_with(at_builtin;go_must (refine wpList_append_own_at _ rfl _ _ 44 rfl X.heap.size 52 iR (.agg #[.string ⟨#[]⟩,.string ⟨#[]⟩,.string ⟨#[]⟩,.string ⟨#[]⟩,.string ⟨#[]⟩]) 5 80 underlying44 XM.out.1 XM.out.2.1 XM.out.2.2.1 XM.out.2.2.2 rfl (by decide) v4 (p+1) (aH (acc.take p)++x.row) rfl WZ.out _ 0 _ (aH (acc.drop p)) rfl (by rw[HDN.out];rfl) (KI HDN.out) (wH _) (by unfold maxLen;omega) (by omega) hz4 ?_));intro v5 w5 hown5 hgr5 _ _;have hn5:p+1+0=p+1:=rfl;have XD:Hid (ag X w5):=Xt.out.grown hgr5 Xt.out.size (fun z hz=>(WZ.out.lt z hz).1);have hown6:w5.ownsRow X.heap.size 52 5 v5 (p+1) (aH (kC oL (rows.take (p+1)))):=by
    rw[HNX.out,HPT.out,aH,Wj,VX,<-hn5];exact hown5
   obtain⟨ad5,c5,rfl⟩:=BM hown6;obtain⟨g5,rfl,-⟩:=Ef hown6 (Nat.succ_ne_zero _);have XL:=aF (xG hown6 (Vz HB.out.size Xh.out.size));have Ze:Hid (ag w w5):=(HB.out.trans (Xh.out.mono HB.out.size)).trans (XD.out.mono (Vz HB.out.size Xh.out.size));clear hown5 hown6 hgr5 hn5;go_wp2;go_roundw;case rel=>exact⟨p+1,g5,c5,by omega,by go_num,by first|rfl|simp,XL,Ze⟩
   simp[intOf]<;>omega
 obtain rfl:k=rows.length:=by omega
 have HE:Hid (wr.ownsRow w.heap.size 52 5 (.slice (some ⟨g,0,none⟩) rows.length c) rows.length (aH (kC oL rows))):=by have h:=HO.out;rw[VI]at h;exact h
 go_wp2;go_ret;exact⟨⟨_,rfl,HE.out⟩,HB.out⟩
end Go.Proofs.YtojjoblnpldniaaGreat
