/- The library's SortFunc over a row of facts: the same facts, each no higher than those behind it. -/
import Derived.Test.YtajkkeikihhejaaGreatSq
import Derived.Test.YtajkkeikihhejaaGreatJ23
import Derived.Test.YtajkkeikihhejaaGreatJ25
import Derived.Test.YtajkkeikihhejaaGreatShelfS
open Go.Proofs.Tryz
set_option maxHeartbeats 80000000
namespace Go.Proofs.YtajkkeikihhejaaGreat
set_option maxRecDepth 100000
set_option linter.unusedVariables false
open ChangeShapes WideShapes ChangeAt RowKit Maps Go.Shelf Go.Sort
open Pl
theorem rz(f:Fc)(w:af):
  Calls prog 107 #[.agg #[.string f.a,.string f.b,.string f.r,.string f.c,.string f.d]] w fun e w'=>e=.returned (.agg #[.string f.a,.string f.b,.string f.r,.string f.c,.string f.d,.string ⟨#[]⟩])/\BelowD w.heap.size w w':=by
 go_enter func107,ntmps107;go_wp2;exact bodyPost_ret (v:=.agg #[.string f.a,.string f.b,.string f.r,.string f.c,.string f.d,.string ⟨#[]⟩]) (by simp[results,Tryz.results107,go_sem, *]) rfl ⟨rfl,⟨by
  repeat(first|exact UV _ _|refine Below.setCell ?_ (by first|(simp;done)|(simp;omega)) _|refine Below.alloc ?_ (by first|(simp;done)|(simp;omega)) _),UU _⟩⟩
def Sa(x y:Fc):Int:=Jl x.a x.b x.r x.c x.d ⟨#[]⟩ y.a y.b y.r y.c y.d ⟨#[]⟩
theorem Sb{w W w':af}{n m:Nat}{x0 x1 x2 x3 x4 y0 y1 y2 y3 y4:Value}(h:W.cell? ⟨n,0,none⟩=some x0/\W.cell? ⟨n,1,none⟩=some x1/\W.cell? ⟨n,2,none⟩=some x2/\W.cell? ⟨n,3,none⟩=some x3/\W.cell? ⟨n,4,none⟩=some x4/\W.cell? ⟨m,0,none⟩=some y0/\W.cell? ⟨m,1,none⟩=some y1/\W.cell? ⟨m,2,none⟩=some y2/\W.cell? ⟨m,3,none⟩=some y3/\W.cell? ⟨m,4,none⟩=some y4/\BelowD w.heap.size w W)(hb:BelowD W.heap.size W w'):w'.cell? ⟨n,0,none⟩=some x0/\w'.cell? ⟨n,1,none⟩=some x1/\w'.cell? ⟨n,2,none⟩=some x2/\w'.cell? ⟨n,3,none⟩=some x3/\w'.cell? ⟨n,4,none⟩=some x4/\w'.cell? ⟨m,0,none⟩=some y0/\w'.cell? ⟨m,1,none⟩=some y1/\w'.cell? ⟨m,2,none⟩=some y2/\w'.cell? ⟨m,3,none⟩=some y3/\w'.cell? ⟨m,4,none⟩=some y4/\BelowD w.heap.size w w':=by
 obtain⟨h0,h1,h2,h3,h4,g0,g1,g2,g3,g4,hB⟩:=h;exact⟨aJ hb.b (aF h0) h0,aJ hb.b (aF h1) h1,aJ hb.b (aF h2) h2,aJ hb.b (aF h3) h3,aJ hb.b (aF h4) h4,aJ hb.b (aF g0) g0,aJ hb.b (aF g1) g1,aJ hb.b (aF g2) g2,aJ hb.b (aF g3) g3,aJ hb.b (aF g4) g4,hB.trans (hb.mono hB.size)⟩
theorem xP(x y:Fc)(w:af)(hx:x.fits)(hy:y.fits):
  Calls prog 61 #[.agg #[.string x.a,.string x.b,.string x.r,.string x.c,.string x.d],.agg #[.string y.a,.string y.b,.string y.r,.string y.c,.string y.d]] w fun e w'=>e=.returned (.int .i64 (Sa x y))/\BelowD w.heap.size w w':=by
 have he0:(⟨#[]⟩:ByteArray).size<=maxLen:=by decide
 obtain⟨x0,x1,x2,x3,x4⟩:=hx;obtain⟨y0,y1,y2,y3,y4⟩:=hy;obtain⟨W0,hW0⟩:∃W0,W0=(w.alloc (.cells #[.string x.a,.string x.b,.string x.r,.string x.c,.string x.d] 29)).alloc (.cells #[.string y.a,.string y.b,.string y.r,.string y.c,.string y.d] 29):=⟨_,rfl⟩;have HB0:BelowD w.heap.size w W0:=by rw[hW0];exact Ld _ _ _
 have c0:W0.cell? ⟨w.heap.size,0,none⟩=some (.string x.a):=by rw[hW0];simp
 have c1:W0.cell? ⟨w.heap.size,1,none⟩=some (.string x.b):=by rw[hW0];simp
 have c2:W0.cell? ⟨w.heap.size,2,none⟩=some (.string x.r):=by rw[hW0];simp
 have c3:W0.cell? ⟨w.heap.size,3,none⟩=some (.string x.c):=by rw[hW0];simp
 have c4:W0.cell? ⟨w.heap.size,4,none⟩=some (.string x.d):=by rw[hW0];simp
 have e0:W0.cell? ⟨w.heap.size+1,0,none⟩=some (.string y.a):=by rw[hW0];simp
 have e1:W0.cell? ⟨w.heap.size+1,1,none⟩=some (.string y.b):=by rw[hW0];simp
 have e2:W0.cell? ⟨w.heap.size+1,2,none⟩=some (.string y.r):=by rw[hW0];simp
 have e3:W0.cell? ⟨w.heap.size+1,3,none⟩=some (.string y.c):=by rw[hW0];simp
 have e4:W0.cell? ⟨w.heap.size+1,4,none⟩=some (.string y.d):=by rw[hW0];simp
 unfold Sa;go_enter func61,ntmps61;go_wp2_with fail;rw[<-hW0];clear hW0
 go_region_held3 (fun w'=>w'.cell? ⟨w.heap.size,0,none⟩=some (.string x.a)/\w'.cell? ⟨w.heap.size,1,none⟩=some (.string x.b)/\w'.cell? ⟨w.heap.size,2,none⟩=some (.string x.r)/\w'.cell? ⟨w.heap.size,3,none⟩=some (.string x.c)/\w'.cell? ⟨w.heap.size,4,none⟩=some (.string x.d)/\w'.cell? ⟨w.heap.size+1,0,none⟩=some (.string y.a)/\w'.cell? ⟨w.heap.size+1,1,none⟩=some (.string y.b)/\w'.cell? ⟨w.heap.size+1,2,none⟩=some (.string y.r)/\w'.cell? ⟨w.heap.size+1,3,none⟩=some (.string y.c)/\w'.cell? ⟨w.heap.size+1,4,none⟩=some (.string y.d)/\BelowD w.heap.size w w')
  (first|assumption|exact Sb (by assumption) hbx|exact⟨c0,c1,c2,c3,c4,e0,e1,e2,e3,e4,HB0.drew⟩)
  (first|(go_at_call_of 107 (Value.agg #[.string x.a,.string x.b,.string x.r,.string x.c,.string x.d]);refine(rz x _).mono ?_;rintro e w' ⟨rfl,hbx⟩)|(go_at_call_of 107 (Value.agg #[.string y.a,.string y.b,.string y.r,.string y.c,.string y.d]);refine(rz y _).mono ?_;rintro e w' ⟨rfl,hbx⟩)|(go_at_call 106;refine(uz x.a x.b x.r x.c x.d ⟨#[]⟩ y.a y.b y.r y.c y.d ⟨#[]⟩ _ x0 x1 x2 x3 x4 he0 y0 y1 y2 y3 y4 he0).mono ?_;rintro e w' ⟨rfl,hbx⟩))
 all_goals(rename_i hJ;obtain⟨-,-,-,-,-,-,-,-,-,-,gB⟩:=hJ;clear c0 c1 c2 c3 c4 e0 e1 e2 e3 e4;go_wp2;go_ret;exact⟨rfl,gB⟩)
abbrev Ll:={ f:Fc // f.fits }
def oz(x:Ll):List Value:=x.1.row
def UL(x y:Ll):Int:=Sa x.1 y.1
def Sc(x:Fc):List UInt8:=(bi x.a x.b x.r x.c x.d ⟨#[]⟩).toList
def SS(x y:Ll):Bool:=Op.bytesLess (Sc x.1) (Sc y.1)
theorem QF:ltOf UL=SS:=by
 funext x y
 unfold ltOf UL SS Sa Jl Sc;rw[vC,Go.ByteArray.toList_eq,Go.ByteArray.toList_eq]
theorem Sd:Go.Sort.SWO SS where
 irrefl x:=Ls.lt_irrefl _
 trans x y z h k:=Ls.lt_trans _ _ _ h k
 ntrans x y z h k:=by
  cases e:SS x z;case false=>rfl
  by_cases e1:Sc y.1=Sc x.1
  ·unfold SS at *;rw[e1]at k;rw[k]at e;cases e
  rcases Ls.lt_total _ _ e1 with h1|h1
  ·have:SS y z=true:=Ls.lt_trans _ _ _ h1 e;rw[k]at this;cases this
  have h:SS x y=false:=h;have h1:SS x y=true:=h1;rw[h]at h1;cases h1
theorem QG[Inhabited Ll](blk off size:Nat)(w:af):CmpLays prog 61 #[] oz 5 UL blk off size w:=fun m os dk _ x y =>
 (xP x.1 y.1 _ x.2 y.2).mono fun e w' ⟨he,hb⟩=>⟨he,hb.grew⟩
def ll(xs:List Ll):List Fc:=xs.map (·.1)
theorem lW(xs:List Ll):(ll xs).length=xs.length:=by simp[ll]
theorem NF[Inhabited Ll](w:af)(blk off n:Nat)(d:Array Ll)(os:Array Obj):Chg (fun g=>g=blk) w (sortWorldK oz 5 w blk off n d os):=by
 refine⟨⟨rfl,rfl,rfl,?_,fun k hk=>absurd hk (VL _)⟩,fun k hk hne=>?_,fun g hg hf j=>?_⟩
 ·simp[sortWorldK,grow,putRowK,Sort.ahead]
 ·simp only[sortWorldK,putRowK];rw[heap_grow_old _ _ (by simpa[Sort.ahead] using hk)];have hne:blk≠k:=fun e=>hne e.symm;simp[putRow,mapBlock,Sort.ahead,Array.getElem?_modify,hne]
 simp only[sortWorldK,putRowK];rw[frozen?_grow _ _ _ (by simpa[Sort.ahead] using hg),frozen?_putRow,frozen?_ahead];exact hf j
theorem Lm[Inhabited Ll]{w:af}{base g cap:Nat}{xs:List Ll}(h:w.ownsRow base 29 5 (.slice (some ⟨g,0,none⟩) xs.length cap) xs.length (aA (ll xs))):HoldsK oz 5 w g 0 xs.toArray:=by
 intro t ht;rw[size_flatK]at ht;have ht':t<xs.length*5:=by simpa using ht
 have hi:t / 5<xs.length:=by omega
 have hr:t%5<5:=Nat.mod_lt _ (by omega);refine⟨?_,by rw[Vj];exact h.frozenAt t⟩;rw[Vj,h.cellAt t ht',get_flatK _ _ _ _ ht];have e:t=t / 5*5+t%5:=by omega
 have h1:=qV (ll xs) (t / 5) (by rw[lW];exact hi) (t%5) hr;rw[<-e]at h1;rw[h1];have h2:(xs.toArray)[t / 5]! = xs[t / 5]:=by rw[getElem!_pos xs.toArray _ (by simpa using hi)];simp
 rw[h2];have h3:(ll xs)[t / 5]'(by rw[lW];exact hi)=xs[t / 5].1:=by simp[ll]
 rw[h3];have hl:t%5<(Fc.row xs[t / 5].1).length:=hr;show _=some ((Fc.row xs[t / 5].1)[t%5]!);rw[U1 hl,getElem!_pos (Fc.row xs[t / 5].1) (t%5) hl]
theorem UF[Inhabited Ll]{w:af}{base g n cap:Nat}{xs ys:List Ll}(h0:w.ownsRow base 29 5 (.slice (some ⟨g,0,none⟩) n cap) n (aA (ll xs)))(hx:xs.length=n)(hl:ys.length=n)(m:Nat)(os:Array Obj):(sortWorldK oz 5 w g 0 m ys.toArray os).ownsRow base 29 5 (.slice (some ⟨g,0,none⟩) n cap) n (aA (ll ys)):=by
 subst hx;have hg:=(h0.lt g rfl).2;have hH:=holdsK_sortWorldK_c oz 5 w g 0 xs.toArray ys.toArray m os (Lm h0) hg (by simpa using hl);have hlen:(aA (ll ys)).length=xs.length*5:=by rw[j6,lW,hl]
 refine⟨hlen,.inr ?_⟩;rcases h0.2 with⟨e,-⟩|⟨g',cap',cur,e,h1,h2,h3,h4,h5,-⟩
 ·cases e
 injection e with e1 e2 e3;injection e1 with e1;injection e1 with e1;subst e1;subst e3;have hb:(sortWorldK oz 5 w g 0 m ys.toArray os).heap[g]?=some (.cells (putCells id 0 (flatK oz 5 ys.toArray) cur) 29 (0,0)):=by
  simp only[sortWorldK,putRowK];rw[heap_grow_old _ _ (by simpa[Sort.ahead] using hg)];simp[putRow,mapBlock,Sort.ahead,Array.getElem?_modify,h2,onCells]
 refine⟨g,cap,_,rfl,h1,hb,h3,h4,by simp only[putCells,Array.size_mapIdx];exact h5,?_⟩;refine List.ext_getElem? fun j=>?_;by_cases hj:j<xs.length*5
 ·rw[List.getElem?_take_of_lt hj];have hi:j / 5<ys.length:=by omega
  have h6:=(hH j (by rw[size_flatK];simpa[hl] using hj)).1;rw[Vj,get_flatK _ _ _ _ (by simpa[hl] using hj)]at h6;replace h6:(sortWorldK oz 5 w g 0 m ys.toArray os).cell? ⟨g,j,none⟩=some ((oz (ys.toArray)[j / 5]!)[j%5]!):=h6;have h7:(putCells id 0 (flatK oz 5 ys.toArray) cur).toList[j]?=some ((oz (ys.toArray)[j / 5]!)[j%5]!):=by
   rw[<-h6];simp[World.cell?,hb]
  rw[h7];have e:j=j / 5*5+j%5:=by omega
  have h8:=qV (ll ys) (j / 5) (by rw[lW];exact hi) (j%5) (Nat.mod_lt _ (by omega));rw[<-e]at h8;rw[h8];have h9:(ys.toArray)[j / 5]! = ys[j / 5]:=by rw[getElem!_pos ys.toArray _ (by simpa using hi)];simp
  have h10:(ll ys)[j / 5]'(by rw[lW];exact hi)=ys[j / 5].1:=by simp[ll]
  rw[h9,h10];have hl2:j%5<(Fc.row ys[j / 5].1).length:=Nat.mod_lt _ (by omega);show some ((Fc.row ys[j / 5].1)[j%5]!)=_;rw[U1 hl2,getElem!_pos (Fc.row ys[j / 5].1) (j%5) hl2]
 rw[List.getElem?_eq_none (by rw[Vy];omega),List.getElem?_eq_none (by omega)]
theorem NG(base g cap:Nat)(fs:Q04)(w:af)(hf:∀f∈fs,f.fits)(hR:w.ownsRow base 29 5 (.slice (some ⟨g,0,none⟩) fs.length cap) fs.length (aA fs))(hne:fs≠[])(h6:fs.length<=200000):
  Calls prog 60 #[.slice (some ⟨g,0,none⟩) fs.length cap,.func (.func 61) #[] #[]] w fun e w'=>e=.returned (.tuple #[])/\∃ys:List Fc,ys.Perm fs/\ys.Pairwise (fun x y=>Op.bytesLess (Sc y) (Sc x)=false)/\w'.ownsRow base 29 5 (.slice (some ⟨g,0,none⟩) fs.length cap) fs.length (aA ys)/\Chg (fun k=>k=g) w w':=by
 obtain⟨xs,hxs⟩:∃xs:List Ll,ll xs=fs:=⟨fs.attach.map fun x=>⟨x.1,hf x.1 x.2⟩,by unfold ll;rw[List.map_map];simp[Function.comp_def]⟩;subst hxs;rw[lW]at hR h6 ⊢;cases xs with
 | nil=>exact absurd rfl hne
 | cons x0 xs0 =>
  letI:Inhabited Ll:=⟨x0⟩
  have hg:=hR.lt g rfl;have eg:∀args w,(callFunc 61 args).run prog w=.ok (.enter 61 args) w:=enters_of func61 (by kernel_rfl) rfl;have hs:=AnyQ.slices_SortFunc Tryz.sortF 5 Tryz.isAgg29 Tryz.sizeOf29 oz (fun _=>rfl) (fun x v hv=>by simp[oz,Fc.row]at hv;rcases hv with rfl|rfl|rfl|rfl|rfl<;>rfl) UL (by rw[QF];exact Sd) 61 #[] g 0 cap (x0::xs0).toArray w eg (QG g 0 _ w) (Lm hR) hg.2 (by simp at h6⊢;omega)
  change Calls prog 60 _ _ _ at hs
  rw[QF]at hs;refine hs.mono fun e w' ⟨he,d',n,os,hp,hso,hw⟩=>⟨he,ll d'.toList,?_,?_,?_,?_⟩
  ·have:=hp.2.2;have h2:d'.toList.Perm (x0::xs0):=by simpa[Array.extract_eq_self_of_le,hp.1] using this
   exact h2.map _
  ·have hz:d'.size=xs0.length+1:=by simpa using hp.1
   unfold ll;rw[List.pairwise_map,List.pairwise_iff_getElem];intro i j hi hj hij;have hi2:i<d'.size:=by simpa using hi
   have hj2:j<d'.size:=by simpa using hj
   have hlt:=hso i j (UY _) hij (by rw[hz]at hj2;simpa using hj2);rw[getElem!_pos d' j hj2,getElem!_pos d' i hi2]at hlt;exact hlt
  ·rw[hw];have hz:d'.toList.length=(x0::xs0).length:=by simpa using hp.1
   have:=UF hR rfl hz n os;simpa using this
  rw[hw];exact NF w g 0 n d' os
theorem Ij(p:Q02)(cap:Nat)(fv:Value)(w:af):
  Calls prog 149 #[.slice p 0 cap,.int .i64 0,.int .i64 0,fv] w fun e w'=>e=.returned (.tuple #[])/\w'=w:=by
 go_enter func149,ntmps149;go_wp2_with fail;go_loopw[8] (fun i wr=>i=.int .i64 1/\wr=w) (fun _ _=>0);case atStart=>exact⟨rfl,rfl⟩
 obtain⟨rfl,rfl⟩:=hrel;go_wp2
 go_end0
 exact⟨rfl,rfl⟩
theorem QH(p:Q02)(cap:Nat)(lim:Int)(fv:Value)(w:af):
  Calls prog 104 #[.slice p 0 cap,.int .i64 0,.int .i64 0,.int .i64 lim,fv] w fun e w'=>e=.returned (.tuple #[])/\w'=w:=by
 go_enter func104,ntmps104;go_wp2_with fail;go_loopw[1,2] (fun a b wr=>a=.int .i64 0/\b=.int .i64 0/\wr=w) (fun _ _ _=>0);case atStart=>exact⟨rfl,rfl,rfl⟩
 obtain⟨rfl,rfl,rfl⟩:=hrel;go_wp2_with fail;refine(Ij p cap fv _).mono ?_;rintro e w1 ⟨rfl,rfl⟩;go_wp2;refine bodyPost_ret (results_none rfl _ _ _) rfl ?_;exact⟨rfl,rfl⟩
theorem NH(p:Q02)(cap:Nat)(fv:Value)(w:af):
  Calls prog 60 #[.slice p 0 cap,fv] w fun e w'=>e=.returned (.tuple #[])/\w'=w:=by
 go_enter func60,ntmps60;go_wp2_with fail;refine(Tryz.bits_Len 0 _ (by omega) (by omega)).mono ?_;rintro e w1 ⟨rfl,rfl⟩;go_wp2_with fail;refine(QH p cap _ fv _).mono ?_;rintro e w1 ⟨rfl,rfl⟩;go_wp2
 go_end0
 exact⟨rfl,rfl⟩
theorem oC{w w':af}{base:Nat}{e:TypeId}{size:Nat}{v:Value}{n:Nat}{xs:Q03}(h:w.ownsRow base e size v n xs)(hh:∀g,v.ownBlock=some g->w'.heap[g]?=w.heap[g]?):w'.ownsRow base e size v n xs:=by
 refine⟨h.1,?_⟩;rcases h.2 with hl|⟨g,cap,cur,rfl,h1,h2,h3⟩
 ·exact .inl hl
 exact .inr ⟨g,cap,cur,rfl,h1,(hh g rfl).trans h2,h3⟩
theorem BX{w:af}{base size n:Nat}{e:TypeId}{v:Value}{xs:Q03}(h:w.ownsRow base e size v n xs):∃ad cap,v=.slice ad n cap:=by
 rcases h.2 with⟨rfl,h0⟩|⟨g,cap,cur,rfl,-⟩
 ·exact⟨none,0,by rw[h0]⟩
 exact⟨_,_,rfl⟩
theorem Eh{w:af}{base size n cap:Nat}{e:TypeId}{ad:Q02}{xs:Q03}(h:w.ownsRow base e size (.slice ad n cap) n xs)(hn:n≠0):∃g,ad=some ⟨g,0,none⟩/\(Value.slice ad n cap).ownBlock=some g:=by
 rcases h.2 with⟨-,h0⟩|⟨g,cap',cur,e1,-⟩
 ·exact absurd h0 hn
 injection e1 with e1;exact⟨g,e1,by rw[e1];rfl⟩
theorem su{w:af}{base base' size n:Nat}{e:TypeId}{v:Value}{xs:Q03}(h:w.ownsRow base e size v n xs)(hb:base'<=base):w.ownsRow base' e size v n xs:=by
 refine⟨h.1,?_⟩;rcases h.2 with hl|⟨g,cap,cur,e,h1,h2⟩
 ·exact .inl hl
 exact .inr ⟨g,cap,cur,e,U0 hb h1,h2⟩
theorem Sg{w:af}{base size n cap:Nat}{e:TypeId}{ad:Q02}{xs:Q03}(h:w.ownsRow base e size (.slice ad n cap) n xs):n<=cap:=by
 rcases h.2 with⟨e1,h0⟩|⟨g,cap',cur,e1,-,-,hnc,-⟩
 ·injection e1 with _ e2 e3;omega
 injection e1 with _ e2 e3;omega
theorem Kn(xs:Q04):∀p,aA (xs.take p)=(aA xs).take (p*5):=by
 induction xs with
 | nil=>intro p;simp[aA]
 | cons x xs ih =>
  intro p;cases p with
  | zero=>simp[aA]
  | succ p =>
   have ih:=ih p;unfold aA at ih⊢;rw[List.take_succ_cons,Vo,Vo,ih,show(p+1)*5=p*5+1+1+1+1+1 by omega];simp[Fc.row]
theorem Ko(xs:Q04):∀p,aA (xs.drop p)=(aA xs).drop (p*5):=by
 induction xs with
 | nil=>intro p;simp[aA]
 | cons x xs ih =>
  intro p;cases p with
  | zero=>simp[aA]
  | succ p =>
   have ih:=ih p;unfold aA at ih⊢;rw[List.drop_succ_cons,Vo,ih,show(p+1)*5=p*5+1+1+1+1+1 by omega];simp[Fc.row]
theorem uA{w:af}{base g n cap:Nat}{xs:Q04}(h:w.ownsRow base 29 5 (.slice (some ⟨g,0,none⟩) n cap) n (aA xs))(p:Nat)(hp:p<=n):∀j u,(aA (xs.take p))[j]?=some u->w.cell? ((⟨g,0,none⟩:Addr).add j)=some u:=fun j u hu=>by
 rw[Kn,List.getElem?_take]at hu;split at hu
 ·rename_i hj;have:=h.cellAt j (by omega);rw[hu]at this;have e:(⟨g,0,none⟩:Addr).add j=⟨g,j,none⟩:=by unfold Addr.add;split<;>simp_all
  rw[e];exact this
 cases hu
theorem Kq{w:af}{base g n cap:Nat}{xs:Q04}(h:w.ownsRow base 29 5 (.slice (some ⟨g,0,none⟩) n cap) n (aA xs))(p:Nat)(hp:p<=n):∀j u,(aA (xs.drop p))[j]?=some u->w.cell? ((⟨g,p*5,none⟩:Addr).add j)=some u:=fun j u hu=>by
 rw[Ko,List.getElem?_drop]at hu;have hl:=h.1;have hj:p*5+j<n*5:=by
  rw[<-hl];exact(List.getElem?_eq_some_iff.1 hu).1
 have:=h.cellAt (p*5+j) hj;rw[hu]at this;have e:(⟨g,p*5,none⟩:Addr).add j=⟨g,p*5+j,none⟩:=by unfold Addr.add;split<;>simp_all
 rw[e];exact this
theorem rA(xs:Q04):∀u∈aA xs,u.oneCell'=true:=fun u hu=>by
 obtain⟨q,-,h⟩:=U8.1 hu;simp only[Fc.row,U9,List.not_mem_nil,or_false]at h;rcases h with rfl|rfl|rfl|rfl|rfl<;>rfl
theorem Kr{w:af}{a:Addr}{xs:Q04}(h:xs=[]):∀j u,(aA xs)[j]?=some u->w.cell? (a.add j)=some u:=fun j u hu=>by
 rw[h]at hu;simp[aA]at hu
def sJ(x y:Fc):Bool:=gH x.a x.b x.r x.c x.d ⟨#[]⟩ y.a y.b y.r y.c y.d ⟨#[]⟩
theorem Lp{w W w':af}{n m i0 i1 i2 i3 i4 j0 j1 j2 j3 j4:Nat}{x0 x1 x2 x3 x4 y0 y1 y2 y3 y4:Value}(h:W.cell? ⟨n,i0,none⟩=some x0/\W.cell? ⟨n,i1,none⟩=some x1/\W.cell? ⟨n,i2,none⟩=some x2/\W.cell? ⟨n,i3,none⟩=some x3/\W.cell? ⟨n,i4,none⟩=some x4/\W.cell? ⟨m,j0,none⟩=some y0/\W.cell? ⟨m,j1,none⟩=some y1/\W.cell? ⟨m,j2,none⟩=some y2/\W.cell? ⟨m,j3,none⟩=some y3/\W.cell? ⟨m,j4,none⟩=some y4/\ae w W)(hb:ae W w'):w'.cell? ⟨n,i0,none⟩=some x0/\w'.cell? ⟨n,i1,none⟩=some x1/\w'.cell? ⟨n,i2,none⟩=some x2/\w'.cell? ⟨n,i3,none⟩=some x3/\w'.cell? ⟨n,i4,none⟩=some x4/\w'.cell? ⟨m,j0,none⟩=some y0/\w'.cell? ⟨m,j1,none⟩=some y1/\w'.cell? ⟨m,j2,none⟩=some y2/\w'.cell? ⟨m,j3,none⟩=some y3/\w'.cell? ⟨m,j4,none⟩=some y4/\ae w w':=by
 obtain⟨h0,h1,h2,h3,h4,k0,k1,k2,k3,k4,hB⟩:=h;exact⟨aJ hb (aF h0) h0,aJ hb (aF h1) h1,aJ hb (aF h2) h2,aJ hb (aF h3) h3,aJ hb (aF h4) h4,aJ hb (aF k0) k0,aJ hb (aF k1) k1,aJ hb (aF k2) k2,aJ hb (aF k3) k3,aJ hb (aF k4) k4,hB.trans (hb.mono hB.size)⟩
theorem Kt(ad:Q02)(cap:Nat)(rows:Q04)(w:af)(hlen:rows.length<=1048576)(hs:o8 w ad rows)(hfit:∀x∈rows,x.fits):
  Calls prog 89 #[.slice ad rows.length cap] w fun e w'=>(∃v:Value,e=.returned v/\w'.ownsRow w.heap.size 29 5 v rows.length (aA (ni sJ rows)))/\ae w w':=by
 obtain⟨iR,hiR,zR0,zR1,zR2⟩:=pq;have Xe:Hid (prog.info? 29=some iR/\iR.zero=some (.agg #[.string ⟨#[]⟩,.string ⟨#[]⟩,.string ⟨#[]⟩,.string ⟨#[]⟩,.string ⟨#[]⟩])/\iR.size=5/\iR.bytes=80):=⟨hiR,zR0,zR1,zR2⟩;have HS:=aj hs;have Wl:=aj hfit;clear hs hfit hiR zR0 zR1 zR2;obtain⟨W0,hW0⟩:∃W0,W0=w.alloc (.cells #[] 29):=⟨_,rfl⟩;have HB0:=mI hW0;have Xv:Hid (W0.ownsRow w.heap.size 29 5 (.slice (some ⟨w.heap.size,0,none⟩) 0 0) 0 []):=by
  show World.ownsRow _ _ _ _ _ _ _;rw[hW0];exact World.ownsRow_lit w #[] 0 (UU _) (by unfold maxLen;omega) (by simp)
 go_enter func89,ntmps89;go_wp2_with fail;rw[<-hW0];clear hW0;go_loopw[3,4] (fun v i wr=>∃(k g c:Nat),k<=rows.length/\i=.int .i64 k/\v=.slice (some ⟨g,0,none⟩) k c/\Hid (wr.ownsRow w.heap.size 29 5 (.slice (some ⟨g,0,none⟩) k c) k (aA (ni sJ (rows.take k))))/\Hid (ae w wr)) (fun _ i _=>rows.length-(intOf i).toNat);case atStart=>exact⟨0,w.heap.size,0,UY _,rfl,rfl,Xv,HB0⟩
 clear Xv HB0;obtain⟨k,g,c,hk,rfl,rfl,HO,HB⟩:=hrel;by_cases hlt:k<rows.length
 ·obtain⟨acc,hacc⟩:∃acc,acc=ni sJ (rows.take k):=⟨_,rfl⟩;obtain⟨b,off,V6,hrow,hbl⟩:∃b off,ad=some ⟨b,off,none⟩/\xC w b (off+k*5) rows[k]/\b<w.heap.size:=by
   rcases HS.out with h|⟨b',off',e,hb,hr⟩
   ·rw[h]at hlt;simp at hlt
   exact⟨b',off',e,hr k hlt,hb⟩
  obtain⟨x,hx⟩:∃x,rows[k]=x:=⟨_,rfl⟩;have HNX:Hid (ni sJ (rows.take (k+1))=xD sJ x acc):=by show _=_;rw[UX hlt,JF,hacc,hx]
  have hal:acc.length=k:=by rw[hacc,(mi _).length_eq,Vy];omega
  have Yw:Hid x.fits:=by show Fc.fits x;rw[<-hx];exact Wl.out _ (UR hlt)
  have HAF:Hid (∀z∈acc,z.fits):=fun z hz=>by
   rw[hacc]at hz;exact Wl.out z (List.mem_of_mem_take ((mi _).mem_iff.1 hz))
  rw[<-hacc]at HO;rw[hx]at hrow;have Ws:=aj hal;have hkc:k<=c:=Sg HO.out;have hk1:=bG k;have hk2:(k:Int)<(rows.length:Int):=by omega
  have Xa:=aj hrow;have HBL:=aj hbl;obtain⟨wo,hwo⟩:∃wo,wo=wr:=⟨_,rfl⟩;subst hwo;subst V6;clear hacc hal hrow hbl hx;go_wp2_with fail;go_loopw[5] (fun i wr=>∃p:Nat,p<=k/\i=.int .i64 p/\Hid (∀(i:Nat) (h:i<acc.length),i<p->sJ acc[i] x=true)/\Hid (ae wo wr)) (fun i _=>k-(intOf i).toNat);case atStart=>exact⟨0,UY _,rfl,fun i h hi=>absurd hi (VL _),UV _ _⟩
  obtain⟨p,hp,rfl,HU,HBP⟩:=hrel;have HOP:Hid (wr.ownsRow w.heap.size 29 5 (.slice (some ⟨g,0,none⟩) k c) k (aA acc)):=oC HO.out fun z hz=>HBP.out.block z (HO.out.lt z hz).2;have HBWP:Hid (ae w wr):=HB.out.trans (HBP.out.mono HB.out.size);obtain⟨y0,y1,y2,y3,y4⟩:=Xa.out.same (fun o=>HBWP.out.cell (p:=⟨b,o,none⟩) HBL.out);have hbr:b<wr.heap.size:=UT HBL.out HBWP.out.size;have hgr:g<wr.heap.size:=(HOP.out.lt g rfl).2;have hp1:=bG p;by_cases hpk:p<k
  ·have hp2:(p:Int)<(k:Int):=by omega
   have hd:decide ((p:Int)<(k:Int))=true:=by simp;omega
   have hpa:p<acc.length:=by rw[Ws.out];exact hpk
   obtain⟨y,hy⟩:∃y,acc[p]=y:=⟨_,rfl⟩;have hc5:∀c,c<5->wr.cell? ⟨g,p*5+c,none⟩=y.row[c]?:=fun c hc=>by
    rw[HOP.out.cellAt (p*5+c) (by omega),qV acc p hpa c hc,hy]
   have s0:wr.cell? ⟨g,p*5,none⟩=some (.string y.a):=hc5 0 (by omega);have s1:wr.cell? ⟨g,p*5+1,none⟩=some (.string y.b):=hc5 1 (by omega);have s2:wr.cell? ⟨g,p*5+2,none⟩=some (.string y.r):=hc5 2 (by omega);have s3:wr.cell? ⟨g,p*5+3,none⟩=some (.string y.c):=hc5 3 (by omega);have s4:wr.cell? ⟨g,p*5+4,none⟩=some (.string y.d):=hc5 4 (by omega);have hyf:y.fits:=by rw[<-hy];exact HAF.out _ (UR hpa)
   have HC:Hid (∀W':World,Calls prog 130 #[.agg #[.string y.a,.string y.b,.string y.r,.string y.c,.string y.d],.agg #[.string x.a,.string x.b,.string x.r,.string x.c,.string x.d]] W' fun e w'=>e=.returned (.bool (sJ y x))/\ae W' w'):=fun W'=>wm _ _ _ _ _ _ _ _ _ _ W' hyf.1 hyf.2.1 hyf.2.2.1 hyf.2.2.2.1 hyf.2.2.2.2 Yw.out.1 Yw.out.2.1 Yw.out.2.2.1 Yw.out.2.2.2.1 Yw.out.2.2.2.2;clear hc5 hyf;have HYE:=aj hy;clear hy;have hbp:=HBP.out;cases hq:sJ y x;case true=>
    have ZF:Hid (∀(i:Nat) (h:i<acc.length),i<p+1->sJ acc[i] x=true):=fun i h hi=>by
     by_cases e:i=p
     ·subst e;rw[HYE.out];exact hq
     exact HU.out i h (by omega)
    rw[hq]at HC;clear hq;go_wp2_with fail
    go_region_held3 (fun w'=>w'.cell? ⟨g,p*5,none⟩=some (.string y.a)/\w'.cell? ⟨g,p*5+1,none⟩=some (.string y.b)/\w'.cell? ⟨g,p*5+2,none⟩=some (.string y.r)/\w'.cell? ⟨g,p*5+3,none⟩=some (.string y.c)/\w'.cell? ⟨g,p*5+4,none⟩=some (.string y.d)/\w'.cell? ⟨b,off+k*5,none⟩=some (.string x.a)/\w'.cell? ⟨b,off+k*5+1,none⟩=some (.string x.b)/\w'.cell? ⟨b,off+k*5+2,none⟩=some (.string x.r)/\w'.cell? ⟨b,off+k*5+3,none⟩=some (.string x.c)/\w'.cell? ⟨b,off+k*5+4,none⟩=some (.string x.d)/\ae wo w')
     (first|assumption|exact Lp (by assumption) hbx|exact⟨s0,s1,s2,s3,s4,y0,y1,y2,y3,y4,hbp.drew⟩)
     (first|(go_at_call 130;refine(HC.out _).mono ?_;rintro e w' ⟨rfl,hbx⟩))
    rename_i hJ;have HJB:=aj hJ.2.2.2.2.2.2.2.2.2.2;have Zi:Hid (wr.heap.size<=w'.heap.size):=by show _<=_;exact U0 (by first|exact UU _|simp) hbx.size
    clear hJ s0 s1 s2 s3 s4 y0 y1 y2 y3 y4 hd;go_wp2;go_roundw;case rel=>exact⟨p+1,by omega,by go_num,ZF,HJB⟩
    simp[intOf]<;>omega
   have HPT:Hid (xD sJ x acc=acc.take p++x::acc.drop p):=EZ (by rw[Ws.out];exact hp) HU.out (fun _=>by rw[HYE.out];exact hq);rw[hq]at HC;clear hq;go_wp2_with fail
   go_region_held3 (fun w'=>w'.cell? ⟨g,p*5,none⟩=some (.string y.a)/\w'.cell? ⟨g,p*5+1,none⟩=some (.string y.b)/\w'.cell? ⟨g,p*5+2,none⟩=some (.string y.r)/\w'.cell? ⟨g,p*5+3,none⟩=some (.string y.c)/\w'.cell? ⟨g,p*5+4,none⟩=some (.string y.d)/\w'.cell? ⟨b,off+k*5,none⟩=some (.string x.a)/\w'.cell? ⟨b,off+k*5+1,none⟩=some (.string x.b)/\w'.cell? ⟨b,off+k*5+2,none⟩=some (.string x.r)/\w'.cell? ⟨b,off+k*5+3,none⟩=some (.string x.c)/\w'.cell? ⟨b,off+k*5+4,none⟩=some (.string x.d)/\ae wo w')
    (first|assumption|exact Lp (by assumption) hbx|exact⟨s0,s1,s2,s3,s4,y0,y1,y2,y3,y4,hbp.drew⟩)
    (first|(go_at_call 130;refine(HC.out _).mono ?_;rintro e w' ⟨rfl,hbx⟩))
   rename_i hJ;have HJB:=aj hJ.2.2.2.2.2.2.2.2.2.2;have Zi:Hid (wr.heap.size<=w'.heap.size):=by show _<=_;exact U0 (by first|exact UU _|simp) hbx.size
   obtain⟨X,hX⟩:∃X,w'=X:=⟨_,rfl⟩;subst hX;have Wx:=aC HJB;have HSX:Hid (wr.heap.size<=w'.heap.size):=by show _<=_;exact Zi.out
   clear hJ s0 s1 s2 s3 s4 hd HC HYE hbp HJB Zi;clear y0 y1 y2 y3 y4 hbr HOP HBWP HBP HU;obtain⟨W1,hW1⟩:∃W1,W1=w'.alloc (.cells #[] 29):=⟨_,rfl⟩;have WP:Hid (W1.ownsRow w'.heap.size 29 5 (.slice (some ⟨w'.heap.size,0,none⟩) 0 0) 0 []):=by
    show World.ownsRow _ _ _ _ _ _ _;rw[hW1];exact World.ownsRow_lit w' #[] 0 (UU _) (by unfold maxLen;omega) (by simp)
   have HB1:=mI hW1;have HBO1:Hid (ae wo W1):=Wx.out.trans (HB1.out.mono Wx.out.size);have HR1:Hid (W1.ownsRow w.heap.size 29 5 (.slice (some ⟨g,0,none⟩) k c) k (aA acc)):=oC HO.out fun z hz=>HBO1.out.block z (HO.out.lt z hz).2;have hz1:w'.heap.size<=W1.heap.size:=HB1.out.size;have hgX:g<w'.heap.size:=UT (HO.out.lt g rfl).2 Wx.out.size;have hpc:p<=c:=by omega
   go_wp2_with(at_builtin;go_must (rw[<-hW1];clear hW1;refine wpList_append_own_at _ rfl _ _ 40 rfl w'.heap.size 29 iR (.agg #[.string ⟨#[]⟩,.string ⟨#[]⟩,.string ⟨#[]⟩,.string ⟨#[]⟩,.string ⟨#[]⟩]) 5 80 underlying40 Xe.out.1 Xe.out.2.1 Xe.out.2.2.1 Xe.out.2.2.2 rfl (by decide) _ 0 [] rfl WP.out ⟨g,0,none⟩ p c (aA (acc.take p)) rfl (by rw[j6,Vy];congr 1;have:=Ws.out;omega) (uA HR1.out p hp) (rA _) (by unfold maxLen;omega) (by omega) hz1 ?_));intro v2 w2 hown2 WN _ _;have V7:Hid (w2.ownsRow w'.heap.size 29 5 v2 p (aA (acc.take p))):=by
    show World.ownsRow _ _ _ _ _ _ _
    first|exact hown2|(rw[Vj,VU]at hown2;exact hown2)|simpa using hown2
   have HB2:Hid (ae w' w2):=HB1.out.grown WN HB1.out.size (fun z hz=>by simp[Value.ownBlock]at hz;omega);have hz2:w'.heap.size<=w2.heap.size:=HB2.out.size;have YW:Hid (ae w w2):=(HB.out.trans (Wx.out.mono HB.out.size)).trans (HB2.out.mono (U0 HB.out.size Wx.out.size));obtain⟨y0,y1,y2,y3,y4⟩:=Xa.out.same (fun o=>YW.out.cell (p:=⟨b,o,none⟩) HBL.out);have hbr:b<w2.heap.size:=UT HBL.out YW.out.size;obtain⟨W3,hW3⟩:∃W3,W3=w2.alloc (.cells #[.string x.a,.string x.b,.string x.r,.string x.c,.string x.d] 29):=⟨_,rfl⟩;have Ww:Hid (W3.ownsRow w'.heap.size 29 5 v2 p (aA (acc.take p))):=by show World.ownsRow _ _ _ _ _ _ _;rw[hW3];exact V7.out.alloc _
   have Ye:Hid (∀j u,x.row[j]?=some u->W3.cell? ((⟨w2.heap.size,0,none⟩:Addr).add j)=some u):=by show ∀j u,_;rw[hW3];exact wC w2 x
   have HB3:Hid (ae w' W3):=by show Below _ _ _;rw[hW3];exact HB2.out.alloc HB2.out.size _
   have hz3:w'.heap.size<=W3.heap.size:=HB3.out.size;clear hown2 WN WP HB1 HBO1 HR1 hz1;go_wp2_with(at_builtin;go_must (rw[<-hW3];clear hW3;refine wpList_append_own_at _ rfl _ _ 40 rfl w'.heap.size 29 iR (.agg #[.string ⟨#[]⟩,.string ⟨#[]⟩,.string ⟨#[]⟩,.string ⟨#[]⟩,.string ⟨#[]⟩]) 5 80 underlying40 Xe.out.1 Xe.out.2.1 Xe.out.2.2.1 Xe.out.2.2.2 rfl (by decide) v2 p (aA (acc.take p)) rfl Ww.out ⟨w2.heap.size,0,none⟩ 1 1 x.row rfl rfl Ye.out (by simp[Fc.row,Value.oneCell']) (by unfold maxLen;omega) (by omega) hz3 ?_));intro v4 w4 WU XB _ _;have Wo:=aC WU;have XF:Hid (ae w' w4):=HB3.out.grown XB HB3.out.size (fun z hz=>(V7.out.lt z hz).1);have Y3:w'.heap.size<=w4.heap.size:=XF.out.size;have HBO4:Hid (ae wo w4):=Wx.out.trans (XF.out.mono Wx.out.size);have HR4:Hid (w4.ownsRow w.heap.size 29 5 (.slice (some ⟨g,0,none⟩) k c) k (aA acc)):=oC HO.out fun z hz=>HBO4.out.block z (HO.out.lt z hz).2;clear WU XB Ww V7 Ye HB3 hz3 HB2 hz2 YW y0 y1 y2 y3 y4 hbr;go_wp2_with(at_builtin;go_must (refine wpList_append_own_at _ rfl _ _ 40 rfl w'.heap.size 29 iR (.agg #[.string ⟨#[]⟩,.string ⟨#[]⟩,.string ⟨#[]⟩,.string ⟨#[]⟩,.string ⟨#[]⟩]) 5 80 underlying40 Xe.out.1 Xe.out.2.1 Xe.out.2.2.1 Xe.out.2.2.2 rfl (by decide) v4 (p+1) (aA (acc.take p)++x.row) rfl Wo.out ⟨g,p*5,none⟩ (k-p) (c-p) (aA (acc.drop p)) rfl (by rw[j6,VR];have:=Ws.out;congr 1;omega) (Kq HR4.out p hp) (rA _) (by unfold maxLen;omega) (by omega) Y3 ?_));intro v5 w5 hown5 hgr5 _ _;have hn5:p+1+(k-p)=k+1:=by omega
   have Xt:Hid (ae w' w5):=XF.out.grown hgr5 XF.out.size (fun z hz=>(Wo.out.lt z hz).1);have hown6:w5.ownsRow w'.heap.size 29 5 v5 (k+1) (aA (ni sJ (rows.take (k+1)))):=by
    rw[HNX.out,HPT.out,aA,VE,Vo,<-hn5];exact hown5
   obtain⟨ad5,c5,rfl⟩:=BX hown6;obtain⟨g5,rfl,-⟩:=Eh hown6 (Nat.succ_ne_zero _);have WY:=aj (su hown6 (U0 HB.out.size Wx.out.size));have YF:Hid (ae w w5):=(HB.out.trans (Wx.out.mono HB.out.size)).trans (Xt.out.mono (U0 HB.out.size Wx.out.size));clear hown5 hown6 hgr5 hn5;go_wp2;go_roundw;case rel=>exact⟨k+1,g5,c5,by omega,by go_num,by first|rfl|simp,WY,YF⟩
   simp[intOf]<;>omega
  have hd:decide ((p:Int)<(k:Int))=false:=by simp;omega
  have hpe:¬(p:Int)<(k:Int):=by omega
  have HPT:Hid (xD sJ x acc=acc.take p++x::acc.drop p):=EZ (by rw[Ws.out];exact hp) HU.out (fun h=>absurd (by rw[Ws.out]at h;exact h) hpk);go_wp2_with fail;go_quiet (fail);clear hd hpe;obtain⟨X,hX⟩:∃X,wr.drewN nq=X:=⟨_,rfl⟩;have Wx:Hid (ae wo X):=by show Below _ _ _;rw[<-hX];exact below_drewN HBP.out _
  have HSX:Hid (wr.heap.size<=X.heap.size):=by show _<=_;rw[<-hX];exact UU _
  rw[hX];clear hX y0 y1 y2 y3 y4 hbr HOP HBWP HBP HU;obtain⟨W1,hW1⟩:∃W1,W1=X.alloc (.cells #[] 29):=⟨_,rfl⟩;have WP:Hid (W1.ownsRow X.heap.size 29 5 (.slice (some ⟨X.heap.size,0,none⟩) 0 0) 0 []):=by
   show World.ownsRow _ _ _ _ _ _ _;rw[hW1];exact World.ownsRow_lit X #[] 0 (UU _) (by unfold maxLen;omega) (by simp)
  have HB1:=mI hW1;have HBO1:Hid (ae wo W1):=Wx.out.trans (HB1.out.mono Wx.out.size);have HR1:Hid (W1.ownsRow w.heap.size 29 5 (.slice (some ⟨g,0,none⟩) k c) k (aA acc)):=oC HO.out fun z hz=>HBO1.out.block z (HO.out.lt z hz).2;have hz1:X.heap.size<=W1.heap.size:=HB1.out.size;have hgX:g<X.heap.size:=UT (HO.out.lt g rfl).2 Wx.out.size;have hpc:p<=c:=by omega
  go_wp2_with(at_builtin;go_must (rw[<-hW1];clear hW1;refine wpList_append_own_at _ rfl _ _ 40 rfl X.heap.size 29 iR (.agg #[.string ⟨#[]⟩,.string ⟨#[]⟩,.string ⟨#[]⟩,.string ⟨#[]⟩,.string ⟨#[]⟩]) 5 80 underlying40 Xe.out.1 Xe.out.2.1 Xe.out.2.2.1 Xe.out.2.2.2 rfl (by decide) _ 0 [] rfl WP.out ⟨g,0,none⟩ p c (aA (acc.take p)) rfl (by rw[j6,Vy];congr 1;have:=Ws.out;omega) (uA HR1.out p hp) (rA _) (by unfold maxLen;omega) (by omega) hz1 ?_));intro v2 w2 hown2 WN _ _;have V7:Hid (w2.ownsRow X.heap.size 29 5 v2 p (aA (acc.take p))):=by
   show World.ownsRow _ _ _ _ _ _ _
   first|exact hown2|(rw[Vj,VU]at hown2;exact hown2)|simpa using hown2
  have HB2:Hid (ae X w2):=HB1.out.grown WN HB1.out.size (fun z hz=>by simp[Value.ownBlock]at hz;omega);have hz2:X.heap.size<=w2.heap.size:=HB2.out.size;have YW:Hid (ae w w2):=(HB.out.trans (Wx.out.mono HB.out.size)).trans (HB2.out.mono (U0 HB.out.size Wx.out.size));obtain⟨y0,y1,y2,y3,y4⟩:=Xa.out.same (fun o=>YW.out.cell (p:=⟨b,o,none⟩) HBL.out);have hbr:b<w2.heap.size:=UT HBL.out YW.out.size;obtain⟨W3,hW3⟩:∃W3,W3=w2.alloc (.cells #[.string x.a,.string x.b,.string x.r,.string x.c,.string x.d] 29):=⟨_,rfl⟩;have Ww:Hid (W3.ownsRow X.heap.size 29 5 v2 p (aA (acc.take p))):=by show World.ownsRow _ _ _ _ _ _ _;rw[hW3];exact V7.out.alloc _
  have Ye:Hid (∀j u,x.row[j]?=some u->W3.cell? ((⟨w2.heap.size,0,none⟩:Addr).add j)=some u):=by show ∀j u,_;rw[hW3];exact wC w2 x
  have HB3:Hid (ae X W3):=by show Below _ _ _;rw[hW3];exact HB2.out.alloc HB2.out.size _
  have hz3:X.heap.size<=W3.heap.size:=HB3.out.size;clear hown2 WN WP HB1 HBO1 HR1 hz1;go_wp2_with(at_builtin;go_must (rw[<-hW3];clear hW3;refine wpList_append_own_at _ rfl _ _ 40 rfl X.heap.size 29 iR (.agg #[.string ⟨#[]⟩,.string ⟨#[]⟩,.string ⟨#[]⟩,.string ⟨#[]⟩,.string ⟨#[]⟩]) 5 80 underlying40 Xe.out.1 Xe.out.2.1 Xe.out.2.2.1 Xe.out.2.2.2 rfl (by decide) v2 p (aA (acc.take p)) rfl Ww.out ⟨w2.heap.size,0,none⟩ 1 1 x.row rfl rfl Ye.out (by simp[Fc.row,Value.oneCell']) (by unfold maxLen;omega) (by omega) hz3 ?_));intro v4 w4 WU XB _ _;have Wo:=aC WU;have XF:Hid (ae X w4):=HB3.out.grown XB HB3.out.size (fun z hz=>(V7.out.lt z hz).1);have Y3:X.heap.size<=w4.heap.size:=XF.out.size;have HBO4:Hid (ae wo w4):=Wx.out.trans (XF.out.mono Wx.out.size);have HR4:Hid (w4.ownsRow w.heap.size 29 5 (.slice (some ⟨g,0,none⟩) k c) k (aA acc)):=oC HO.out fun z hz=>HBO4.out.block z (HO.out.lt z hz).2;clear WU XB Ww V7 Ye HB3 hz3 HB2 hz2 YW y0 y1 y2 y3 y4 hbr;obtain rfl:p=k:=by omega
  have HDN:Hid (acc.drop p=[]):=Vf (by rw[Ws.out];exact UU _);by_cases hce:c=p
  all_goals
   go_wp2_with(at_builtin;go_must (refine wpList_append_own_at _ rfl _ _ 40 rfl X.heap.size 29 iR (.agg #[.string ⟨#[]⟩,.string ⟨#[]⟩,.string ⟨#[]⟩,.string ⟨#[]⟩,.string ⟨#[]⟩]) 5 80 underlying40 Xe.out.1 Xe.out.2.1 Xe.out.2.2.1 Xe.out.2.2.2 rfl (by decide) v4 (p+1) (aA (acc.take p)++x.row) rfl Wo.out _ 0 _ (aA (acc.drop p)) rfl (by rw[HDN.out];rfl) (Kr HDN.out) (rA _) (by unfold maxLen;omega) (by omega) Y3 ?_));intro v5 w5 hown5 hgr5 _ _;have hn5:p+1+0=p+1:=rfl;have Xt:Hid (ae X w5):=XF.out.grown hgr5 XF.out.size (fun z hz=>(Wo.out.lt z hz).1);have hown6:w5.ownsRow X.heap.size 29 5 v5 (p+1) (aA (ni sJ (rows.take (p+1)))):=by
    rw[HNX.out,HPT.out,aA,VE,Vo,<-hn5];exact hown5
   obtain⟨ad5,c5,rfl⟩:=BX hown6;obtain⟨g5,rfl,-⟩:=Eh hown6 (Nat.succ_ne_zero _);have WY:=aj (su hown6 (U0 HB.out.size Wx.out.size));have YF:Hid (ae w w5):=(HB.out.trans (Wx.out.mono HB.out.size)).trans (Xt.out.mono (U0 HB.out.size Wx.out.size));clear hown5 hown6 hgr5 hn5;go_wp2;go_roundw;case rel=>exact⟨p+1,g5,c5,by omega,by go_num,by first|rfl|simp,WY,YF⟩
   simp[intOf]<;>omega
 obtain rfl:k=rows.length:=by omega
 have HE:Hid (wr.ownsRow w.heap.size 29 5 (.slice (some ⟨g,0,none⟩) rows.length c) rows.length (aA (ni sJ rows))):=by have h:=HO.out;rw[Va]at h;exact h
 go_wp2;go_ret;exact⟨⟨_,rfl,HE.out⟩,HB.out⟩
end Go.Proofs.YtajkkeikihhejaaGreat
