/- Contract of the document's look whether a tuple fits a schema that is right. -/
import Derived.Test.YtojjoblnpldniaaGreatSq
import Derived.Test.YtojjoblnpldniaaGreatJ14
import Derived.Test.YtojjoblnpldniaaGreatJ12
open Go.Proofs.Tryz
set_option maxHeartbeats 80000000
set_option linter.defProp false
namespace Go.Proofs.YtojjoblnpldniaaGreat
open ChangeShapes WideShapes ChangeAt RowKit Maps
open Pl
def pO(ts:Q0b)(oa ob r c d s:ByteArray):Bool:=dG (aQ<|aj ts oa r) (aQ<|aj ts oa r).length ⟨c,s⟩&&bW oa ob r c d s
def Js:∀{es:Q09} (a:Al),own es=0->es.any (mh a)=false
 | [],_,_=>rfl
 | e::es,a,h=>by
  by_cases h1:e.kind=1
  ·simp[own,h1]at h
  rw[XY,Js a<|by simpa[own,h1] using h];simp[mh,h1]
def xI:∀{es:Q09} (a:Al),own es<=1->es.any (mh a)=dG (aQ es) (aQ es).length a
 | [],_,_=>rfl
 | e::es,a,h=>by
  by_cases h1:e.kind=1
  ·rw[XY,Js a<|by simp[own,h1]at h;simpa[own] using h];simp[mh,h1,aQ]
  rw[XY,xI a<|by simpa[own,h1] using h];simp[mh,h1,aQ]
def Pd{xs:Q0a}{a:Al}{k:Nat}(h:k<xs.length)(hk:kY xs[k] a=true):dG xs xs.length a=true:=by
 unfold dG;rw[Xa,Xj];exact⟨_,WH h,hk⟩
def oq(ts:Q0b)(oa ob r c d s:ByteArray):Bool:=aG ts&&pO ts oa ob r c d s
def Vv{es:Q09}(h:aK es=true):own es<=1:=by
 unfold aK at h;simp at h;omega
def Gw{rs:Q06}(h:bZ<|ae rs)(ty n:bN):own (aj (ae rs) ty n)<=1:=by
 unfold aj;cases e:fB (ae rs) ty n with
 | none=>simp[own]
 | some es =>
  obtain⟨t,ht,q,hq,-,-,rfl⟩:=rJ e;exact Vv ((aW h.1).2.2 t ht q hq).1
set_option maxRecDepth 100000 in
def Ma(ad:Q02)(cap:Nat)(rs:Q06)(oa ob r c d s:bN)(w:af)(hlen:bh rs)(hs:jX w ad rs)(hl:∀r∈rs,r.light)(ha:oa.size<=maxLen)(hb:ob.size<=maxLen)(hr:r.size<=maxLen)(hc:c.size<=maxLen)(hd:d.size<=maxLen)(hz:s.size<=maxLen):
  Calls prog 141 #[.slice ad rs.length cap,.agg #[.string oa,.string ob,.string r,.string c,.string d,.string s]] w (bj w<|.bool<|pO (ae rs) oa ob r c d s):=by
 have HS:=aB hs;have HL:=aB hl;clear hs hl;obtain⟨W0,hW0⟩:=eQx<|w.alloc<|.cells (cX oa ob r c d s) 29;have hal:ag w W0:=by rw[hW0];exact(WL _ _).alloc (WK _) _
 have HB0:=aB hal;have Zb:O (W0.cell? (a7 w)=some (.string oa)/\W0.cell? (a8 w 1)=some (.string ob)/\W0.cell? (a8 w 2)=some (.string r)/\W0.cell? (a8 w 3)=some (.string c)/\W0.cell? (a8 w 4)=some (.string d)/\W0.cell? (a8 w 5)=some (.string s)/\w.heap.size<W0.heap.size):=by
  show _/\_;rw[hW0];refine⟨?_,?_,?_,?_,?_,?_,?_⟩<;>simp
 clear hal;go_enter func141,ntmps141;go_wp2_with fail;rw[<-hW0];clear hW0;refine(jM ad cap rs oa r _ hlen (HS.below HB0) HL).mono ?_;rintro e w1 ⟨⟨rows,X9,capE,rfl,hex,hse,hfr⟩,hw1⟩;replace hw1:=hw1.symm;subst hw1;have HX:O (ai rows=aj (ae rs) oa r):=hex;have HSE:=aB hse;have Zp:=hfr.light HL;have hrl:bh rows:=Zp.1;have Z6:O (∀q∈rows,q.e.light):=Zp.2;clear hex hse hfr Zp;go_wp2_with fail;refine(yZ X9 capE rows _ hrl HSE).mono ?_;rintro e w1 ⟨⟨adA,capA,rfl,hsa,hfa⟩,hw1⟩;replace hw1:=hw1.symm;subst hw1;obtain⟨xs,hxs⟩:=eQx<|aQ<|ai rows;rw[<-hxs]at hsa hfa ⊢;have ZO:O (xs=aQ (aj (ae rs) oa r)):=by rw[<-HX];exact hxs
 have HSA:=aB hsa;have hxl:bh xs:=by
  rcases hfa with h|⟨q,hq,h,-⟩
  ·rw[h];simp
  rw[h];exact(Z6 q hq).1
 clear hxs hsa hfa Z6 HSE HX;go_wp2;go_loopw[6] (fun i wr=>∃k:Nat,k<=xs.length/\i=.int .i64 k/\O (dG xs k ⟨c,s⟩=false)/\O (ag W0 wr)) (fun i _=>xs.length-(intOf i).toNat);case atStart=>exact⟨0,WO _,rfl,uK _ _,WL _ _⟩
 obtain⟨k,hk,rfl,HP,HB⟩:=hrel;have Yg:O (ag w wr):=HB0.trans<|HB.mono HB0.size;by_cases hlt:k<xs.length
 ·rcases HSA.out.below HB.out with hnil|⟨b,off,rfl,hb5,hr5⟩
  ·rw[hnil]at hlt;simp at hlt
  obtain⟨t0,t1⟩:=hr5 k hlt;have hk1:=bY k;have hk2:(k:Int)<(xs.length:Int):=cq;have hwl:cW w wr:=WJ Zb.2.2.2.2.2.2 HB.size;have c0:=aD HB Zb.2.2.2.2.2.2 Zb.1;have c1:=aD HB Zb.2.2.2.2.2.2 Zb.2.1;have c2:=aD HB Zb.2.2.2.2.2.2 Zb.2.2.1;have c3:=aD HB Zb.2.2.2.2.2.2 Zb.2.2.2.1;have c4:=aD HB Zb.2.2.2.2.2.2 Zb.2.2.2.2.1;have c5:=aD HB Zb.2.2.2.2.2.2 Zb.2.2.2.2.2.1;have HSU:O (dG xs (k+1) ⟨c,s⟩=kY xs[k] ⟨c,s⟩):=by show _=_;rw[uJ _ _ _ hlt,HP];rfl
  clear hr5;go_wp2_with fail;cases h1:(xs[k].t.toList==c.toList);case false=>
   refine oC 19 _ _ (fun n v _=>v=(Value.slice (some<|aq b off) xs.length capA::.int .i64 k::.pointer (some<|aq b<|off+k*2)::.pointer (some<|aq b<|off+k*2)::.string xs[k].t::.pointer (some<|a8 w 3)::.pointer (some<|a8 w 3)::.string c::.bool false::.bool false::undef::undef::undef::undef::undef::undef::undef::undef::.bool false::[]).getD n undef) (fun w'=>ag wr w') cw rfl cw (vQ [(21,[0,1,2,3,4,5,6,7,8,9,10,11,12,13,14,15,16,17,18])]) (WL _ _).drew ?stepA ?finA<;>dsimp only[uI];case stepA =>
    rintro i hi o ho fq w' hG hpre;have HG:O (ag wr w'):=hG;replace t0:=aD hG hb5 t0;replace t1:=aD hG hb5 t1;replace c3:=aD hG hwl c3;replace c5:=aD hG hwl c5;have HM:O (∀e∈o.after,Region.binds .any e=true->_):=hpre;clear hG hpre;have hc:=PV (i:=i) cq;clear hi
    repeat' rcases hc with rfl|hc
    iterate 19
     ·cases ho;have hm:=HM.out
      try simp[Region.binds]at hm
      refine aa rfl fun K HK=>?_;clear HM
      try simp only[hm]
      go_simp;exact HK _ _ ⟨_,by simp[upd, *],HG,rfl,fun k u hu=>hu⟩
   case finA =>
    rintro fq w' hG hall;have e18:fq 18=.bool false:=hall 18 cq;have HG:O (ag wr w'):=hG;clear hall;clear hG;have HB2:O (ag W0 w'):=HB.trans<|HG.mono HB.size;have Ye:O (dG xs (k+1) ⟨c,s⟩=false):=by show _=_;rw[HSU];simp[kY,h1]
    rw[e18];go_wp2;go_roundw;case rel=>exact⟨k+1,cq,cx,Ye,HB2⟩
    simp[intOf]<;>omega
  cases h2:(xs[k].s.toList==s.toList);case false=>
   refine oC 19 _ _ (fun n v _=>v=(Value.slice (some<|aq b off) xs.length capA::.int .i64 k::.pointer (some<|aq b<|off+k*2)::.pointer (some<|aq b<|off+k*2)::.string xs[k].t::.pointer (some<|a8 w 3)::.pointer (some<|a8 w 3)::.string c::.bool true::.bool true::.slice (some<|aq b off) xs.length capA::.int .i64 k::.pointer (some<|aq b<|off+k*2)::.pointer (some<|aq b<|off+k*2+1)::.string xs[k].s::.pointer (some<|a8 w 5)::.string s::.bool false::.bool false::[]).getD n undef) (fun w'=>ag wr w') cw rfl cw (vQ [(21,[0,1,2,3,4,5,6,7,8,9,10,11,12,13,14,15,16,17,18])]) (WL _ _).drew ?zu ?finB<;>dsimp only[uI];case zu =>
    rintro i hi o ho fq w' hG hpre;have HG:O (ag wr w'):=hG;replace t0:=aD hG hb5 t0;replace t1:=aD hG hb5 t1;replace c3:=aD hG hwl c3;replace c5:=aD hG hwl c5;have HM:O (∀e∈o.after,Region.binds .any e=true->_):=hpre;clear hG hpre;have hc:=PV (i:=i) cq;clear hi
    repeat' rcases hc with rfl|hc
    iterate 19
     ·cases ho;have hm:=HM.out
      try simp[Region.binds]at hm
      refine aa rfl fun K HK=>?_;clear HM
      try simp only[hm]
      go_simp;exact HK _ _ ⟨_,by simp[upd, *],HG,rfl,fun k u hu=>hu⟩
   case finB =>
    rintro fq w' hG hall;have e18:fq 18=.bool false:=hall 18 cq;have HG:O (ag wr w'):=hG;clear hall;clear hG;have HB2:O (ag W0 w'):=HB.trans<|HG.mono HB.size;have Ye:O (dG xs (k+1) ⟨c,s⟩=false):=by show _=_;rw[HSU];simp[kY,h1,h2]
    rw[e18];go_wp2;go_roundw;case rel=>exact⟨k+1,cq,cx,Ye,HB2⟩
    simp[intOf]<;>omega
  refine oC 19 _ _ (fun n v _=>v=(Value.slice (some<|aq b off) xs.length capA::.int .i64 k::.pointer (some<|aq b<|off+k*2)::.pointer (some<|aq b<|off+k*2)::.string xs[k].t::.pointer (some<|a8 w 3)::.pointer (some<|a8 w 3)::.string c::.bool true::.bool true::.slice (some<|aq b off) xs.length capA::.int .i64 k::.pointer (some<|aq b<|off+k*2)::.pointer (some<|aq b<|off+k*2+1)::.string xs[k].s::.pointer (some<|a8 w 5)::.string s::.bool true::.bool true::[]).getD n undef) (fun w'=>ag wr w') cw rfl cw (vQ [(21,[0,1,2,3,4,5,6,7,8,9,10,11,12,13,14,15,16,17,18])]) (WL _ _).drew ?stepC ?finC<;>dsimp only[uI];case stepC =>
   rintro i hi o ho fq w' hG hpre;have HG:O (ag wr w'):=hG;replace t0:=aD hG hb5 t0;replace t1:=aD hG hb5 t1;replace c3:=aD hG hwl c3;replace c5:=aD hG hwl c5;have HM:O (∀e∈o.after,Region.binds .any e=true->_):=hpre;clear hG hpre;have hc:=PV (i:=i) cq;clear hi
   repeat' rcases hc with rfl|hc
   iterate 19
    ·cases ho;have hm:=HM.out
     try simp[Region.binds]at hm
     refine aa rfl fun K HK=>?_;clear HM
     try simp only[hm]
     go_simp;exact HK _ _ ⟨_,by simp[upd, *],HG,rfl,fun k u hu=>hu⟩
  case finC =>
   rintro fq w' hG hall;have e18:fq 18=.bool true:=hall 18 cq;have HG:O (ag wr w'):=hG;clear hall;replace c0:=aD hG hwl c0;replace c1:=aD hG hwl c1;replace c2:=aD hG hwl c2;replace c3:=aD hG hwl c3;replace c4:=aD hG hwl c4;replace c5:=aD hG hwl c5;clear hG;rw[e18];have HN:O (pO (ae rs) oa ob r c d s=bW oa ob r c d s):=by show _=_;unfold pO;rw[<-ZO,Pd hlt<|by simp[kY,h1,h2]];rfl
   go_wp2_with fail;refine(fe oa ob r c d s _ ha hb hr hc hd hz).mono ?_;rintro e w2 ⟨rfl,hb2⟩;have HB2:O (ag w w2):=Yg.trans<|(HG.mono Yg.size).trans<|hb2.mono<|WR Yg.size HG.size;clear hb2;go_wp2;go_ret;exact⟨by rw[HN];rfl,HB2⟩
 obtain rfl:k=xs.length:=cq;have HN:O (pO (ae rs) oa ob r c d s=false):=by show _=_;unfold pO;rw[<-ZO,HP];rfl
 go_wp2;go_ret;exact⟨by rw[HN];rfl,Yg⟩
set_option linter.unusedVariables false
set_option maxRecDepth 100000
section
variable  {α:Type}{T:TypeId}{size:Nat}{cells:α->List Value}{K:World->Nat->α->Prop}{I:α->Nat->Prop}{w w':World}{base:Nat}{v:Value}{rs:List α}
def M8{i:Nat}{q':α}(hi:i<rs.length)(h:∀(x y:Nat) (hx:x<rs.length) (hy:y<rs.length),x≠y->∀g,I rs[x] g->¬I rs[y] g)(hq:∀(x:Nat) (hx:x<rs.length),x≠i->∀g,I rs[x] g->¬I q' g):
  ∀(x y:Nat) (hx:x<(rs.set i q').length) (hy:y<(rs.set i q').length),x≠y->∀g,I (rs.set i q')[x] g->¬I (rs.set i q')[y] g:=by
 intro x y hx hy hxy g h1 h2;rw[List.length_set]at hx hy;rw[List.getElem_set]at h1 h2;split at h1
 ·rename_i e;split at h2
  ·rename_i e2;omega
  rename_i e2;exact hq y hy (Ne.symm e2) g h2 h1
 rename_i e;split at h2
 ·rename_i e2;exact hq x hx (Ne.symm e) g h1 h2
 exact h x y hx hy hxy g h1 h2
def xJ{i:Nat}{q' p:α}(hp:p∈rs.set i q'):p=q' \/ ∃(x:Nat) (hx:x<rs.length),x≠i/\p=rs[x]:=by
 obtain⟨x,hx,rfl⟩:=Xt hp;rw[List.length_set]at hx;rw[List.getElem_set];split
 ·exact .inl rfl
 rename_i e;exact .inr ⟨x,hx,Ne.symm e,rfl⟩
def X8.setIn(kd:Kid K I)(h:X8 T size cells K I w base v rs){i:Nat}(hi:i<rs.length){q':α}(hs:cV w w')(hh:∀g,g<w.heap.size->¬I rs[i] g->w'.heap[g]?=w.heap[g]?)(hc:cells q'=cells rs[i])(hk:K w' base q')(hI:∀g,I q' g->I rs[i] g\/w.heap.size<=g):
  X8 T size cells K I w' base v (rs.set i q'):=by
 have hfl:(rs.set i q').flatMap cells=rs.flatMap cells:=by
  rw[List.flatMap_def,List.flatMap_def,List.map_set,hc];congr 1;rw[<-List.getElem_map (f:=cells) (h:=by simpa using hi)];exact List.set_getElem_self _
 refine⟨?_,fun p hp=>?_,fun p hp g hg=>?_,M8 hi h.two fun x hx hne g h1 h2=>?_⟩
 ·rw[List.length_set,hfl];exact dJ h.own fun g hg=>hh g (h.own.lt g hg).2 fun hi2=>h.head _ (WH hi) g hi2 hg
 ·rcases xJ hp with rfl|⟨x,hx,hne,rfl⟩
  ·exact hk
  exact kd.heap w w' base _ (h.kid _<|WH hx) hs fun g hg=>hh g (kd.lt w base _ (h.kid _<|WH hx) g hg).2<|h.two x i hx hi hne g hg
 ·rcases xJ hp with rfl|⟨x,hx,hne,rfl⟩
  ·rcases hI g hg with h2|h2
   ·exact h.head _ (WH hi) g h2
   intro e;have:=(h.own.lt g e).2;omega
  exact h.head _ (WH hx) g hg
 rcases hI g h2 with h3|h3
 ·exact h.two x i hx hi hne g h1 h3
 have:=(kd.lt w base _ (h.kid _<|WH hx) g h1).2;omega
def X8.setAt(kd:Kid K I){b n cap j:Nat}{u:Value}(h:X8 T size cells K I w base (.slice (some<|am b) n cap) rs)(hn:n=rs.length){w0:af}(h0:X8 T size cells K I w0 base (.slice (some<|am b) n cap) rs){i:Nat}(hi:i<rs.length){q':α}(hk:∀w2:World,w.heap.size<=w2.heap.size->(∀g,I q' g->w2.heap[g]?=w.heap[g]?)->K w2 base q')(hI:∀g,I q' g->w0.heap.size<=g)(hset:(rs.flatMap cells).set j u=(rs.set i q').flatMap cells):
  X8 T size cells K I (w.setCell (aq b j) u) base (.slice (some<|am b) n cap) (rs.set i q'):=by
 have own1:=h.own;rw[<-hn]at own1;obtain⟨ZX,hg2⟩:=own1.stored j u;rw[hset]at ZX;have hbl:cU b w0:=(h0.own.lt b rfl).2;have hsm:∀g,g≠b->(w.setCell (aq b j) u).heap[g]?=w.heap[g]?:=fun g hne=>Below.heap_setCell w _ u g hne;refine⟨by rw[List.length_set,<-hn];exact ZX,fun p hp=>?_,fun p hp g hg=>?_,M8 hi h.two fun x hx hne g h1 h2=>?_⟩
 ·rcases xJ hp with rfl|⟨x,hx,hne,rfl⟩
  ·exact hk _ hg2.size fun g hg=>hsm g (by have:=hI g hg;omega)
  exact kd.heap w _ base _ (h.kid _<|WH hx) hg2.size fun g hg=>hsm g fun e=>h.head _ (WH hx) g hg (by rw[e];rfl)
 ·rcases xJ hp with rfl|⟨x,hx,hne,rfl⟩
  ·intro e;have e:b=g:=by simpa[Value.ownBlock] using e
   have:=hI g hg;omega
  exact h.head _ (WH hx) g hg
 have h3:=(kd.lt w0 base _ (h0.kid _<|WH hx) g h1).2;have:=hI g h2;omega
end
def Mc(k:Int)(w:af):
  Calls prog 254 #[.int .i64 k] w (bx w<|.string<|eG k):=by
 by_cases h4:k=4
 ·subst h4;go_enter func254,ntmps254;go_wp2;go_ret;exact⟨rfl,rfl⟩
 by_cases h5:k=5
 ·subst h5;go_enter func254,ntmps254;go_wp2;go_ret;exact⟨rfl,rfl⟩
 have HS:O (eG k=⟨#[32,45,32]⟩):=by show _=_;simp[eG,h4,h5]
 go_enter func254,ntmps254;go_wp2;go_ret;exact⟨by rw[HS];rfl,rfl⟩
def Md(a b c:bN):a++(b++c)=a++b++c:=by apply jd;simp[ByteArray.data_append]
def Jt:(prog.info? 9).map (fun i=>(i.zero,i.size,i.bytes))=some (some<|.string ⟨#[]⟩,1,16):=cw
def strs(xs:List ByteArray):List Value:=xs.map Value.string
def Fg(xs:List ByteArray)(k:Nat)(h:k<xs.length):strs (xs.take<|k+1)=strs (xs.take k)++[.string xs[k]]:=by
 unfold strs;rw[WN h,Xy];rfl
def Fh{w:af}{base k:Nat}{v:Value}{xs:List ByteArray}(h:w.ownsRow base 9 1 v k<|strs xs)(hk:0<k):∃g cp,v=.slice (some<|am g) k cp/\k<=cp/\g<w.heap.size/\base<=g/\xs.length=k/\∀(j:Nat) x,xs[j]?=some x->w.cell? (aq g<|0+j)=some (.string x):=by
 have hl:xs.length=k:=by have:=h.1;simpa[strs] using this
 have h2:=h;rcases h.2 with⟨rfl,h0⟩|⟨g,cp,cur,rfl,hbg,hg,hnc,-⟩
 ·omega
 have hlt:=h2.lt g rfl;refine⟨g,cp,rfl,hnc,hlt.2,hbg,hl,fun j x hx=>?_⟩;have:=h2.cells (g:=g) rfl j (.string x) (by simp[strs,hx]);rw[Xl];have e:(⟨g,0,none⟩:Addr).add j=⟨g,j,none⟩:=by
  unfold Addr.add;by_cases hj:j=0
  ·subst hj;simp
  simp[hj]
 rwa [e]at this
def Dz(ad:Q02)(cap:Nat)(xs:Q0a)(w:af)(hal:dF xs=true)(hs:kV w ad xs):
  Calls prog 252 #[.slice ad xs.length cap] w (bj w<|.string<|mM xs):=by
 have HS:=aB hs;have Yq:O (dF xs=true):=hal;have hts:=jv hal;unfold mM at hts;simp only[WY]at hts;have hl:1<=xs.length/\xs.length<=6:=by unfold dF at hal;simp at hal;exact⟨hal.1.1,hal.1.2⟩
 obtain⟨hl1,hl6⟩:=hl;clear hs hal;obtain⟨i0,hi,hz0,hz1,hz2⟩:=info_parts Jt;go_enter func252,ntmps252;go_wp2_with fail;go_loopw[3,9] (fun v i wr=>∃k:Nat,k<=xs.length/\i=.int .i64 k/\cD w wr 9 1 v k (strs<|(xs.map bR).take k)/\ag w wr) (fun _ i _=>xs.length-(intOf i).toNat);case atStart=>exact⟨0,WO _,rfl,by simpa[strs] using World.ownsRow_nil _ _ _ _,WL _ _⟩
 obtain⟨k,hk,rfl,hown,hB⟩:=hrel;by_cases hlt:k<xs.length
 ·rcases HS.out.below hB with rfl|⟨b,off,rfl,hb,hr⟩
  ·simp at hlt
  obtain⟨t0,t1⟩:=hr k hlt;have hab:FJ xs[k]=true:=by
   have:=Yq.out;unfold dF at this;simp only[WM]at this;exact wm this.2 k hlt hlt
  have z2:=nR hab;unfold FJ at hab;rw[WM]at hab;have z0:=aV hab.1;have z1:=uL hab.2;have hBs:=hB.size;have HX:O (strs ((xs.map bR).take<|k+1)=strs ((xs.map bR).take k)++[.string (bR xs[k])]):=by show _=_;rw[Fg _ _ (by simpa using hlt),List.getElem_map]
  clear hr hab;cases he:xs[k].s.toList.isEmpty;case true=>
   have HAT:O (bR xs[k]=xs[k].t):=by show _=_;simp[bR,he]
   go_wp2_with(at_builtin;refine wpList_append_own _ rfl _ _ 143 rfl w.heap.size 9 i0 (.string ⟨#[]⟩) 1 16 underlying143 hi hz0 hz1 hz2 rfl cv _ _ _ rfl ((hown.alloc _).alloc _) ⟨wr.heap.size+1,0,none⟩ 1 1 [.string xs[k].t] rfl rfl (by have:=cell_one_new (wr.alloc<|.cells #[.string xs[k].t,.string xs[k].s] 216) (.string xs[k].t) 9;rw[World.size_alloc]at this;exact this) (by intro u hu;simp at hu;subst hu;rfl) cy cq (by simp;omega) ?_);intro v' w3 hown3 hgrow _;have hb3:ag w w3:=((hB.alloc hB.size _).alloc (by simp;omega) _).grown hgrow (by simp;omega) (fun i hi=>(hown.lt i hi).1);rw[<-HAT,<-HX]at hown3;have YK:=aB hown3;clear hown3 hgrow hown;go_wp2;go_roundw;case rel=>exact⟨k+1,cq,cx,YK,hb3⟩
   simp[intOf]<;>omega
  have HAT:O (bR xs[k]=xs[k].t++(⟨#[35]⟩++xs[k].s)):=by show _=_;rw[Md];simp[bR,he]
  go_wp2_with(at_builtin;refine wpList_append_own _ rfl _ _ 143 rfl w.heap.size 9 i0 (.string ⟨#[]⟩) 1 16 underlying143 hi hz0 hz1 hz2 rfl cv _ _ _ rfl ((hown.alloc _).alloc _) ⟨wr.heap.size+1,0,none⟩ 1 1 [.string (xs[k].t++(⟨#[35]⟩++xs[k].s))] rfl rfl (by have:=cell_one_new (wr.alloc<|.cells #[.string xs[k].t,.string xs[k].s] 216) (.string<|xs[k].t++(⟨#[35]⟩++xs[k].s)) 9;rw[World.size_alloc]at this;exact this) (by intro u hu;simp at hu;subst hu;rfl) cy cq (by simp;omega) ?_);intro v' w3 hown3 hgrow _;have hb3:ag w w3:=((hB.alloc hB.size _).alloc (by simp;omega) _).grown hgrow (by simp;omega) (fun i hi=>(hown.lt i hi).1);rw[<-HAT,<-HX]at hown3;have YK:=aB hown3;clear hown3 hgrow hown;go_wp2;go_roundw;case rel=>exact⟨k+1,cq,cx,YK,hb3⟩
  simp[intOf]<;>omega
 obtain rfl:k=xs.length:=cq;have HE:O ((xs.map bR).take xs.length=xs.map bR):=by show _=_;rw[Xn ct]
 rw[HE]at hown;obtain⟨g,cp,rfl,hcp,hgl,-,hll,hc⟩:=Fh hown cq;have hsz:(dW ⟨#[44]⟩<|xs.map bR).size<=200:=cq;have HC:O (∀(j:Nat) x,(xs.map bR)[j]?=some x->ac wr g (0+j) (.string x)):=hc;clear hc hown hi hz0 hz1 hz2;go_wp2_with fail;have HJ:=Tryz.strings_Join g 0 cp (xs.map bR) ⟨#[44]⟩ wr HC hgl (by rw[hll];omega) (by rw[hll];exact hcp) (WR hsz cq);rw[hll]at HJ;obtain⟨J,hJ⟩:=eQx<|dW ⟨#[44]⟩<|xs.map bR;have hsJ:J.size<=200:=by rw[hJ];exact hsz
 have HTT:O (mM xs=⟨#[116,104,105,115,40]⟩++J++⟨#[41]⟩):=by show _=_;rw[hJ];rfl
 refine HJ.mono ?_;rintro e w1 ⟨he,hb1⟩;have he':e=.returned (.string J):=by rw[he,hJ];rfl
 subst he';have HB1:O (ag w w1):=hB.trans<|hb1.mono hB.size;clear hb1 HJ he hJ hsz hts;go_wp2;go_ret;exact⟨by rw[HTT];rfl,HB1⟩
def Ready(w:World)(g len:Nat)(f:Int->ByteArray)(ks:List Int):Prop:=g<w.heap.size/\∀k∈ks,0<=k/\k<(len:Int)/\w.cell? ⟨g,k.toNat,none⟩=some (.string<|f k)/\(f k).size<=20000000000000
def Ready.below{w w':af}{g len:Nat}{f:Int->ByteArray}{ks:List Int}(h:Ready w g len f ks)(hb:ag w w'):Ready w' g len f ks :=
 ⟨WJ h.1 hb.size,fun k hk=>by obtain⟨h1,h2,h3,h4⟩:=h.2 k hk;exact⟨h1,h2,kept hb h.1 h3,h4⟩⟩
set_option maxRecDepth 4000 in
def Gx(r:ER)(g len cap:Nat)(f:Int->ByteArray)(w:af)(X0:ax r.e=true)(hok:r.ok w)(hr:Ready w g len f r.e.kids):
  Calls prog 179 #[r.val,.slice (some<|am g) len cap] w (bj w<|.string<|jr f r.e):=by
 obtain⟨⟨kind,allow,over,name,kids⟩,adA,capA,adK,capK⟩:=r;obtain⟨hA,hK⟩:=hok;obtain⟨hk5,hkind⟩:=kZ X0;simp only at hA hK hk5 hkind hr;simp only[ER.val];have HN:O (ax ⟨kind,allow,over,name,kids⟩=true):=X0;have HA:=aB hA;have HK:O (sK w adK kids):=hK;have HRY:=aB hr;clear hA hK X0 hr;by_cases k1:kind=1
 ·subst k1;have hal:dF allow=true:=by
   have:=HN.out;unfold ax at this;rw[if_pos rfl]at this;simp only[WM]at this;exact this.1.1.1
  have HB0:O (ag w<|w.alloc<|.cells #[.int .i64 1,.slice adA allow.length capA,.string over,.string name,.slice adK kids.length capK] 43):=(WL _ _).alloc (WK _) _;go_enter func179,ntmps179;go_wp2_with fail;refine(Dz adA capA allow _ hal<|HA.below HB0).mono ?_;rintro e w1 ⟨rfl,hb1⟩;have HB1:=iD HB0 hb1;clear hb1;go_wp2;go_ret;exact⟨rfl,HB1⟩
 by_cases k2:kind=2
 ·subst k2;go_enter func179,ntmps179;go_wp2;go_ret;exact⟨rfl,(WL _ _).alloc (WK _) _⟩
 by_cases k3:kind=3
 ·subst k3;have hsz:over.size<=12/\name.size<=12:=by
   have:=HN.out;unfold ax at this;rw[if_neg ct,if_neg ct,if_pos rfl]at this;simp only[WM]at this;exact⟨aV this.1.1.1,aV this.1.1.2⟩
  obtain⟨z0,z1⟩:=hsz;go_enter func179,ntmps179;go_wp2;go_ret;exact⟨rfl,(WL _ _).alloc (WK _) _⟩
 have kb1:(kind==1)=false:=by simpa using k1
 have kb2:(kind==2)=false:=by simpa using k2
 have kb3:(kind==3)=false:=by simpa using k3
 have HT:O (jr f ⟨kind,allow,over,name,kids⟩=dW (eG kind) (kids.map f)):=by show _=_;simp[jr,k1,k2,k3]
 have hk2:2<=kids.length:=by
  have:=HN.out;unfold ax at this;rw[if_neg k1,if_neg k2,if_neg k3]at this;split at this
  ·simp at this;omega
  split at this
  ·simp at this;omega
  cases this
 have HTS:O (∀x∈kids.map f,x.size<=20000000000000):=fun x hx=>by
  obtain⟨k,hk,rfl⟩:=WV.1 hx;exact(HRY.2 k hk).2.2.2
 obtain⟨i0,hi,hz0,hz1,hz2⟩:=info_parts Jt;obtain⟨W,hW⟩:=eQx<|w.alloc<|.cells #[.int .i64 kind,.slice adA allow.length capA,.string over,.string name,.slice adK kids.length capK] 43;have HB0:=tZ hW;have hgl:w.heap.size<W.heap.size:=by rw[hW];simp
 have g0:W.cell? (a7 w)=some (.int .i64 kind):=by rw[hW];simp
 go_enter func179,ntmps179;go_wp2_with fail;rw[<-hW];clear hW;go_loopw[5,30] (fun v i wr=>∃k:Nat,k<=kids.length/\i=.int .i64 k/\cD W wr 9 1 v k (strs<|(kids.map f).take k)/\ag W wr) (fun _ i _=>kids.length-(intOf i).toNat);case atStart=>exact⟨0,WO _,rfl,by simpa[strs] using World.ownsRow_nil _ _ _ _,WL _ _⟩
 obtain⟨k,hk,rfl,hown,hB⟩:=hrel;have hBw:ag w wr:=HB0.trans<|hB.mono HB0.size;by_cases hlt:k<kids.length
 ·rcases HK.out.below hBw with rfl|⟨bk,offk,rfl,hbk,hrk⟩
  ·simp at hlt
  have q0:=hrk k hlt;obtain⟨r1,r2,r3,r4⟩:=(HRY.below hBw).2 kids[k]<|WH hlt;obtain⟨m,hm⟩:∃m:Nat,kids[k]=(m:Int):=⟨kids[k].toNat,cq⟩;have HFm:O (f kids[k]=f (m:Int)):=by show _=_;rw[hm]
  have HX:O (strs ((kids.map f).take<|k+1)=strs ((kids.map f).take k)++[.string (f kids[k])]):=by show _=_;rw[Fg _ _ (by simpa using hlt),List.getElem_map]
  rw[hm]at q0 r2;have r3':wr.cell? (aq g m)=some (.string<|f kids[k]):=by rw[hm]at r3 ⊢;simpa using r3
  have hm1:=bY m;have hBs:=hB.size;obtain⟨fk,hfk⟩:=eQx<|f kids[k];rw[<-hfk]at r3';have HFK:O (fk=f kids[k]):=hfk;clear hrk r3 hm r1 hfk;go_wp2_with(at_builtin;refine wpList_append_own _ rfl _ _ 143 rfl W.heap.size 9 i0 (.string ⟨#[]⟩) 1 16 underlying143 hi hz0 hz1 hz2 rfl cv _ _ _ rfl (hown.alloc _) ⟨wr.heap.size,0,none⟩ 1 1 [.string fk] rfl rfl (cell_one_new _ _ _) (by intro u hu;simp at hu;subst hu;rfl) cy cq (by simp;omega) ?_);intro v' w3 hown3 hgrow _;have hb3:ag W w3:=(hB.alloc hB.size _).grown hgrow (by simp;omega) (fun i hi=>(hown.lt i hi).1);rw[HFK,<-HX]at hown3;have YK:=aB hown3;clear hown3 hgrow hown;go_wp2;go_roundw;case rel=>exact⟨k+1,cq,cx,YK,hb3⟩
  simp[intOf]<;>omega
 obtain rfl:k=kids.length:=cq;have HE:O ((kids.map f).take kids.length=kids.map f):=by show _=_;rw[Xn ct]
 rw[HE]at hown;obtain⟨gp,cp,rfl,hcp,hgpl,-,hll,hc⟩:=Fh hown cq;have a0:=kept hB hgl g0;have hsz:(dW (eG kind)<|kids.map f).size<=140737488355328:=by
  have h:=mJ (eG kind) 20000000000000 _ (kids.map f) rfl HTS;rw[kK,hll]at h;omega
 have HC:O (∀(j:Nat) x,(kids.map f)[j]?=some x->ac wr gp (0+j) (.string x)):=hc;clear hc hown hi hz0 hz1 hz2;go_wp2_with fail;refine(Mc _ _).mono ?_;rintro e w' ⟨rfl,rfl⟩;go_wp2_with fail;have HJ:=Tryz.strings_Join gp 0 cp (kids.map f) (eG kind) _ HC hgpl (by rw[hll];omega) (by rw[hll];exact hcp) hsz;rw[hll]at HJ;refine HJ.mono ?_;rintro e w1 ⟨he,hb1⟩;obtain⟨J,hJ⟩:=eQx<|dW (eG kind)<|kids.map f;have he':e=.returned (.string J):=by rw[he,hJ];rfl
 subst he';have HJJ:O (jr f ⟨kind,allow,over,name,kids⟩=J):=by show _=_;rw[HT,hJ]
 have HB1:O (ag w w1):=hBw.trans<|hb1.mono hBw.size;clear hb1 HJ he hJ hsz;go_wp2;go_ret;exact⟨by rw[HJJ];rfl,HB1⟩
def PT(es:Q09)(j:Nat):ByteArray:=if j+1<es.length then txt es j else gQ es j false
def Pe(es:Q09)(k:Nat):List Value:=strs<|(List.range k).map<|PT es
def CJ(es:Q09)(k:Nat):Pe es (k+1)=Pe es k++[.string (PT es k)]:=by simp[Pe,strs,List.range_succ]
def xK(es:Q09)(k:Nat):(Pe es k).length=k:=by simp[Pe,strs]
def R8(es:Q09)(k j:Nat)(h:j<(Pe es k).length):(Pe es k)[j]=.string (PT es j):=by simp[Pe,strs]
def Fil.put2{w wr:af}{g n o:Nat}{xs:Q03}(h:Fil w wr g n xs)(a v:Value)(ho:o=xs.length)(hn:o<n):Fil w ((wr.setCell (aq g o) a).setCell (aq g o) v) g n (xs++[v]):=by
 have h1:Fil w (wr.setCell (aq g o) a) g n xs:=by
  refine⟨h.below.setCell (p:=⟨g,o,none⟩) h.ge a,h.ge,by simpa using h.lt,fun j hj=>?_,fun j hj=>?_,fun j=>by simpa using h.free j⟩
  ·rw[iL cq];exact h.done j hj
  by_cases e:o=j
  ·subst e;obtain⟨u,hu⟩:=Option.isSome_iff_exists.mp<|h.there o hn;rw[oL hu];rfl
  rw[iL e];exact h.there j hj
 exact h1.put v ho hn
def yM(b off cap:Nat)(rs:Q08)(w:af)(hlen:bh rs)(hl:∀r∈rs,r.e.light)(hf:∀r∈rs,r.e.fits)(hcp:∀r∈rs,r.e.allow.length<=r.capA)(hb:cU b w)(hr:∀(i:Nat) (h:i<rs.length),vP w b (off+i*5) rs[i])(hok:∀r∈rs,r.ok w):
  Calls prog 106 #[.slice (some<|aq b off) rs.length cap] w (bj w<|.string<|dS<|ai rs):=by
 have ZC:O ((ai rs).length=rs.length):=au rs;have HR:O (∀(i:Nat) (h:i<rs.length),vP w b (off+i*5) rs[i]):=hr;have HO:=aB hok;have HIM:=rX b off cap rs w hlen hl hf hcp hb hr hok;clear hl hf hcp hr hok;obtain⟨inf,z,hi,hz0,hz1,hz2⟩:=U4 (t:=9) (n:=1) (b:=16) cw;go_enter func106,ntmps106;go_wp2_with fail;refine HIM.mono ?_;rintro e w1 ⟨he,hb1⟩;rw[<-oU]at he;have HB1:=aB hb1;clear hb1 HIM;cases hE:aK (ai rs);case false=>
  rw[hE]at he;subst he;have HX:O (dS (ai rs)=⟨#[]⟩):=yF hE;clear hi hz0 hz1 hz2;go_wp2;go_ret;exact⟨by rw[HX];rfl,HB1⟩
 rw[hE]at he;subst he;have hok:=J9 hE;have Yn:=aB hok;have h15:rs.length<=15:=by have:=hok.1;rw[au]at this;exact this
 have h1:1<=rs.length:=by
  have:=hE;unfold aK at this;simp only[WM,WW,au]at this;exact this.1.1.1.1.1
 have HX:O (dS (ai rs)=PT (ai rs) (rs.length-1)):=by show _=_;rw[vz hE];unfold PT;rw[au,if_neg cq]
 have hbw1:cU b w1:=WJ hb HB1.size;have HR1:O (∀(i:Nat) (h:i<rs.length),vP w1 b (off+i*5) rs[i]):=fun i hi=>(HR i hi).later hb HB1;have Yu:O (∀r∈rs,r.ok w1):=fun r hr=>(HO r hr).below HB1;clear hok hE;go_wp2_with(at_make;refine wpList_make_full _ rfl _ _ 143 rfl w1.heap.size 9 inf z 1 underlying143 hi hz0 hz1 .i64 .i64 _ _ rs.length rfl rfl rfl rfl (by rw[hz2];omega) cy (WK _) ?_;intro w0 hown0 Y0);have F0:Fil w1 w0 w1.heap.size (rs.length*1) []:=PX hown0 Y0;clear hown0 Y0 hi hz0 hz1 hz2;go_loopw[14] (fun i wr=>∃k:Nat,k<=rs.length/\i=.int .i64 k/\O (Fil w1 wr w1.heap.size (rs.length*1)<|Pe (ai rs) k)) (fun i _=>rs.length-(intOf i).toNat);case atStart=>exact⟨0,WO _,rfl,F0⟩
 obtain⟨k,hk,rfl,HFI⟩:=hrel;have hB:=HFI.below;have hgl:=HFI.lt;by_cases hlt:k<rs.length
 ·have YW:k<(ai rs).length:=by rw[au];exact hlt
  have heE:(ai rs)[k]=rs[k].e:=by simp[ai]
  obtain⟨t0,t1,t2,t3,t4⟩:=(HR1 k hlt).later hbw1 hB;have X0:ax rs[k].e=true:=by rw[<-heE];exact Yn.2.1 k YW
  have hkl:=sN Yn YW;rw[heE]at hkl;have hk1:=bY k;have hk2:(k:Int)<(rs.length:Int):=cq;obtain⟨W,hW⟩:=eQx<|wr.alloc<|.cells (ce rs[k]) 43;have hal:ag wr W:=by rw[hW];exact(WL _ _).alloc (WK _) _
  have hpl:wr.heap.size<W.heap.size:=by rw[hW];simp
  have g4:W.cell? (a8 wr 4)=some (.slice rs[k].adK rs[k].e.kids.length rs[k].capK):=by rw[hW];simp
  have HFW:=HFI.later hal;have HRY:O (Ready W w1.heap.size rs.length (iP (ai rs) k) rs[k].e.kids):=by
   refine⟨HFW.lt,fun m hm=>?_⟩;obtain⟨m0,m1⟩:=hkl m hm;refine⟨m0,cq,?_,?_⟩
   ·rw[HFW.done m.toNat (by rw[xK];exact m1),R8];unfold PT iP;rw[if_pos (by rw[au];omega),if_pos m1]
   unfold iP;rw[if_pos m1,xV];exact tK Yn _ (by rw[au];omega) true
  have HOKr:O (rs[k].ok W):=((Yu _<|WH hlt).below hB).below hal;have HNK:=Gx rs[k] w1.heap.size rs.length rs.length (iP (ai rs) k) W X0 HOKr HRY;obtain⟨N,hN⟩:=eQx<|jr (iP (ai rs) k) rs[k].e;have hNs:N.size<=20000000000000+2:=by
   have:=tK Yn k YW false;unfold gQ at this;rw[sM YW,heE]at this;have e1:inT rs[k].e false (jr (iP (ai rs) k) rs[k].e)=N:=by rw[hN];simp[inT]
   rw[e1]at this;omega
  have HTf:O (gQ (ai rs) k false=N):=by show _=_;unfold gQ;rw[sM YW,heE,hN];simp[inT]
  have HTt:O (txt (ai rs) k=inT rs[k].e true N):=by show _=_;rw[xV];unfold gQ;rw[sM YW,heE,hN]
  obtain⟨-,hkind⟩:=kZ X0;have ZE:O (ax rs[k].e=true):=X0;rw[<-hN]at HNK;clear hN hkl heE HFW X0;go_wp2_with fail;rw[<-hW];refine HNK.mono ?_;rintro e w2 ⟨rfl,hb2⟩;have hF2:=(HFI.later hal).later hb2;have hgp:w1.heap.size≠wr.heap.size:=cq;have c4:=kept hb2 hpl g4;have fz:=hF2.free;obtain⟨v0,u0⟩:=Option.isSome_iff_exists.mp<|hF2.there k cq;have Y3:=aB hF2;clear hb2 hal HNK hW t0 t1 t2 t3 t4 hF2 g4;by_cases hkk:0<rs[k].e.kids.length
  ·have hkk':(0:Int)<(rs[k].e.kids.length:Int):=cq;have hk456:¬rs[k].e.kind=1/\¬rs[k].e.kind=2/\¬rs[k].e.kind=3:=by
    have:=ZE.out;unfold ax at this;refine⟨fun h=>?_,fun h=>?_,fun h=>?_⟩
    ·rw[if_pos h]at this;simp at this;rw[this.2]at hkk;simp at hkk
    ·rw[h]at this;simp at this;rw[this.2]at hkk;simp at hkk
    rw[h]at this;simp at this;rw[this.2]at hkk;simp at hkk
   by_cases hlast:k<rs.length-1
   ·have hl':(k:Int)<(rs.length:Int)-1:=cq;have HTA:O (PT (ai rs) k=⟨#[40]⟩++N++⟨#[41]⟩):=by
     show _=_;unfold PT;rw[if_pos (by rw[au];omega),HTt];simp[inT,hk456]
    have Zu:=Y3.put2 (.string N) (.string<|⟨#[40]⟩++N++⟨#[41]⟩) (o:=k) (by rw[xK]) cq;rw[<-HTA,<-CJ]at Zu;rw[HTA]at Zu;have HF3:=aB Zu;clear Zu;go_wp2;go_roundw;case rel=>exact⟨k+1,cq,cx,HF3⟩
    simp[intOf]<;>omega
   have hl':¬(k:Int)<(rs.length:Int)-1:=cq;have HTA:O (PT (ai rs) k=N):=by show _=_;unfold PT;rw[if_neg (by rw[au];omega),HTf]
   have Zu:=Y3.put (.string N) (o:=k) (by rw[xK]) cq;have e3:Pe (ai rs) k++[.string N]=Pe (ai rs) (k+1):=by rw[CJ,HTA]
   rw[e3]at Zu;have HF3:=aB Zu;clear Zu e3;go_wp2;go_roundw;case rel=>exact⟨k+1,cq,cx,HF3⟩
   simp[intOf]<;>omega
  have hkk':¬(0:Int)<(rs[k].e.kids.length:Int):=cq;have hk123:rs[k].e.kind=1\/rs[k].e.kind=2\/rs[k].e.kind=3:=by
   have:=ZE.out;unfold ax at this;rcases hkind with h|h|h|h|h|h
   ·exact .inl h
   ·exact .inr<|.inl h
   ·exact .inr<|.inr h
   ·rw[h]at this;simp at this;omega
   ·rw[h]at this;simp at this;omega
   rw[h]at this;simp at this;omega
  have HTA:O (PT (ai rs) k=N):=by
   show _=_;unfold PT;split
   ·rw[HTt];rcases hk123 with h|h|h<;>simp[inT,h]
   exact HTf
  have Zu:=Y3.put (.string N) (o:=k) (by rw[xK]) cq;have e3:Pe (ai rs) k++[.string N]=Pe (ai rs) (k+1):=by rw[CJ,HTA]
  rw[e3]at Zu;have HF3:=aB Zu;clear Zu e3 hk123;go_wp2;go_roundw;case rel=>exact⟨k+1,cq,cx,HF3⟩
  simp[intOf]<;>omega
 obtain rfl:k=rs.length:=cq;have a0:=HFI.done (rs.length-1) (by rw[xK];omega);rw[R8]at a0;have hcast:((rs.length:Int)-1)=((rs.length-1:Nat):Int):=cq
 have h00:(0:Int)<=((rs.length-1:Nat):Int):=cq;have h01:((rs.length-1:Nat):Int)<(rs.length:Int):=cq;have HBB:=iD HB1 hB;go_wp2;go_ret;exact⟨by rw[HX];rfl,HBB⟩
def yN(ad:Q02)(cap:Nat)(rs:Q08)(w:af)(hlen:bh rs)(hl:∀r∈rs,r.e.light)(hf:∀r∈rs,r.e.fits)(hcp:∀r∈rs,r.e.allow.length<=r.capA)(hs:iw w ad rs):
  Calls prog 106 #[.slice ad rs.length cap] w (bj w<|.string<|dS<|ai rs):=by
 rcases hs with rfl|⟨b,off,rfl,hb,hr,hok⟩
 ·have HIM:=rY ad cap [] w hlen hl hf hcp<|.inl rfl;go_enter func106,ntmps106;go_wp2_with fail;refine HIM.mono ?_;rintro e w1 ⟨he,hb1⟩;have h0:kG (ai [])=false:=rfl;rw[h0]at he;subst he;have HB1:=aB hb1;clear hb1 HIM h0;go_wp2;go_ret;exact⟨rfl,HB1⟩
 exact yM b off cap rs w hlen hl hf hcp hb hr hok
def CK{es:Q09}:∀(ks:List Int) (a b j:Nat),rQ es ks a b->a<=j->j<b->∃k∈ks,av es k.toNat<=(j:Int)/\j<=k.toNat/\(a:Int)<=av es k.toNat
 | [],a,b,j,h,h1,h2=>by
  have:a=b:=h;omega
 | x::ks,a,b,j,h,h1,h2=>by
  obtain⟨h3,h4,h5⟩:=h;by_cases hj:j<=x.toNat
  ·exact⟨x,ct,cq,hj,cq⟩
  obtain⟨k,hk,e1,e2,e3⟩:=CK ks _ b j h5 cq h2;have:=iq es x.toNat;exact⟨k,by simp[hk],e1,e2,cq⟩
def CO{es:Q09}:∀(ks:List Int) (a b:Nat),rQ es ks a b->∀k∈ks,a<=k.toNat
 | [],_,_,_,k,hk=>by cases hk
 | x::ks,a,b,h,k,hk=>by
  obtain⟨h3,h4,h5⟩:=h;have:=iq es x.toNat;rcases Xc.1 hk with rfl|hk
  ·omega
  have:=CO ks _ b h5 k hk;omega
def sw{es:Q09}:∀(ks:List Int) (a b:Nat),rQ es ks a b->∀(p:Nat) (hp:p<ks.length),rQ es (ks.drop<|p+1) (ks[p].toNat+1) b/\0<=ks[p]
 | [],_,_,_,p,hp=>by simp at hp
 | x::ks,a,b,h,0,_=>⟨h.2.2,h.1⟩
 | x::ks,a,b,h,p+1,hp=>by
  have:=sw ks _ b h.2.2 p (by simpa using hp);simpa using this
def Pf{es:Q09}(ht:∀j,j<es.length->0<=av es j):∀(n:Nat),n<es.length->∀j:Nat,av es n<=(j:Int)->j<=n->av es n<=av es j:=by
 intro n
 induction n using Nat.strongRecOn with
 | _ n ih =>
  intro hn j h1 h2;by_cases e:j=n
  ·rw[e];exact Int.le_refl _
  have hc:=pg<|ht n hn;obtain⟨k,hk,e1,e2,e3⟩:=CK _ _ _ j hc (by have:=ht n hn;omega) cq;have hlt:=(pq _ _ _ hc).2 k hk;have:=ih k.toNat hlt.2 cq j e1 e2;have:=ht n hn;omega
def Me{es:Q09}(ht:∀j,j<es.length->0<=av es j){i j:Nat}(hi:i<es.length)(hj:j<i){x y:Int}(hx:x∈dD es i)(hy:y∈dD es j):x.toNat≠y.toNat:=by
 intro e;have ci:=pg<|ht i hi;have cj:=pg<|ht j cq;obtain⟨p,hp,rfl⟩:=Xt hx;obtain⟨h1,h2⟩:=sw _ _ _ ci p hp;have hyj:=(pq _ _ _ cj).2 y hy;have hyg:=CO _ _ _ cj y hy;obtain⟨k,hk,e1,e2,e3⟩:=CK _ _ _ j h1 cq hj;have hk2:=(pq _ _ _ ci).2 k<|List.mem_of_mem_drop hk;have:=Pf ht k.toNat cq j e1 e2;have:=ht j cq;omega
def Mf{es:Q09}{i:Nat}(h:0<=av es i)(p q:Nat)(hp:p<(dD es i).length)(hq:q<(dD es i).length)(hpq:p<q):(dD es i)[p].toNat<(dD es i)[q].toNat:=by
 have h1:=(sw _ _ _ (pg h) p hp).1;refine CO _ _ _ h1 _ ?_;rw[List.mem_drop_iff_getElem];exact⟨q-(p+1),cq,by congr 1;omega⟩
def kX(i:Nat)(kind:Int):∀(xs:List Int) (k:Nat) (out:List Bool) (z:Nat),(∀x∈xs,x.toNat≠z)->(bF i kind xs k out).getD z false=out.getD z false
 | [],_,_,_,_=>rfl
 | x::xs,k,out,z,h=>by
  rw[bF,kX i kind xs (k+1) _ z fun y hy=>h y<|Xu _ hy];simp only[Xh,List.getElem?_set_ne<|h x<|XH ..]
def CP(i:Nat)(kind:Int):∀(xs:List Int) (k:Nat) (out:List Bool),(∀(p q:Nat) (hp:p<xs.length) (hq:q<xs.length),p<q->xs[p].toNat≠xs[q].toNat)->(∀x∈xs,x.toNat≠i)->(∀x∈xs,x.toNat<out.length)->∀(p:Nat) (hp:p<xs.length),(bF i kind xs k out).getD xs[p].toNat false=(out.getD i false || (kind==6&&(k+p)==1))
 | [],_,_,_,_,_,p,hp=>by simp at hp
 | x::xs,k,out,hd,hi,hl,p,hp=>by
  have hxi:=hi x<|XH ..;have hxl:=hl x<|XH ..;have hgi:(out.set x.toNat<|out.getD i false || (kind==6&&k==1)).getD i false=out.getD i false:=by
   rw[Xh,Xh,List.getElem?_set_ne hxi]
  rw[bF];cases p with
  | zero =>
   rw[List.getElem_cons_zero,kX i kind xs (k+1) _ x.toNat fun y hy=>?_]
   ·rw[Xh,List.getElem?_set_self hxl];rfl
   obtain⟨q,hq,rfl⟩:=Xt hy;exact(hd 0 (q+1) ct (by simpa using hq) cq).symm
  | succ p =>
   have:=CP i kind xs (k+1) (out.set x.toNat<|out.getD i false || (kind==6&&k==1)) (fun a b ha hb hab=>hd (a+1) (b+1) (by simpa using ha) (by simpa using hb) cq) (fun y hy=>hi y<|Xu _ hy) (fun y hy=>by rw[List.length_set];exact hl y<|Xu _ hy) p (by simpa using hp);rw[List.getElem_cons_succ,this,hgi,show k+1+p=k+(p+1) by omega]
def qK(es:Q09):∀(m:Nat) (out:List Bool) (z:Nat),(∀j,j<m->∀x∈dD es j,x.toNat≠z)->(eQ es m out).getD z false=out.getD z false
 | 0,_,_,_=>rfl
 | m+1,out,z,h=>by
  rw[eQ,qK es m _ z fun j hj=>h j cq];cases e:es[m]? with
  | none=>rfl
  | some x=>exact kX m x.kind x.kids 0 out z fun y hy=>h m cq y (by unfold dD;rw[e];exact hy)
def xL(es:Q09)(i:Nat):∀(d:Nat) (out:List Bool),∃out':List Bool,out'.length=out.length/\eQ es (i+d) out=eQ es i out'
 | 0,out=>⟨out,rfl,rfl⟩
 | d+1,out=>by
  obtain⟨o',h1,h2⟩:=xL es i d (match es[i+d]? with|none=>out|some e=>bF (i+d) e.kind e.kids 0 out);refine⟨o',?_,h2⟩;rw[h1];cases es[i+d]? with
  | none=>rfl
  | some e=>exact zg _ _ _ _ _
def M9{es:Q09}(ht:∀j,j<es.length->0<=av es j){i:Nat}(hi:i<es.length)(p:Nat)(hp:p<es[i].kids.length):(dH es).getD es[i].kids[p].toNat false=((dH es).getD i false || (es[i].kind==6&&p==1)):=by
 have hk:dD es i=es[i].kids:=by unfold dD;rw[WS hi];rfl
 have hlow:∀j,j<es.length->∀x∈dD es j,x.toNat<j:=fun j hj x hx=>((pq _ _ _<|pg<|ht j hj).2 x hx).2;obtain⟨o',h1,h2⟩:=xL es (i+1) (es.length-(i+1))<|List.replicate es.length false;rw[show i+1+(es.length-(i+1))=es.length by omega]at h2;have hN:dH es=eQ es i (bF i es[i].kind es[i].kids 0 o'):=by
  unfold dH;rw[h2,eQ,WS hi]
 have hmem:es[i].kids[p]∈dD es i:=by rw[hk];exact WH hp
 have hA:(dH es).getD es[i].kids[p].toNat false=(bF i es[i].kind es[i].kids 0 o').getD es[i].kids[p].toNat false:=by
  rw[hN];exact qK es i _ _ fun j hj x hx e=>Me ht hi hj hmem hx e.symm
 have hB:(dH es).getD i false=o'.getD i false:=by
  rw[hN,qK es i _ i fun j hj x hx=>by have:=hlow j cq x hx;omega];exact kX i _ _ 0 o' i fun x hx=>by have:=hlow i hi x (by rw[hk];exact hx);omega
 rw [hA,hB,CP i es[i].kind es[i].kids 0 o' (fun a b ha hb hab=>by
   have:=Mf (ht i hi) a b (by rw[hk];exact ha) (by rw[hk];exact hb) hab;simp only[hk]at this;omega) (fun x hx=>by have:=hlow i hi x (by rw[hk];exact hx);omega) (fun x hx=>by have:=hlow i hi x (by rw[hk];exact hx);rw[h1];simp;omega) p hp,Xl]
def zX(es:Q09)(i:Nat):Int:=if (dH es).getD i false then 1 else 0
structure NodeR(l:Q05)(rk:Fc->Int)(es:Q09)(f:Fc):Prop where
 ht:∀j,j<es.length->0<=av es j
 q1:∀i (hi:i<es.length),es[i].kind=1->∀t∈l,(t.a.toList==f.a.toList&&t.b.toList==f.b.toList&&t.r.toList==f.r.toList)=true->t.s.toList.isEmpty=false->rk ⟨t.c,t.d,t.s,f.c,f.d⟩+zX es i<=rk f
 q2:∀i (hi:i<es.length),es[i].kind=2->rk ⟨f.a,f.b,es[i].name,f.c,f.d⟩+zX es i<=rk f
 q3:∀i (hi:i<es.length),es[i].kind=3->∀t∈l,(t.a.toList==f.a.toList&&t.b.toList==f.b.toList&&t.r.toList==es[i].over.toList)=true->rk ⟨t.c,t.d,es[i].name,f.c,f.d⟩+zX es i<=rk f
 k6:∀i (hi:i<es.length),es[i].kind=6->es[i].kids.length=2
section
variable  {l:Q05}{rk:Fc->Int}{es:Q09}{f:Fc}
def Ju(rk:Fc->Int)(r:Int)(a b:Q04):Prop:=∀g:Fc,rk g<r->(g∈a↔g∈b)
def UX(rk:Fc->Int)(r:Int)(a b:Q04):Prop:=∀g:Fc,rk g<=r->g∈a->g∈b
def vD{a b:Q04}{r:Int}(h:Ju rk r a b){g:Fc}(hg:rk g<r):gJ a g=gJ b g:=by
 rw[Xe,bf,bf];exact h g hg
def vF{a b:Q04}{r:Int}(h:UX rk r a b){g:Fc}(hg:rk g<=r)(hh:gJ a g=true):gJ b g=true:=bf.2<|h g hg<|bf.1 hh
def Ar{α:Type}{p q:α->Bool}{xs:List α}(h:∀x∈xs,p x=q x):xs.any p=xs.any q:=by
 rw[Xe,Xj,Xj];exact⟨fun⟨x,hx,e⟩=>⟨x,hx,by rw[<-h x hx];exact e⟩,fun⟨x,hx,e⟩=>⟨x,hx,by rw[h x hx];exact e⟩⟩
def Gy{α:Type}{p q:α->Bool}{xs:List α}(h:∀x∈xs,p x=q x):xs.all p=xs.all q:=by
 rw[Xe,WT,WT];exact⟨fun e x hx=>by rw[<-h x hx];exact e x hx,fun e x hx=>by rw[h x hx];exact e x hx⟩
def NodeR.kid(h:NodeR l rk es f){i:Nat}(hi:i<es.length){p:Nat}(hp:p<es[i].kids.length):es[i].kids[p].toNat<es.length:=by
 have hk:dD es i=es[i].kids:=by unfold dD;rw[WS hi];rfl
 have:=((pq _ _ _<|pg<|h.ht i hi).2 es[i].kids[p]<|by rw[hk];exact WH hp).2;omega
def NodeR.same(h:NodeR l rk es f){ta tb:Q04}(hT:Ju rk (rk f) ta tb):∀(k:Nat) (a b:Q04) (i:Nat),Ju rk (rk f) a b->i<es.length->(dH es).getD i false=true->aJ l es ta f k a i=aJ l es tb f k b i
 | 0,_,_,_,_,_,_=>rfl
 | k+1,a,b,i,hS,hi,hg=>by
  have hng:zX es i=1:=by unfold zX;rw[hg];rfl
  have Yy:∀x∈es[i].kids,∀a b,Ju rk (rk f) a b->aJ l es ta f k a x.toNat=aJ l es tb f k b x.toNat:=fun x hx a b hS=>by
   obtain⟨p,hp,rfl⟩:=Xt hx;exact h.same hT k a b _ hS (h.kid hi hp) (by rw[M9 h.ht hi p hp,hg];rfl)
  unfold aJ;rw[WS hi];simp only;by_cases e1:es[i].kind=1
  ·rw[if_pos e1,if_pos e1];refine Ar fun t ht=>?_;cases hm:(t.a.toList==f.a.toList&&t.b.toList==f.b.toList&&t.r.toList==f.r.toList);case false=>rfl
   cases hs:t.s.toList.isEmpty;case true=>rfl
   have:=h.q1 i hi e1 t ht hm hs;simp only[Bool.false_eq_true,if_false];rw[vD hS (g:=⟨t.c,t.d,t.s,f.c,f.d⟩) cq]
  rw[if_neg e1,if_neg e1];by_cases e2:es[i].kind=2
  ·rw[if_pos e2,if_pos e2];have:=h.q2 i hi e2;exact vD hS cq
  rw[if_neg e2,if_neg e2];by_cases e3:es[i].kind=3
  ·rw[if_pos e3,if_pos e3];refine Ar fun t ht=>?_;cases hm:(t.a.toList==f.a.toList&&t.b.toList==f.b.toList&&t.r.toList==es[i].over.toList);case false=>rfl
   have:=h.q3 i hi e3 t ht hm;rw[vD hS (g:=⟨t.c,t.d,es[i].name,f.c,f.d⟩) cq]
  rw[if_neg e3,if_neg e3];by_cases e4:es[i].kind=4
  ·rw[if_pos e4,if_pos e4];exact Ar fun x hx=>Yy x hx a b hS
  rw[if_neg e4,if_neg e4];by_cases e5:es[i].kind=5
  ·rw[if_pos e5,if_pos e5];exact Gy fun x hx=>Yy x hx a b hS
  rw[if_neg e5,if_neg e5];by_cases e6:es[i].kind=6
  ·rw[if_pos e6,if_pos e6];have hl:=h.k6 i hi e6;have hx:∀q,q<2->es[i].kids.getD q 0∈es[i].kids:=fun q hq=>by
    rw[Xh,WS cq];exact WH _
   rw[Yy _ (hx 0 cq) a b hS,Yy _ (hx 1 cq) ta tb hT]
  rw[if_neg e6,if_neg e6]
def NodeR.more(h:NodeR l rk es f){ta tb:Q04}(hT:Ju rk (rk f) ta tb):∀(k:Nat) (a b:Q04) (i:Nat),UX rk (rk f) a b->i<es.length->aJ l es ta f k a i=true->aJ l es tb f k b i=true
 | 0,_,_,_,_,_,hh=>by cases hh
 | k+1,a,b,i,hM,hi,hh=>by
  have hng:0<=zX es i:=by unfold zX;split<;>omega
  have Yy:∀x∈es[i].kids,aJ l es ta f k a x.toNat=true->aJ l es tb f k b x.toNat=true:=fun x hx=>by
   obtain⟨p,hp,rfl⟩:=Xt hx;exact h.more hT k a b _ hM<|h.kid hi hp
  unfold aJ at hh⊢;rw[WS hi]at hh⊢;simp only at hh⊢;by_cases e1:es[i].kind=1
  ·rw[if_pos e1]at hh ⊢;obtain⟨t,ht,e⟩:=Xj.1 hh;refine Xj.2 ⟨t,ht,?_⟩;rw[WM]at e ⊢;refine⟨e.1,?_⟩;cases hs:t.s.toList.isEmpty;case true=>have:=e.2;rw[hs]at this;exact this
   have h2:=e.2;rw[hs]at h2;simp only[Bool.false_eq_true,if_false]at h2 ⊢;have:=h.q1 i hi e1 t ht e.1 hs;exact vF hM cq h2
  rw[if_neg e1]at hh ⊢;by_cases e2:es[i].kind=2
  ·rw[if_pos e2]at hh ⊢;have:=h.q2 i hi e2;exact vF hM cq hh
  rw[if_neg e2]at hh ⊢;by_cases e3:es[i].kind=3
  ·rw[if_pos e3]at hh ⊢;obtain⟨t,ht,e⟩:=Xj.1 hh;refine Xj.2 ⟨t,ht,?_⟩;rw[WM]at e ⊢;have:=h.q3 i hi e3 t ht e.1;exact⟨e.1,vF hM cq e.2⟩
  rw[if_neg e3]at hh ⊢;by_cases e4:es[i].kind=4
  ·rw[if_pos e4]at hh ⊢;obtain⟨x,hx,e⟩:=Xj.1 hh;exact Xj.2 ⟨x,hx,Yy x hx e⟩
  rw[if_neg e4]at hh ⊢;by_cases e5:es[i].kind=5
  ·rw[if_pos e5]at hh ⊢;exact WT.2 fun x hx=>Yy x hx<|WT.1 hh x hx
  rw[if_neg e5]at hh ⊢;by_cases e6:es[i].kind=6
  ·rw[if_pos e6]at hh ⊢;have hl:=h.k6 i hi e6;have hx:∀q (hq:q<2),es[i].kids.getD q 0=es[i].kids[q]'cq:=fun q hq=>by
    rw[Xh,WS cq];rfl
   rw[WM]at hh ⊢;refine⟨?_,?_⟩
   ·have h0:=hh.1;rw[hx 0 cq]at h0 ⊢;exact Yy _ (WH _) h0
   have h1:=hh.2;rw[hx 1 cq]at h1 ⊢;have hf:(dH es).getD (es[i].kids[1]'cq).toNat false=true:=by
    rw[M9 h.ht hi 1 cq,e6];simp
   rw[<-h.same hT k ta tb _ hT (h.kid hi cq) hf];exact h1
  rw[if_neg e6]at hh;cases hh
end
def Pg{ts:Q0b}{l:Q05}{rk:Fc->Int}(hn:∀f:Fc,aj ts f.a f.r≠[]->NodeR l rk (aj ts f.a f.r) f):Lay rk (eH ts l):=fun a b f h1 h2 hh=>by
 by_cases he:aj ts f.a f.r=[]
 ·unfold eH at hh;rw[he]at hh;cases hh
 have hpos:(aj ts f.a f.r).length-1<(aj ts f.a f.r).length:=by
  have:(aj ts f.a f.r).length≠0:=fun e=>he<|Xb.1 e;omega
 refine(hn f he).more h1 _ a b _ (fun g hg hm=>?_) hpos hh;by_cases e:rk g=rk f
 ·exact h2 g e hm
 exact(h1 g cq).1 hm
def Ph(ts:Q0b)(st:Q00)(g:Fc):Int:=if hasB ts g.a g.r then st (g.a,g.r) else -1
def Jv(ts:Q0b)(t:Tp):Bool:=(aj ts t.a t.r).any fun e=>decide (e.kind=1)&&dG e.allow e.allow.length ⟨t.c,t.s⟩
def xM{ts:Q0b}{a r:ByteArray}:hasB ts a r=true↔aj ts a r≠[]:=by
 unfold hasB;cases aj ts a r<;>simp
def CR{ts:Q0b}{typ:ByteArray}{es:Q09}{i:Nat}{d:Dp}(h:d∈iV ts typ es i):∀k,i<k->d∈aR ts typ es k
 | 0,hi=>absurd hi<|XE _
 | k+1,hi=>by
  unfold aR;by_cases e:i=k
  ·subst e;exact List.mem_append_right _ h
  exact XK _<|CR h k cq
def CS{ng:Bool}{a:Al}:∀{xs:Q0a},a∈xs->a.s.toList.isEmpty=false->(⟨a.t,a.s,ng⟩:Dp)∈dw ng xs
 | [],h,_=>by cases h
 | x::xs,h,hs=>by
  unfold dw;rcases Xc.1 h with rfl|h
  ·rw[if_neg (by rw[hs];decide)];exact XH ..
  split
  ·exact CS h hs
  exact Xu _<|CS h hs
def R9{ts:Q0b}{rel:ByteArray}{a:Al}:∀{xs:Q0a},a∈xs->hasB ts a.t rel=true->a.t∈gl ts rel xs
 | [],h,_=>by cases h
 | x::xs,h,hs=>by
  unfold gl;rcases Xc.1 h with rfl|h
  ·rw[if_neg (by unfold hasB at hs;simpa using hs)];exact XH ..
  split
  ·exact R9 h hs
  exact Xu _<|R9 h hs
def Fj{xs:Q0a}{c s:ByteArray}(h:dG xs xs.length ⟨c,s⟩=true):(⟨c,s⟩:Al)∈xs:=by
 unfold dG at h;rw[Xa]at h;obtain⟨a,ha,e⟩:=Xj.1 h;unfold kY at e;rw[WM,beq_iff_eq,beq_iff_eq]at e;have:a=⟨c,s⟩:=by
  cases a;simp only at e;rw[fU e.1,fU e.2]
 rw[<-this];exact ha
def Ue{es:Q09}(h:own es<=1){i j:Nat}(hi:i<es.length)(hj:j<es.length)(ki:es[i].kind=1)(kj:es[j].kind=1):i=j:=by
 have key:∀(es:Q09) (i j:Nat) (hi:i<es.length) (hj:j<es.length),es[i].kind=1->es[j].kind=1->i<j->2<=own es:=by
  intro es
  induction es with
  | nil=>intro i j hi;simp at hi
  | cons e es ih =>
   intro i j hi hj ki kj hij;unfold own;rw[XX];cases j with
   | zero=>omega
   | succ j =>
    have kj':(es[j]'(by simpa using hj)).kind=1:=by simpa using kj
    cases i with
    | zero =>
     have ki':e.kind=1:=by simpa using ki
     have:0<(es.filter fun e=>decide (e.kind=1)).length:=List.length_pos_of_mem (a:=es[j]'(by simpa using hj)) (XM.2 ⟨WH _,by simpa using kj'⟩);simp[ki'];omega
    | succ i =>
     have:=ih i j (by simpa using hi) (by simpa using hj) (by simpa using ki) kj' cq;unfold own at this;split
     ·simp;omega
     exact this
 rcases Nat.lt_trichotomy i j with h1|h1|h1
 ·have:=key es i j hi hj ki kj h1;omega
 ·exact h1
 have:=key es j i hj hi kj ki h1;omega
def CU{ts:Q0b}{l:Q05}{st:Q00}(hS:Sol ts st)(hsh:bB ts=true)(hrf:iG ts=true)(hfit:∀t∈l,Jv ts t=true){f:Fc}(hf:aj ts f.a f.r≠[]):NodeR l (Ph ts st) (aj ts f.a f.r) f:=by
 obtain⟨es,hes⟩:=eQx<|aj ts f.a f.r;have hp:fB ts f.a f.r=some es:=by
  rw[hes];cases e:fB ts f.a f.r with
  | none=>unfold aj at hf;rw[e]at hf;exact absurd rfl hf
  | some x=>unfold aj;rw[e];rfl
 obtain⟨t0,ht0,r0,hr0,en,er,ee⟩:=oW hp;have hspec:=(vv hsh ht0 hr0).2;rw[ee]at hspec;have hk:(f.a,f.r)∈ay ts:=by
  unfold ay kH;exact Xd.2 ⟨t0,ht0,WV.2 ⟨r0,hr0,by rw[en,er]⟩⟩
 have hrk:Ph ts st f=st (f.a,f.r):=by unfold Ph;rw[if_pos (xM.2 hf)]
 have hup:∀i,i<es.length->∀d∈iV ts f.a es i,st (d.typ,d.rel)+stepOf d<=st (f.a,f.r):=fun i hi d hd=>hS.up _ hk d (by show d∈qR ts f.a (aj ts f.a f.r);rw[<-hes];exact CR hd _ hi);have hpos:=hS.pos (f.a,f.r);have hng:∀i,0<=zX es i/\zX es i<=1:=fun i=>by unfold zX;split<;>omega
 -- whatever a node asks by a name that it leans on
 have ask:∀i (hi:i<es.length) (g:Fc),(hasB ts g.a g.r=true->(⟨g.a,g.r,(dH es).getD i false⟩:Dp)∈iV ts f.a es i)->Ph ts st g+zX es i<=Ph ts st f:=fun i hi g h=>by
  rw[hrk];have h1:=hng i;unfold Ph;split
  ·rename_i hb;have h2:=hup i hi _<|h hb;unfold stepOf at h2;unfold zX;exact h2
  omega
 rw[<-hes];have hdA:∀i (hi:i<es.length),iV ts f.a es i=dw ((dH es).getD i false) es[i].allow++lW ts f.a ((dH es).getD i false) es[i]:=fun i hi=>by unfold iV;rw[WS hi]
 have hspec2:=hspec;unfold aK at hspec2;simp only[WM,WW]at hspec2;obtain⟨⟨⟨⟨⟨-,-⟩,hnb⟩,hku⟩,hown⟩,htr⟩:=hspec2;refine⟨fun j hj=>?_,fun i hi k1 t ht hm hs=>?_,fun i hi k2=>?_,fun i hi k3 t ht hm=>?_,fun i hi k6=>?_⟩
 ·exact oF es (es.length-1) (by rw[htr];exact Int.le_refl _) j (by rw[htr];omega) cq
 ·refine ask i hi _ fun hb=>?_;rw[WM,WM,beq_iff_eq,beq_iff_eq,beq_iff_eq]at hm;have h1:=hfit t ht;unfold Jv at h1;rw[fU hm.1.1,fU hm.2,<-hes]at h1;obtain⟨e,he,h2⟩:=Xj.1 h1;rw[WM,WW]at h2;obtain⟨j,hj,rfl⟩:=Xt he;have:=Ue hown hi hj k1 h2.1;subst this;rw[hdA i hi];exact XK _<|CS (Fj h2.2) hs
 ·refine ask i hi _ fun hb=>?_;rw[hdA i hi];refine List.mem_append_right _ ?_;unfold lW;rw[if_pos k2];exact WZ.2 rfl
 ·refine ask i hi _ fun hb=>?_;rw[WM,WM,beq_iff_eq,beq_iff_eq,beq_iff_eq]at hm;have hrn:=(TH hrf ht0 hr0 (e:=es[i])<|by rw[ee];exact WH hi).2;unfold l8 at hrn;rw[if_neg (by rw[k3];decide),if_pos k3]at hrn;simp only[WM]at hrn;have hdir:=hrn.1;rw[en]at hdir;have h1:=hfit t ht;unfold Jv at h1;rw[fU hm.1.1,fU hm.2]at h1;have hmem:(⟨t.c,t.s⟩:Al)∈aQ (aj ts f.a es[i].over):=by
   rcases hre:aj ts f.a es[i].over with _|⟨e,_|⟨e2,rest⟩⟩
   ·rw[hre]at hdir;simp[bH]at hdir
   ·rw[hre]at hdir h1;simp only[bH,WM,WW]at hdir;obtain⟨e',he',h2⟩:=Xj.1 h1;rw[WZ]at he';subst he';rw[WM]at h2;simp only[aQ,if_pos hdir.1];exact Fj h2.2
   rw[hre]at hdir;simp[bH]at hdir
  rw[hdA i hi];refine List.mem_append_right _ ?_;unfold lW;rw[if_neg (by rw[k3];decide),if_pos k3];exact WV.2 ⟨t.c,R9 (a:=⟨t.c,t.s⟩) hmem hb,rfl⟩
 have h:=WT.1 hnb _<|WH hi;unfold ax at h;simp[k6]at h;exact h.1.1.1
def Gz{ts:Q0b}{l:Q05}{st:Q00}(hS:Sol ts st)(hsh:bB ts=true)(hrf:iG ts=true)(hfit:∀t∈l,Jv ts t=true):Lay (Ph ts st) (eH ts l):=Pg fun f hf=>CU hS hsh hrf hfit hf
def CW{ts:Q0b}{st:Q00}{xo xu:Q0a}{n:Int}(hen:∀k∈ay ts,hasB ts k.1 k.2=true){f:Fc}(h:f∈cu ts st xo xu n):Ph ts st f=n:=by
 unfold cu yE ui Gh at h;obtain⟨o,-,h⟩:=Xd.1 h;obtain⟨k,hk,h⟩:=Xd.1 h;obtain⟨u,-,rfl⟩:=WV.1 h;obtain⟨hk1,hk2⟩:=XM.1 hk;rw[WM,beq_iff_eq,WW]at hk2;have e1:k.1=o.t:=fU hk2.1;have hb:hasB ts o.t k.2=true:=by
  rw[<-e1];exact hen k hk1
 unfold Ph;rw[if_pos hb];show st (o.t,k.2)=n;rw[<-e1];exact hk2.2
set_option linter.unusedSectionVars false
def CX{rs:Q06}(h:bB (ae rs)=true){k:Q01}(hk:k∈ay (ae rs)):∃es,fB (ae rs) k.1 k.2=some es/\aK es=true:=by
 unfold ay at hk;obtain⟨T,hT,hk⟩:=Xd.1 hk;obtain⟨t,ht,rfl⟩:=WV.1 hT;unfold kH at hk;obtain⟨r,hr,rfl⟩:=WV.1 hk;obtain⟨q,hq,rfl⟩:=WV.1 hr;exact⟨ai q.rows,nu h ht hq,((aW h).2.2 t ht q hq).1⟩
def Mg[DecidableEq Fc](st:Q00)(rs:Q06)(ts:Q05):List Fc:=ja (ae rs) ts st (fP ts) (dC ts)<|(ay<|ae rs).length+1
section
variable  [DecidableEq Fc]
def nI(st:Q00)(rs:Q06)(ts:Q05)(xo xu:Q0a):∀N,GoodO (ae rs) xo xu (ja (ae rs) ts st xo xu N)
 | 0=>⟨List.nodup_nil,fun g hg=>by cases hg⟩
 | N+1=>by
  refine⟨EO _ _ _ _ _ _,fun g hg=>?_⟩;rw[jU]at hg;obtain⟨new,e,hn⟩:=yh (H:=eH (ae rs) ts) (cu (ae rs) st xo xu (N:Int)) (mW (cu (ae rs) st xo xu (N:Int)) (ja (ae rs) ts st xo xu N)+1)<|ja (ae rs) ts st xo xu N;unfold mX at hg;rw[e]at hg;rcases WU.1 hg with hg|hg
  ·exact(nI st rs ts xo xu N).sub g hg
  exact OT<|hn g hg
end
section
variable  {φ:Type}[DecidableEq φ]{rk:φ->Int}{H:List φ->φ->Bool}{qs:Nat->List φ}
def Jw(H:List φ->φ->Bool)(out:List φ):Prop:=∀(i:Nat) (h:i<out.length),H (out.take i) out[i]=true
def Sa:Jw H []:=fun i h=>absurd h<|XE _
def Pi{out:List φ}(h:Jw H out)(f:φ):Jw H (fO H out f):=by
 unfold fO;split
 ·exact h
 rename_i hn;have hH:H out f=true:=by
  cases e:H out f;case true=>rfl
  exact absurd (.inr e) hn
 intro i hi;rw[WP,Xi]at hi;by_cases e:i<out.length
 ·rw[Xp e,List.take_append_of_le_length cq];exact h i e
 have e2:i=out.length:=cq;subst e2;rw[XG (WK _),List.take_append_of_le_length<|WK _,Xa];simpa using hH
def Jy:∀(q:List φ) {out:List φ},Jw H out->Jw H (dU H q out)
 | [],_,h=>h
 | f::q,out,h=>Jy q<|Pi h f
def Fp(q:List φ):∀(k:Nat) {out:List φ},Jw H out->Jw H (jC H q k out)
 | 0,_,h=>h
 | k+1,out,h=>by
  unfold jC;split
  ·exact h
  exact Fp q k<|Jy q h
def Na:∀N,Jw H (sP H qs N)
 | 0=>Sa
 | N+1=>Fp (qs N) _<|Na N
def Fq(hq:∀n,∀f∈qs n,rk f=(n:Int)):∀N,(sP H qs N).Pairwise fun a b=>rk a<=rk b
 | 0=>List.Pairwise.nil
 | N+1=>by
  obtain⟨new,e,hn⟩:=rP (H:=H) (qs N)<|sP H qs N;rw[sP,e];refine List.pairwise_append.2 ⟨Fq hq N,?_,fun a ha b hb=>?_⟩
  ·rw[List.pairwise_iff_getElem];intro i j hi hj _;rw[hq N _ (hn _<|WH hi),hq N _<|hn _<|WH hj];exact Int.le_refl _
  have h1:=Bz hq N a ha;have h2:=hq N b<|hn b hb;omega
def Pj{L:List φ}(hs:L.Pairwise fun a b=>rk a<=rk b){i:Nat}(hi:i<L.length){g:φ}(hg:rk g<rk L[i]):g∈L↔g∈L.take i:=by
 refine⟨fun h=>?_,fun h=>List.mem_of_mem_take h⟩;obtain⟨j,hj,rfl⟩:=Xt h;have hji:j<i:=by
  rcases Nat.lt_trichotomy j i with h1|h1|h1
  ·exact h1
  ·subst h1;exact absurd hg<|Int.lt_irrefl _
  have:=List.pairwise_iff_getElem.1 hs i j hi hj h1;omega
 exact List.mem_take_iff_getElem.2 ⟨j,cq,rfl⟩
end
section
variable  [DecidableEq Fc]
def Nb(ts:Q0b)(l:Q05)(st:Q00)(xo xu:Q0a):∀N,ja ts l st xo xu N=sP (eH ts l) (fun n=>cu ts st xo xu (n:Int)) N
 | 0=>rfl
 | N+1=>by rw[jU,Nb ts l st xo xu N];rfl
def Jz{ts:Q0b}{l:Q05}{st:Q00}{xo xu:Q0a}(hS:Sol ts st)(hsh:bB ts=true)(hrf:iG ts=true)(hfit:∀t∈l,Jv ts t=true)(hen:∀k∈ay ts,hasB ts k.1 k.2=true)(N:Nat){i:Nat}(hi:i<(ja ts l st xo xu N).length):
  aJ l (aj ts (ja ts l st xo xu N)[i].a (ja ts l st xo xu N)[i].r) (ja ts l st xo xu N) (ja ts l st xo xu N)[i] (aj ts (ja ts l st xo xu N)[i].a (ja ts l st xo xu N)[i].r).length ((ja ts l st xo xu N).take i) ((aj ts (ja ts l st xo xu N)[i].a (ja ts l st xo xu N)[i].r).length-1)=true:=by
 have e:=Nb ts l st xo xu N;have hq:∀n:Nat,∀f∈cu ts st xo xu (n:Int),Ph ts st f=(n:Int):=fun n f hf=>CW hen hf;have h1:=Na (H:=eH ts l) (qs:=fun n=>cu ts st xo xu (n:Int)) N;have h2:=Fq (H:=eH ts l) (qs:=fun n=>cu ts st xo xu (n:Int)) hq N;rw[<-e]at h1 h2;obtain⟨L,hL⟩:=eQx<|ja ts l st xo xu N;simp only[<-hL]at h1 h2 hi⊢;have hh:=h1 i hi;unfold eH at hh;obtain⟨f,hf⟩:=eQx<|L[i];rw[<-hf]at hh⊢;by_cases he:aj ts f.a f.r=[]
 ·rw[he]at hh;cases hh
 have hpos:(aj ts f.a f.r).length-1<(aj ts f.a f.r).length:=by
  have:(aj ts f.a f.r).length≠0:=fun e=>he<|Xb.1 e;omega
 refine(CU hS hsh hrf hfit he).more (fun g hg=>?_) _ _ _ _ (fun g _ h=>h) hpos hh;rw[hf]at hg;exact(Pj h2 hi hg).symm
end
end Go.Proofs.YtojjoblnpldniaaGreat
