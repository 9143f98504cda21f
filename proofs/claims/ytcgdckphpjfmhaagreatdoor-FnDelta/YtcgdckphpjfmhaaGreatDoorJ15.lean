/- Facts that are found, in memory: a row that is appended to while other rows stay. -/
import Derived.Test.YtcgdckphpjfmhaaGreatDoorSq
import Derived.Test.YtcgdckphpjfmhaaGreatDoorJ9
open Go.Proofs.Tryz
set_option maxHeartbeats 80000000
namespace Go.Proofs.YtcgdckphpjfmhaaGreatDoor
set_option linter.unusedVariables false
set_option maxRecDepth 100000
open ChangeShapes WideShapes ChangeAt RowKit Maps
open Pl
def aA(fs:Q04):List Value:=fs.flatMap Fc.row
theorem l8:∀fs:List Fc,(aA fs).length=fs.length*5
 | []=>rfl
 | f::fs=>by have:=l8 fs;simp only[aA,WF,Wi,WH,Fc.row,Xh]at this ⊢;omega
theorem qo(fs:Q04)(f:Fc):aA (fs++[f])=aA fs++f.row:=by simp[aA]
theorem rP:∀(fs:Q04) (i:Nat) (h:i<fs.length) (c:Nat),c<5->(aA fs)[i*5+c]?=fs[i].row[c]?
 | [],i,h,_,_=>by simp at h
 | f::fs,0,_,c,hc=>by
  simp only[aA,WF,Nat.zero_mul,WB,List.getElem_cons_zero];rw[Xa (by simp[Fc.row];omega)]
 | f::fs,i+1,h,c,hc=>by
  have ih:=rP fs i (by simpa using h) c hc;simp only[aA,WF,List.getElem_cons_succ]at ih ⊢;rw[WY (by simp[Fc.row];omega)];have:(i+1)*5+c-f.row.length=i*5+c:=by simp[Fc.row];omega
  rw[this];exact ih
theorem jc{w:ae}{base:Nat}{v:Value}{fs:Q04}(h:w.ownsRow base 43 5 v fs.length (aA fs)):∃ad cap,v=.slice ad fs.length cap/\tT w ad fs:=by
 rcases h.2 with⟨rfl,h0⟩|⟨g,cap,cur,rfl,hbg,hg,hnc,-⟩
 ·exact⟨none,0,by rw[h0],.inl (Wu.1 h0)⟩
 refine⟨_,cap,rfl,.inr ⟨g,0,rfl,(h.lt g rfl).2,fun i hi=>?_⟩⟩;have hl:=l8 fs;have hc:∀c,c<5->w.cell? ⟨g,0+i*5+c,none⟩=fs[i].row[c]?:=fun c hc=>by
  rw[h.cellAt (0+i*5+c) (by omega),WB];exact rP fs i hi c hc
 exact⟨hc 0 (by omega),hc 1 (by omega),hc 2 (by omega),hc 3 (by omega),hc 4 (by omega)⟩
theorem wE:∃i,prog.info? 43=some i/\i.zero=some (.agg #[.string ⟨#[]⟩,.string ⟨#[]⟩,.string ⟨#[]⟩,.string ⟨#[]⟩,.string ⟨#[]⟩])/\i.size=5/\i.bytes=80 :=
 info_parts (P:=prog) (e:=43) (z:=.agg #[.string ⟨#[]⟩,.string ⟨#[]⟩,.string ⟨#[]⟩,.string ⟨#[]⟩,.string ⟨#[]⟩]) (size:=5) (bytes:=80) (by kernel_rfl)
theorem Ec(w:ae)(f:Fc):∀j u,f.row[j]?=some u->(w.alloc (.cells #[.string f.a,.string f.b,.string f.r,.string f.c,.string f.d] 43)).cell? ((⟨w.heap.size,0,none⟩:Addr).add j)=some u:=fun j u hu=>by
 match j,hu with
 | 0,hu=>simp[Fc.row]at hu;subst hu;simp[Addr.add]
 | 1,hu=>simp[Fc.row]at hu;subst hu;simp[Addr.add]
 | 2,hu=>simp[Fc.row]at hu;subst hu;simp[Addr.add]
 | 3,hu=>simp[Fc.row]at hu;subst hu;simp[Addr.add]
 | 4,hu=>simp[Fc.row]at hu;subst hu;simp[Addr.add]
structure OutI(w W wr:World)(v:Value)(out:Q04):Prop where
 row:wr.ownsRow w.heap.size 43 5 v out.length (aA out)
 keep:∀g o x,W.cell? ⟨g,o,none⟩=some x->wr.cell? ⟨g,o,none⟩=some x
 size:W.heap.size<=wr.heap.size
 bel:af w wr
 free:∀g,v.ownBlock=some g->∀o,W.cell? ⟨g,o,none⟩=none
theorem aL{w:ae}{g o:Nat}{x:Value}(h:w.cell? ⟨g,o,none⟩=some x):g<w.heap.size:=by
 unfold World.cell? at h;cases ho:w.heap[g]? with
 | none=>simp[ho]at h
 | some o=>exact(We.1 ho).1
theorem Sq{w:ae}{g o:Nat}(h:w.heap.size<=g):w.cell? ⟨g,o,none⟩=none:=by
 cases e:w.cell? ⟨g,o,none⟩ with
 | none=>rfl
 | some x=>have:=aL e;omega
theorem OutI.below{w W wr w':ae}{v:Value}{out:Q04}(h:OutI w W wr v out)(hb:af wr w'):OutI w W w' v out where
 row:=aH h.row hb
 keep g o x hx:=(hb.cell (p:=⟨g,o,none⟩) (aL (h.keep g o x hx))).trans (h.keep g o x hx)
 size:=Wh h.size hb.size
 bel:=h.bel.trans (hb.mono h.bel.size)
 free:=h.free
theorem OutI.app{w W wr w':ae}{v v':Value}{out:Q04}{f:Fc}(h:OutI w W wr v out)(hown:w'.ownsRow w.heap.size 43 5 v' (out.length+1) (aA out++f.row))(hgr:wr.grownBy w' v.ownBlock)(hat:v'.ownBlock=v.ownBlock\/v'.ownBlock=some wr.heap.size):OutI w W w' v' (out++[f]) where
 row:=by rw[qo,Wi];exact hown
 keep g o x hx:=by
  have h1:=h.keep g o x hx;refine(Wt (w:=wr) (a:=⟨g,o,none⟩) (hgr.block g (aL h1) fun e=>?_)).trans h1;rw[h.free g e.symm o]at hx;cases hx
 size:=Wh h.size hgr.size
 bel:=h.bel.grown hgr h.bel.size (fun g hg=>(h.row.lt g hg).1)
 free g hg o:=by
  rcases hat with e|e
  ·rw[e]at hg;exact h.free g hg o
  rw[hg]at e;injection e with e;rw[e];exact Sq h.size
theorem lK.keepC{w w':ae}{ad:Q02}{xs:Q0a}(h:lK w ad xs)(hs:w.heap.size<=w'.heap.size)(hk:∀g o x,w.cell? ⟨g,o,none⟩=some x->w'.cell? ⟨g,o,none⟩=some x):lK w' ad xs:=by
 rcases h with h|⟨b,off,e,hb,hr⟩
 ·exact .inl h
 exact .inr ⟨b,off,e,VY hb hs,fun i hi=>⟨hk _ _ _ (hr i hi).1,hk _ _ _ (hr i hi).2⟩⟩
theorem Jm.keepC{w w':ae}{ad:Q02}{xs:List St}(h:Jm w ad xs)(hs:w.heap.size<=w'.heap.size)(hk:∀g o x,w.cell? ⟨g,o,none⟩=some x->w'.cell? ⟨g,o,none⟩=some x):Jm w' ad xs:=by
 rcases h with h|⟨b,off,e,hb,hr⟩
 ·exact .inl h
 exact .inr ⟨b,off,e,VY hb hs,fun i hi=>⟨hk _ _ _ (hr i hi).1,hk _ _ _ (hr i hi).2.1,hk _ _ _ (hr i hi).2.2⟩⟩
theorem Jm.at0{w:ae}{ad:Q02}{xs:List St}(h:Jm w ad xs){k:Nat}(hk:k<xs.length):∃b off,ad=some ⟨b,off,none⟩/\U7 w b (off+k*3) xs[k]/\b<w.heap.size:=by
 rcases h with h|⟨b',off',e,hb,hr⟩
 ·rw[h]at hk;simp at hk
 exact⟨b',off',e,hr k hk,hb⟩
def UA:Value->Nat
 | .slice _ n _=>n
 | _=>0
def VM:Value->Nat
 | .bool true=>1
 | _=>0
def Fc.fits(t:Fc):Prop:=t.a.size<=maxLen/\t.b.size<=maxLen/\t.r.size<=maxLen/\t.c.size<=maxLen/\t.d.size<=maxLen
def kX(k:Fc):Value:=.agg #[.string k.a,.string k.b,.string k.r,.string k.c,.string k.d]
theorem Hw(x y:Fc)(h:kX x=kX y):x=y:=by
 unfold kX at h;injection h with h;have h1:=congrArg Array.toList h;simp at h1;obtain⟨xa,xb,xr,xc,xd⟩:=x;obtain⟨ya,yb,yr,yc,yd⟩:=y;simp only at h1;obtain⟨rfl,rfl,rfl,rfl,rfl⟩:=h1;rfl
theorem Qw:laidOutB prog=true:=by kernel_rfl
theorem UB:(43:TypeId)<prog.types.size:=of_decide_eq_true (by kernel_rfl)
theorem Sr:(match prog.underlying 43 with|some (.array _ _)|some (.struct _)=>true|_=>false)=true:=by rw[underlying43]
set_option maxRecDepth 100000 in
theorem Su:WideMaps.KeyLaw prog 43:=deep_law_laid Qw (m:=3) (by omega) UB (by kernel_rfl) Sr
theorem Ki:Keyed prog 43:=Keyed.of_law Su
theorem Sw:prog.keyType 43=true:=by kernel_rfl
theorem Hy:prog.cellsOf 43=5:=by kernel_rfl
theorem Nz:prog.cellsOf 27=2:=by kernel_rfl
theorem NA:prog.cellsOf 9=1:=by kernel_rfl
theorem NC:2<=prog.types.size:=of_decide_eq_true (by kernel_rfl)
theorem Kj:∃n,prog.types.size=n+2:=⟨prog.types.size-2,by have:=NC;omega⟩
set_option maxRecDepth 100000 in
theorem BI(k:Fc)(h:k.fits):∃kl,keyOf prog 43 (kX k)=some kl:=by
 obtain⟨n,hn⟩:=Kj;obtain⟨h0,h1,h2,h3,h4⟩:=h;refine⟨.string (keyBytes [.string k.a.data.toList,.string k.b.data.toList,.string k.r.data.toList,.string k.c.data.toList,.string k.d.data.toList]),?_⟩;unfold keyOf;rw[underlying43];simp only[Sw,kX,Value.formed,underlying43,Hy,hn,Value.cells];simp +decide [Program.keyLits,underlying43,underlying27,underlying9,Hy,Nz,NA,h0,h1,h2,h3,h4]
theorem Qx(w:ae):(zeroValue 157).run prog w=.ok (.agg #[]) w:=by kernel_rfl
theorem Hz(b n:Nat)(M:Fc->Option Value)(f:Fc)(w:ae)(hf:f.fits)(hV:aN kX prog 43 w b n M)(hM:∀v,M f=some v->v=.agg #[]):
  Calls prog 67 #[.map (some b),.agg #[.string f.a,.string f.b,.string f.r,.string f.c,.string f.d]] w fun e w'=>e=.returned (.bool (M f).isSome)/\af w w':=by
 obtain⟨kl,hkl⟩:=BI f hf;have Yp:Hid (keyOf prog 43 (kX f)=some kl):=hkl;have HM:Hid ((M f).getD (.agg #[])=.agg #[]):=by
  show _=_;cases e:M f with
  | none=>rfl
  | some v=>exact hM v e
 obtain⟨W,hW⟩:∃W,W=w.alloc (.cells #[.string f.a,.string f.b,.string f.r,.string f.c,.string f.d] 43):=⟨_,rfl⟩;have HB:=nC hW;have HV:=aC (hV.below HB.out);have HB2:Hid (af w (W.alloc (.cells #[] 157))):=HB.out.alloc HB.out.size _;clear hkl hV hM;go_enter func67,ntmps67;go_wp2_with(at_lookup;rw[<-hW];clear hW;refine dL _ rfl _ _ 117 rfl 43 157 Ki underlying117 (Qx _) b n M rfl HV.out f kl rfl Yp.out ?_;rw[HM.out]);go_ret;exact⟨rfl,HB2.out⟩
def fM(u:Bool)(ts:Q05):List Al:=if u then dN ts else gP ts
def iU(u:Bool)(xs:Q0a)(t:Tp):Nat->List Al
 | 0=>xs
 | 1=>if u then xs else fe xs ⟨t.a,t.b⟩
 | _=>if u then dB xs t else iH xs t
theorem H5(u:Bool){ts:Q05}{k:Nat}(h:k<ts.length):fM u (ts.take (k+1))=iU u (fM u (ts.take k)) ts[k] 2:=by
 rw[V8 h];cases u
 ·exact Bf _ _
 exact yx _ _
theorem Kk(u:Bool)(ts:Q05):(fM u ts).length<=2*ts.length:=by
 cases u
 ·have key:∀(ts:Q05) (xs:Q0a),(ts.foldl iH xs).length<=xs.length+2*ts.length:=by
   intro ts
   induction ts with
   | nil=>intro xs;simp
   | cons t ts ih=>intro xs;have h1:=ih (iH xs t);have h2:=rF xs t;simp only[List.foldl_cons,WH];omega
  have:=key ts [];simpa[fM,gP] using this
 have key:∀(ts:Q05) (xs:Q0a),(ts.foldl dB xs).length<=xs.length+ts.length:=by
  intro ts
  induction ts with
  | nil=>intro xs;simp
  | cons t ts ih=>intro xs;have h1:=ih (dB xs t);have h2:=rG xs t;simp only[List.foldl_cons,WH];omega
 have:=key ts [];simp[fM,dN]at this ⊢;omega
theorem Qy(u:Bool)(xs:Q0a)(t:Tp)(q:Nat):(iU u xs t q).length<=xs.length+2:=by
 match q with
 | 0=>simp[iU]
 | 1=>have:=oQ xs ⟨t.a,t.b⟩;cases u<;>simp[iU];omega
 | q+2=>have h1:=rG xs t;have h2:=rF xs t;cases u<;>simp[iU]<;>omega
theorem Kl{xs:Q0a}{o:Al}{k:Nat}(h:k<xs.length):oP (xs.take (k+1)) o=(oP (xs.take k) o || Bh xs[k].t xs[k].s o.t o.s):=by
 unfold oP;rw[V8 h,List.any_append];simp[kI,Bh]
theorem TL(w:ae)(o:Al):∀j u,[Value.string o.t,.string o.s][j]?=some u->(w.alloc (.cells #[.string o.t,.string o.s] 27)).cell? ((⟨w.heap.size,0,none⟩:Addr).add j)=some u:=fun j u hu=>by
 match j,hu with
 | 0,hu=>simp at hu;subst hu;simp[Addr.add]
 | 1,hu=>simp at hu;subst hu;simp[Addr.add]
theorem lK.at0{w:ae}{ad:Q02}{xs:Q0a}(h:lK w ad xs){k:Nat}(hk:k<xs.length):∃b off,ad=some ⟨b,off,none⟩/\Ua w b (off+k*2) xs[k]/\b<w.heap.size:=by
 rcases h with h|⟨b',off',e,hb,hr⟩
 ·rw[h]at hk;simp at hk
 exact⟨b',off',e,hr k hk,hb⟩
theorem tX(ad:Q02)(cap:Nat)(ts:Q05)(u:Bool)(w:ae)(hlt:ts.length<=40)(hst:Sl w ad ts):
  Calls prog 116 #[.slice ad ts.length cap,.bool u] w fun e w'=>(∃v,e=.returned v/\w'.ownsRow w.heap.size 27 2 v (fM u ts).length (pairs (fM u ts)))/\af w w':=by
 obtain⟨iO,h0,h1,h2,h3⟩:=Be;have HIO:=ax (And.intro h0 (And.intro h1 (And.intro h2 h3)));have HST:=ax hst;obtain⟨W0,hW0⟩:∃W0,W0=w.alloc (.cells #[] 27):=⟨_,rfl⟩;have HB0:=nC hW0;have XO:Hid (W0.ownsRow w.heap.size 27 2 (.slice (some ⟨w.heap.size,0,none⟩) 0 0) (fM u (ts.take 0)).length (pairs (fM u (ts.take 0)))):=by
  have e:fM u (ts.take 0)=[]:=by cases u<;>rfl
  show World.ownsRow _ _ _ _ _ _ _;rw[hW0,e];exact World.ownsRow_lit w #[] 0 (V4 _) (by unfold maxLen;omega) (by simp)
 clear hst h0 h1 h2 h3;go_enter func116,ntmps116;go_wp2_with fail;rw[<-hW0];clear hW0;go_loopw[5,6] (fun v i wr=>∃k:Nat,k<=ts.length/\i=.int .i64 k/\Hid (wr.ownsRow w.heap.size 27 2 v (fM u (ts.take k)).length (pairs (fM u (ts.take k))))/\Hid (af w wr)) (fun _ i _=>ts.length-(intOf i).toNat);case atStart=>exact⟨0,Wd _,rfl,XO,HB0⟩
 clear XO HB0;obtain⟨k,hk,rfl,HOW,Xz⟩:=hrel;by_cases hlt2:k<ts.length
 ·have HSU:=ax (H5 u hlt2);obtain⟨x,hx⟩:∃x,x=ts[k]:=⟨_,rfl⟩;obtain⟨xs,hxs⟩:∃xs,xs=fM u (ts.take k):=⟨_,rfl⟩;have hxl:xs.length<=80:=by have:=Kk u (ts.take k);rw[WK]at this;rw[hxs];omega
  rw[<-hx,<-hxs]at HSU;rw[<-hxs]at HOW;have HX:=ax hx;have hi1:=bC k;have hi2:(k:Int)<(ts.length:Int):=by omega
  clear hxs hx;go_wp2;go_loopw[5,7] (fun v i w2=>∃q:Nat,q<=2/\i=.int .i64 q/\Hid (w2.ownsRow w.heap.size 27 2 v (iU u xs x q).length (pairs (iU u xs x q)))/\Hid (af w w2)) (fun _ i _=>2-(intOf i).toNat);case atStart=>exact⟨0,by omega,rfl,HOW,Xz⟩
  obtain⟨w2,rfl⟩:∃w2,w2=wr:=⟨_,rfl⟩;obtain⟨q,hq,rfl,Xv,HB2⟩:=hrel;have hi1:=bC k;have hi2:(k:Int)<(ts.length:Int):=by omega
  have hsl:=Qy u xs x q;obtain⟨b,off,Xx,⟨t0,t1,t2,t3,t4,t5⟩,hb⟩:=Sl.at0 (HST.out.below HB2.out) hlt2;rw[<-HX.out]at t0 t1 t2 t3 t4 t5;subst Xx;by_cases hq2:q<2
  ·have hc:q=0\/q=1:=by omega
   rcases hc with rfl|rfl
   case' inl =>
    cases u;case true =>
     have HE:Hid (iU true xs x 1=iU true xs x 0):=rfl;have HR:Hid ((w2.alloc (.cells #[.string x.a,.string x.b] 27)).ownsRow w.heap.size 27 2 u5 (iU true xs x 1).length (pairs (iU true xs x 1))):=by show World.ownsRow _ _ _ _ _ _ _;rw[HE.out];exact Xv.out.alloc _
     have ZV:Hid (af w (w2.alloc (.cells #[.string x.a,.string x.b] 27))):=HB2.out.alloc HB2.out.size _;go_wp2;exact⟨⟨1,by omega,rfl,HR,ZV⟩,by decide⟩
    obtain⟨o,ho⟩:∃o:Al,o=⟨x.a,x.b⟩:=⟨_,rfl⟩;have Zr:Hid (iU false xs x (0+1)=fe (iU false xs x 0) o):=by show _=_;rw[ho];rfl
    obtain⟨ys,hys⟩:∃ys,ys=iU false xs x 0:=⟨_,rfl⟩;rw[<-hys]at Zr Xv hsl;obtain⟨ns,hns⟩:∃ns,ns=iU false xs x (0+1):=⟨_,rfl⟩;have Ye:Hid (∀(W:World) (v:Value),W.ownsRow w.heap.size 27 2 v ns.length (pairs ns)->W.ownsRow w.heap.size 27 2 v (iU false xs x (0+1)).length (pairs (iU false xs x (0+1)))):=fun W v h=>by rw[<-hns];exact h
    rw[<-hns]at Zr;clear hns;clear hys;have hx1:x.a=o.t:=by rw[ho]
    have hx2:x.b=o.s:=by rw[ho]
    clear ho;obtain⟨Y8,YU,rfl,hsO⟩:=mU Xv.out;have HSO:=ax hsO;obtain⟨W1,hW1⟩:∃W1,W1=w2.alloc (.cells #[.string o.t,.string o.s] 27):=⟨_,rfl⟩;have Yj:=nC hW1;have hz1:w2.heap.size<W1.heap.size:=by rw[hW1];simp
    have d0:W1.cell? ⟨w2.heap.size,0,none⟩=some (.string o.t):=by rw[hW1];simp
    have d1:W1.cell? ⟨w2.heap.size,1,none⟩=some (.string o.s):=by rw[hW1];simp
    clear hsO;go_wp2_with fail;rw[<-hW1];clear hW1 t0 t1 t2 t3 t4 t5 hx1 hx2
   case' inr =>
    cases u
    case' true =>
     cases hz:x.s.toList.isEmpty;case false =>
      have hs2:(x.s.toList==[])=false:=by rw[sI];exact hz
      have HE:Hid (iU true xs x 2=iU true xs x 1):=by show dB xs x=xs;unfold dB;rw[hs2];rfl
      have HR:Hid ((w2.alloc (.cells #[.string x.c,.string x.d] 27)).ownsRow w.heap.size 27 2 u5 (iU true xs x 2).length (pairs (iU true xs x 2))):=by show World.ownsRow _ _ _ _ _ _ _;rw[HE.out];exact Xv.out.alloc _
      have ZV:Hid (af w (w2.alloc (.cells #[.string x.c,.string x.d] 27))):=HB2.out.alloc HB2.out.size _;go_wp2;exact⟨⟨2,by omega,rfl,HR,ZV⟩,by decide⟩
     have hs2:(x.s.toList==[])=true:=by rw[sI];exact hz
     obtain⟨o,ho⟩:∃o:Al,o=⟨x.c,x.d⟩:=⟨_,rfl⟩;have Zr:Hid (iU true xs x (1+1)=fe (iU true xs x 1) o):=by show _=_;rw[ho];show dB xs x=_;unfold dB;rw[hs2];rfl
     obtain⟨ys,hys⟩:∃ys,ys=iU true xs x 1:=⟨_,rfl⟩;rw[<-hys]at Zr Xv hsl;obtain⟨ns,hns⟩:∃ns,ns=iU true xs x (1+1):=⟨_,rfl⟩;have Ye:Hid (∀(W:World) (v:Value),W.ownsRow w.heap.size 27 2 v ns.length (pairs ns)->W.ownsRow w.heap.size 27 2 v (iU true xs x (1+1)).length (pairs (iU true xs x (1+1)))):=fun W v h=>by rw[<-hns];exact h
     rw[<-hns]at Zr;clear hns;clear hys;have hx1:x.c=o.t:=by rw[ho]
     have hx2:x.d=o.s:=by rw[ho]
     clear ho;obtain⟨Y8,YU,rfl,hsO⟩:=mU Xv.out;have HSO:=ax hsO;obtain⟨W1,hW1⟩:∃W1,W1=w2.alloc (.cells #[.string o.t,.string o.s] 27):=⟨_,rfl⟩;have Yj:=nC hW1;have hz1:w2.heap.size<W1.heap.size:=by rw[hW1];simp
     have d0:W1.cell? ⟨w2.heap.size,0,none⟩=some (.string o.t):=by rw[hW1];simp
     have d1:W1.cell? ⟨w2.heap.size,1,none⟩=some (.string o.s):=by rw[hW1];simp
     clear hsO;go_wp2_with fail;rw[<-hW1];clear hW1 t0 t1 t2 t3 t4 t5 hx1 hx2
    case' false =>
     obtain⟨o,ho⟩:∃o:Al,o=⟨x.c,x.d⟩:=⟨_,rfl⟩;have Zr:Hid (iU false xs x (1+1)=fe (iU false xs x 1) o):=by show _=_;rw[ho];rfl
     obtain⟨ys,hys⟩:∃ys,ys=iU false xs x 1:=⟨_,rfl⟩;rw[<-hys]at Zr Xv hsl;obtain⟨ns,hns⟩:∃ns,ns=iU false xs x (1+1):=⟨_,rfl⟩;have Ye:Hid (∀(W:World) (v:Value),W.ownsRow w.heap.size 27 2 v ns.length (pairs ns)->W.ownsRow w.heap.size 27 2 v (iU false xs x (1+1)).length (pairs (iU false xs x (1+1)))):=fun W v h=>by rw[<-hns];exact h
     rw[<-hns]at Zr;clear hns;clear hys;have hx1:x.c=o.t:=by rw[ho]
     have hx2:x.d=o.s:=by rw[ho]
     clear ho;obtain⟨Y8,YU,rfl,hsO⟩:=mU Xv.out;have HSO:=ax hsO;obtain⟨W1,hW1⟩:∃W1,W1=w2.alloc (.cells #[.string o.t,.string o.s] 27):=⟨_,rfl⟩;have Yj:=nC hW1;have hz1:w2.heap.size<W1.heap.size:=by rw[hW1];simp
     have d0:W1.cell? ⟨w2.heap.size,0,none⟩=some (.string o.t):=by rw[hW1];simp
     have d1:W1.cell? ⟨w2.heap.size,1,none⟩=some (.string o.s):=by rw[hW1];simp
     clear hsO;go_wp2_with fail;rw[<-hW1];clear hW1 t0 t1 t2 t3 t4 t5 hx1 hx2
   all_goals
    go_loopw[9,10] (fun ov j w3=>∃(m:Nat) (bb:Bool),m<=ys.length/\ov=.bool bb/\j=.int .i64 m/\Hid (bb=oP (ys.take m) o)/\Hid (af W1 w3)) (fun _ j _=>ys.length-(intOf j).toNat);case atStart=>exact⟨0,false,Wd _,rfl,rfl,rfl,V5 _ _⟩
    obtain⟨m,bb,hm,rfl,rfl,Y9,HB3⟩:=hrel;have HBx:Hid (af w2 wr):=Yj.out.trans (HB3.out.mono Yj.out.size);have HBw:Hid (af w wr):=HB2.out.trans (HBx.out.mono HB2.out.size);have HOx:=ax (aH Xv.out HBx.out);have c0:=mK HB3.out hz1 d0;have c1:=mK HB3.out hz1 d1;have hz3:w2.heap.size<wr.heap.size:=VY hz1 HB3.out.size;by_cases hlm:m<ys.length
    ·obtain⟨bO,X7,hadO,⟨s0,s1⟩,hbO⟩:=lK.at0 (HSO.out.below HBx.out) hlm;have hm1:=bC m;have hm2:(m:Int)<(ys.length:Int):=by omega
     have HTK:=ax (Kl (o:=o) hlm);cases bb;case true=>
      have HBB2:Hid (true=oP (ys.take (m+1)) o):=by show _=_;rw[HTK.out,<-Y9.out];rfl
      clear s0 s1 c0 c1;go_wp2_with fail;go_quiet (fail);go_wp2;go_roundw;case rel=>exact⟨m+1,true,by omega,rfl,by go_num,HBB2,below_drewN HB3.out _⟩
      simp[intOf]<;>omega
     cases hv:Bh ys[m].t ys[m].s o.t o.s;case true=>
      have heq:=jJ _ _ _ _ hv;have HBB2:Hid (true=oP (ys.take (m+1)) o):=by show _=_;rw[HTK.out,hv];simp
      clear hv;go_wp2_with fail;go_quiet (fail);go_wp2;go_roundw;case rel=>exact⟨m+1,true,by omega,rfl,by go_num,HBB2,below_drewN HB3.out _⟩
      simp[intOf]<;>omega
     have heq:=jJ _ _ _ _ hv;have HBB2:Hid (false=oP (ys.take (m+1)) o):=by show _=_;rw[HTK.out,hv,<-Y9.out];rfl
     clear hv;go_wp2_with fail;go_quiet (fail);go_wp2;go_roundw;case rel=>exact⟨m+1,false,by omega,rfl,by go_num,HBB2,below_drewN HB3.out _⟩
     simp[intOf]<;>omega
    have XJ:Hid (bb=oP ys o):=by show _=_;rw[Y9.out,WL (by omega)]
    cases bb;case true=>
     have HR:Hid (wr.ownsRow w.heap.size 27 2 (.slice Y8 ys.length YU) (ns).length (pairs (ns))):=by
      show World.ownsRow _ _ _ _ _ _ _;rw[Zr.out];unfold fe;rw[<-XJ.out];exact HOx.out
     clear XJ c0 c1;go_wp2;have HR2:=ax (Ye.out _ _ HR.out)
     first|exact⟨⟨0+1,by omega,rfl,HR2,HBw⟩,by decide⟩|exact⟨⟨1+1,by omega,rfl,HR2,HBw⟩,by decide⟩
    have HWE:Hid (fe ys o=ys++[o]):=by show _=_;unfold fe;rw[<-XJ.out];rfl
    obtain⟨W4,Yg⟩:∃W4,W4=wr.alloc (.cells #[.string o.t,.string o.s] 27):=⟨_,rfl⟩;have XE:Hid (W4.ownsRow w.heap.size 27 2 (.slice Y8 ys.length YU) ys.length (pairs ys)):=by show World.ownsRow _ _ _ _ _ _ _;rw[Yg];exact HOx.out.alloc _
    have HN4:Hid (∀j u,[Value.string o.t,.string o.s][j]?=some u->W4.cell? ((⟨wr.heap.size,0,none⟩:Addr).add j)=some u):=by rw[Yg];exact TL wr o
    have YA:Hid (af w W4):=by show Below _ _ _;rw[Yg];exact HBw.out.alloc HBw.out.size _
    have hsz4:w.heap.size<=W4.heap.size:=YA.out.size;clear XJ;go_wp2_with(at_builtin;rw[<-Yg];clear Yg;refine wpList_append_own_at _ rfl _ _ 124 rfl w.heap.size 27 iO (.agg #[.string ⟨#[]⟩,.string ⟨#[]⟩]) 2 32 underlying124 HIO.out.1 HIO.out.2.1 HIO.out.2.2.1 HIO.out.2.2.2 rfl (by decide) _ ys.length (pairs ys) rfl XE.out ⟨wr.heap.size,0,none⟩ 1 1 [.string o.t,.string o.s] rfl rfl HN4.out (by simp[Value.oneCell']) (by unfold maxLen;omega) (by omega) hsz4 ?_);intro v' w5 hown hgr _ _;have HR:Hid (w5.ownsRow w.heap.size 27 2 v' (ns).length (pairs (ns))):=by
     show World.ownsRow _ _ _ _ _ _ _;rw[Zr.out,HWE.out,Wi];have:pairs (ys++[o])=pairs ys++[.string o.t,.string o.s]:=by simp[pairs]
     rw[this];exact hown
    have ZV:Hid (af w w5):=YA.out.grown hgr YA.out.size (fun g hg=>(XE.out.lt g hg).1);clear hown hgr c0 c1;go_wp2;have HR2:=ax (Ye.out _ _ HR.out)
    first|exact⟨⟨0+1,by omega,rfl,HR2,ZV⟩,by decide⟩|exact⟨⟨1+1,by omega,rfl,HR2,ZV⟩,by decide⟩
  have XG:Hid (w2.ownsRow w.heap.size 27 2 u5 (fM u (ts.take (k+1))).length (pairs (fM u (ts.take (k+1))))):=by
   have e:q=2:=by omega
   have h2:=Xv.out;rw[e]at h2;show World.ownsRow _ _ _ _ _ _ _;rw[HSU.out];exact h2
  go_wp2;go_roundw;case rel=>exact⟨k+1,by omega,by go_num,XG,HB2⟩
  simp[intOf]<;>omega
 have HE:Hid (fM u (ts.take k)=fM u ts):=by show _=_;rw[WL (by omega)]
 have XG:Hid (wr.ownsRow w.heap.size 27 2 u5 (fM u ts).length (pairs (fM u ts))):=by show World.ownsRow _ _ _ _ _ _ _;rw[<-HE.out];exact HOW.out
 go_wp2;go_ret;exact⟨⟨_,rfl,XG.out⟩,Xz.out⟩
theorem FH(v0:Value)(Y6:Q02)(YL:Nat)(ts:Q05)(Xw:Q02)(capE:Nat)(rows:Q08)(n:Nat)(adK:Q02)(capK:Nat)(known:Q04)(Y7:Q02)(YM:Nat)(truth:Q04)(f:Fc)(w:ae)(hW:HW w Y6 ts Xw rows adK known Y7 truth)(hn:n<rows.length)(hre:rows.length<=1000)(hkl:known.length<=1048576)(htl:ts.length<=1048576)(hk:rows[n].e.kind=3):
  Calls prog 119 #[v0,.slice Y6 ts.length YL,.slice Xw rows.length capE,.int .i64 (n:Int),.slice adK known.length capK,.slice Y7 truth.length YM,.agg #[.string f.a,.string f.b,.string f.r,.string f.c,.string f.d]] w fun e w'=>e=.returned (.bool (gQ ts known rows[n].e.over rows[n].e.name f))/\af w w':=by
 obtain⟨b,off,Xx,⟨t0,t1,t2,t3,t4⟩,hbl,-⟩:=jv.at0 hW.ex hn;have HW0:=ak hW;obtain⟨W0,hW0⟩:∃W0,W0=G8 w f rows[n]:=⟨_,rfl⟩;have HB0:Hid (af w W0):=by show Below _ _ _;rw[hW0];exact ko _ _ _
 have Zm:Hid (EnB W0 w.heap.size f rows[n]):=by show EnB _ _ _ _;rw[hW0];exact oV _ _ _
 have hk1:(rows[n].e.kind==1)=false:=by rw[hk];rfl
 have hk2:(rows[n].e.kind==2)=false:=by rw[hk];rfl
 have hk3:(rows[n].e.kind==3)=true:=by rw[hk];rfl
 have hn1:=bC n;have hn2:(n:Int)<(rows.length:Int):=by omega
 unfold G8 at hW0;rw[Xx];clear Xx hW hk;go_enter func119,ntmps119;go_wp2_with fail;rw[<-hW0];clear hW0 t0 t1 t2 t3 t4;go_loopw[18] (fun i wr=>∃k:Nat,k<=ts.length/\i=.int .i64 k/\Hid (gQ (ts.drop k) known rows[n].e.over rows[n].e.name f=gQ ts known rows[n].e.over rows[n].e.name f)/\Hid (af W0 wr)) (fun i _=>ts.length-(intOf i).toNat);case atStart=>exact⟨0,Wd _,rfl,rfl,V5 _ _⟩
 obtain⟨k,hk,rfl,HP,HB⟩:=hrel;have Xz:Hid (af w wr):=HB0.out.trans (HB.out.mono HB0.out.size);by_cases hlt:k<ts.length
 ·obtain⟨bT,offT,ZW,⟨a0,a1,a2,a3,a4,a5⟩,hbT⟩:=Sl.at0 (HW0.out.tup.below Xz.out) hlt;have hE:=Zm.out.below HB.out;have e0:=hE.f0;have e1:=hE.f1;have e2:=hE.f2;have e3:=hE.f3;have e4:=hE.f4;have el:w.heap.size<wr.heap.size:=by have:=hE.lt;omega
  have el2:w.heap.size+1<wr.heap.size:=hE.lt;have g2:=hE.x2;have g3:=hE.x3;have hi1:=bC k;have hi2:(k:Int)<(ts.length:Int):=by omega
  obtain⟨W1,hW1⟩:∃W1,W1=wr.alloc (.cells #[.string ts[k].a,.string ts[k].b,.string ts[k].r,.string ts[k].c,.string ts[k].d,.string ts[k].s] 29):=⟨_,rfl⟩;have Yj:=nC hW1;have HB1:Hid (af W0 W1):=HB.out.trans (Yj.out.mono HB.out.size);have Yq:Hid (af w W1):=Xz.out.trans (Yj.out.mono Xz.out.size);have HD:Hid (gQ ts known rows[n].e.over rows[n].e.name f=(DL known rows[n].e.over rows[n].e.name f ts[k] || gQ (ts.drop (k+1)) known rows[n].e.over rows[n].e.name f)):=by show _=_;rw[<-HP.out];exact JY hlt known _ _ f
  rw[ZW];clear ZW hE;cases ho:Bh ts[k].a ts[k].b f.a f.b;case false=>
   have hoeq:=jJ _ _ _ _ ho;have XA:Hid (gQ (ts.drop (k+1)) known rows[n].e.over rows[n].e.name f=gQ ts known rows[n].e.over rows[n].e.name f):=by
    show _=_;unfold Bh at ho;rw[HD.out];unfold DL;rw[ho];rfl
   clear ho;go_wp2;rw[<-hW1];clear hW1;go_roundw;case rel=>exact⟨k+1,by omega,by go_num,XA,HB1⟩
   simp[intOf]<;>omega
  have hoeq:=jJ _ _ _ _ ho;have HO:Hid (Bh ts[k].a ts[k].b f.a f.b=true):=ho;clear ho;cases hr:(ts[k].r.toList==rows[n].e.over.toList);case false=>
   have XA:Hid (gQ (ts.drop (k+1)) known rows[n].e.over rows[n].e.name f=gQ ts known rows[n].e.over rows[n].e.name f):=by
    show _=_;have h2:=HO.out;unfold Bh at h2;rw[HD.out];unfold DL;rw[h2,hr];rfl
   go_wp2;rw[<-hW1];clear hW1;go_roundw;case rel=>exact⟨k+1,by omega,by go_num,XA,HB1⟩
   simp[intOf]<;>omega
  have HT2:Hid (DL known rows[n].e.over rows[n].e.name f ts[k]=bY known ⟨ts[k].c,ts[k].d,rows[n].e.name,f.c,f.d⟩):=by
   show _=_;have h2:=HO.out;unfold Bh at h2;unfold DL;rw[h2,hr];rfl
  go_wp2_with fail;rw[<-hW1];clear hW1;refine(oU adK capK known ⟨ts[k].c,ts[k].d,rows[n].e.name,f.c,f.d⟩ W1 hkl (HW0.out.kn.below Yq.out)).mono ?_;rintro e w2 ⟨rfl,hb2⟩;have HB2:=kv HB1 hb2;have HBW2:=kv Yq hb2;clear hb2;cases hh:bY known ⟨ts[k].c,ts[k].d,rows[n].e.name,f.c,f.d⟩;case true=>
   have HN:Hid (gQ ts known rows[n].e.over rows[n].e.name f=true):=by show _=_;rw[HD.out,HT2.out,hh];rfl
   go_wp2;go_ret;exact⟨by rw[HN.out];rfl,HBW2.out⟩
  have XA:Hid (gQ (ts.drop (k+1)) known rows[n].e.over rows[n].e.name f=gQ ts known rows[n].e.over rows[n].e.name f):=by show _=_;rw[HD.out,HT2.out,hh];rfl
  go_wp2;go_roundw;case rel=>exact⟨k+1,by omega,by go_num,XA,HB2⟩
  simp[intOf]<;>omega
 have HN:Hid (gQ ts known rows[n].e.over rows[n].e.name f=false):=by show _=_;rw[<-HP.out,Ww (by omega)];rfl
 go_wp2;go_ret;exact⟨by rw[HN.out];rfl,Xz.out⟩
end Go.Proofs.YtcgdckphpjfmhaaGreatDoor
