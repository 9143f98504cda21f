/- The contract of the program's function that looks at a list of tuples. -/
import Derived.Test.YtojjoblnpldniaaGreatSq
import Derived.Test.YtojjoblnpldniaaGreatJ5
import Derived.Test.YtojjoblnpldniaaGreatJ3
open Go.Proofs.Tryz
set_option maxHeartbeats 80000000
set_option linter.defProp false
namespace Go.Proofs.YtojjoblnpldniaaGreat
open Go.Sort
open ChangeShapes WideShapes ChangeAt RowKit
open Pl
attribute [local go_sem ↓] Go.wp_at_zero Go.wp_at_succ
def yI(b off cap:Nat)(ts:Q05)(w:ag)(hlen:ts.length<=maxLen)(hr:l6 w b off ts)(hb:cW b w)(hf:∀t∈ts,t.fits):
    Calls prog 41 #[.slice (some<|ap b off) ts.length cap] w (a8 w<|.bool<|dW ts):=by
  unfold maxLen at hlen;by_cases hbig:40<ts.length
  · have HT:O (dW ts=false):=by show _=_;simp[dW];omega
    go_enter func41,ntmps41;go_wp2;go_ret;exact⟨aj HT.symm,XL _ _⟩
  · go_enter func41,ntmps41;go_wp2;go_loopw[10] (fun i wr=>∃k:Nat,k<=ts.length/\i=.int .i64 k/\O (yA ts k=true)/\ae w wr) (fun i _=>ts.length-(intOf i).toNat);case atStart=>exact⟨0,XP _,rfl,rfl,XL _ _⟩
    obtain⟨k,hk,rfl,hu,hB⟩:=hrel;by_cases hlt:k<ts.length
    · have HRB:=o7<|hr.below hB hb;have Zd:=o7 hf;obtain⟨t0,t1,t2,t3,t4,t5⟩:=HRB k hlt;have hk1:=bG k;have hk2:(k:Int)<(ts.length:Int):=cq
      clear hr hf;obtain⟨W1,hW1⟩:=eQx<|wr.alloc<|.cells (cg ts[k]) 29;have hal:ae wr W1:=by rw[hW1];exact(XL _ _).alloc (XK _) _
      have c0:∀d os,ab (grow (redrawn W1 d) os) wr.heap.size (.string ts[k].a):=cell_regrown (by rw[hW1];simp);have c1:∀d os,ac (grow (redrawn W1 d) os) wr.heap.size 1 (.string ts[k].b):=cell_regrown (by rw[hW1];simp);have c2:∀d os,ac (grow (redrawn W1 d) os) wr.heap.size 2 (.string ts[k].r):=cell_regrown (by rw[hW1];simp);have c3:∀d os,ac (grow (redrawn W1 d) os) wr.heap.size 3 (.string ts[k].c):=cell_regrown (by rw[hW1];simp);have c4:∀d os,ac (grow (redrawn W1 d) os) wr.heap.size 4 (.string ts[k].d):=cell_regrown (by rw[hW1];simp);have c5:∀d os,ac (grow (redrawn W1 d) os) wr.heap.size 5 (.string ts[k].s):=cell_regrown (by rw[hW1];simp);have Z5:O (∀d os,ae w<|grow (redrawn W1 d) os):=fun d os=>hB.trans<|(hal.mono hB.size).trans<|(below_regrown W1 d os).mono<|XR hB.size hal.size;have HK:O (∀p v,wr.cell? p=some v->W1.cell? p=some v):=fun p v h=>cell_later hal h;clear hal;go_wp2_with fail;rw[<-hW1];clear hW1 t0 t1 t2 t3 t4 t5;have HCT:O (∀d os,Calls prog 62 #[.agg (cg ts[k])] (grow (redrawn W1 d) os) fun e w''=>e=.returned (.bool ts[k].ok)/\∃p:Regrown,w''=grow (redrawn W1 p.d) p.os):=by
        obtain⟨f0,f1,f2,f3,f4,f5⟩:=Zd ts[k]<|XI hlt;exact dz fun W' _=>fZ _ _ _ _ _ _ _ f0 f1 f2 f3 f4 f5
      cases hok:ts[k].ok;case false=>
        have HT:O (dW ts=false):=wW hlt<|Nf hlt hok;rw[hok]at HCT;clear hok;refine wp_region_quiet_below cw cw ?_
        repeat(go_big_quiet_step (exact HCT _ _))
        refine wpQuiet_nil ?_;rintro _ ⟨⟨dq,osq⟩,rfl⟩;go_wp2;go_ret;exact⟨aj HT.symm,Z5 dq osq⟩
      rw[hok]at HCT;by_cases hz:k=0
      · have HU:O (yA ts (k+1)=true):=by show _=_;rw[tN,hu];subst hz;rw[yB hlt,hok];rfl
        have hk8:decide ((0:Int)<(k:Int))=false:=by simp;omega
        have hk9:decide (0<k)=false:=by simp;omega
        clear hok hz;refine wp_region_quiet_below cw cw ?_
        repeat(go_big_quiet_step (exact HCT _ _))
        refine wpQuiet_nil ?_;rintro _ ⟨⟨dq,osq⟩,rfl⟩;go_wp2;go_roundw;case rel=>exact⟨k+1,cq,cx,HU,Z5 dq osq⟩
        simp[intOf];omega
      · obtain⟨m,hm⟩:∃m:Nat,k=m+1:=⟨k-1,cq⟩;have ZA:m<ts.length:=cq
        obtain⟨q0,q1,q2,q3,q4,q5⟩:=HRB m ZA;replace q0:=cell_regrown<|HK _ _ q0;replace q1:=cell_regrown<|HK _ _ q1;replace q2:=cell_regrown<|HK _ _ q2;replace q3:=cell_regrown<|HK _ _ q3;replace q4:=cell_regrown<|HK _ _ q4;replace q5:=cell_regrown<|HK _ _ q5;have hkm:(k:Int)-1=(m:Int):=cq;have hm1:=bG m;have hm2:(m:Int)<(ts.length:Int):=cq;have hpos:(0:Int)<(k:Int):=cq;have hposN:0<k:=cq;have hwm:IntKind.i64.wrap (m:Int)=(m:Int):=by rw[IntKind.wrap_i64];omega
        have HA:O (Ag ts k=ts[m].ahead ts[k]):=by show _=_;subst hm;rw[tO hlt,hok];rfl
        have HCA:O (∀d os,Calls prog 110 #[.agg (cg ts[m]),.agg<|cg ts[k]] (grow (redrawn W1 d) os) fun e w''=>e=.returned (.bool<|ts[m].ahead ts[k])/\∃p:Regrown,w''=grow (redrawn W1 p.d) p.os):=by
          obtain⟨f0,f1,f2,f3,f4,f5⟩:=Zd ts[k]<|XI hlt;obtain⟨g0,g1,g2,g3,g4,g5⟩:=Zd ts[m]<|XI ZA;exact dz fun W' _=>DU _ _ _ _ _ _ _ _ _ _ _ _ _ g0 g1 g2 g3 g4 g5 f0 f1 f2 f3 f4 f5
        clear hm hz hok;cases ha:ts[m].ahead ts[k];case false=>
          have HT:O (dW ts=false):=wW hlt (by rw[HA,ha]);rw[ha]at HCA;clear ha HA;refine wp_region_quiet_below cw cw ?_
          repeat(go_big_quiet_step (first|exact HCT _ _|exact HCA _ _))
          refine wpQuiet_nil ?_;rintro _ ⟨⟨dq,osq⟩,rfl⟩;go_wp2;go_ret;exact⟨aj HT.symm,Z5 dq osq⟩
        have HU:O (yA ts (k+1)=true):=by show _=_;rw[tN,hu,HA,ha];rfl
        rw[ha]at HCA;clear ha HA;refine wp_region_quiet_below cw cw ?_
        repeat(go_big_quiet_step (first|exact HCT _ _|exact HCA _ _))
        refine wpQuiet_nil ?_;rintro _ ⟨⟨dq,osq⟩,rfl⟩;go_wp2;go_roundw;case rel=>exact⟨k+1,cq,cx,HU,Z5 dq osq⟩
        simp[intOf];omega
    · go_wp2;go_ret;exact⟨aj (by have e:k=ts.length:=cq;subst e;simp[dW,hu.out];omega),hB⟩
end Go.Proofs.YtojjoblnpldniaaGreat
namespace Go.Proofs.YtojjoblnpldniaaGreat
open Go.Sort
open ChangeShapes WideShapes ChangeAt RowKit
open Pl
attribute [local go_sem ↓] Go.wp_at_zero Go.wp_at_succ
def yJ(ad:Q02)(cap:Nat)(w:ag):
  Calls prog 130 #[.slice ad 0 cap] w (a8 w<|.bool<|dW []):=by
 go_enter func130,ntmps130;go_wp2;go_loopw[3] (fun i wr=>∃k:Nat,k=0/\i=.int .i64 k/\ae w wr) (fun i _=>(intOf i).toNat);case atStart=>exact⟨0,rfl,rfl,XL _ _⟩
 obtain⟨k,rfl,rfl,hB⟩:=hrel;go_wp2;go_ret;exact⟨rfl,hB⟩
def yK(ad:Q02)(cap:Nat)(w:ag):
  Calls prog 41 #[.slice ad 0 cap] w (a8 w<|.bool<|dW []):=by
 go_enter func41,ntmps41;go_wp2;go_loopw[10] (fun i wr=>∃k:Nat,k=0/\i=.int .i64 k/\ae w wr) (fun i _=>(intOf i).toNat);case atStart=>exact⟨0,rfl,rfl,XL _ _⟩
 obtain⟨k,rfl,rfl,hB⟩:=hrel;go_wp2;go_ret;exact⟨rfl,hB⟩
def pG(ad:Q02)(cap:Nat)(ts:Q05)(w:ag)(hlen:ts.length<=maxLen)(hs:Sl w ad ts)(hf:∀t∈ts,t.fits):
  Calls prog 130 #[.slice ad ts.length cap] w (a8 w<|.bool<|dW ts):=by
 rcases hs with rfl|⟨b,off,rfl,hb,hr⟩
 ·exact yJ ad cap w
 exact yC b off cap ts w hlen hr hb hf
def yL(ad:Q02)(cap:Nat)(ts:Q05)(w:ag)(hlen:ts.length<=maxLen)(hs:Sl w ad ts)(hf:∀t∈ts,t.fits):
  Calls prog 41 #[.slice ad ts.length cap] w (a8 w<|.bool<|dW ts):=by
 rcases hs with rfl|⟨b,off,rfl,hb,hr⟩
 ·exact yK ad cap w
 exact yI b off cap ts w hlen hr hb hf
end Go.Proofs.YtojjoblnpldniaaGreat
namespace Go.Proofs.YtojjoblnpldniaaGreat
set_option linter.unusedVariables false
open Pl
def Nl(es:Q09):Prop:=∀(i:Nat) (h:i<es.length),∀x∈es[i].kids,0<=x/\x<(i:Int)
def Lb{es:Q09}(h:aS es=true):Nl es:=by
 intro i hi x hx;unfold aS at h;simp only[XN,XU]at h;have h1:=h.1.1.2;unfold jG at h1;rw[XY]at h1;have h2:=h1 i (by simpa using hi);unfold lY dx at h2;rw[XQ hi]at h2;simp only[Option.map_some,Yv,XY,XN,XU]at h2;have:=h2 x hx;omega
def hasB(ts:Q0b)(t r:ByteArray):Bool:=!(aH ts t r).isEmpty
def Lc{ts:Q0b}(h:bz ts=true){t:Ty}(ht:t∈ts){r:Rl}(hr:r∈t.rels):aW r.name=true/\aS r.expr=true:=by
 unfold bz at h;simp only[XN]at h;obtain⟨j,hj,rfl⟩:=Yk ht;have h1:=qA h.2 j hj;unfold lJ at h1;rw[XQ hj]at h1;simp only[XN]at h1;obtain⟨k,hk,rfl⟩:=Yk hr;have h2:=qz h1.2 k hk;unfold nE at h2;rw[XQ hk]at h2;simp only[XN]at h2;exact⟨h2.1.1,h2.2⟩
def Cn{ts:Q0b}{typ:ByteArray}:∀{es:Q09},bi ts typ es=true->∀e∈es,p8 ts e.allow=true/\mF ts typ e=true
 | [],_,e,he=>by cases he
 | x::es,h,e,he=>by
  unfold bi at h;split at h
  ·rename_i hc;simp only[XN]at hc;rcases X7.1 he with rfl|he
   ·exact hc
   exact Cn h e he
  cases h
def Ug{ts:Q0b}(h:jd ts=true){t:Ty}(ht:t∈ts){r:Rl}(hr:r∈t.rels){e:Ex}(he:e∈r.expr):p8 ts e.allow=true/\mF ts t.name e=true:=by
 have h1:=XY.1 h t ht;have h2:=XY.1 h1 r hr;exact Cn h2 e he
structure Fc where
 a:ByteArray
 b:ByteArray
 r:ByteArray
 c:ByteArray
 d:ByteArray
abbrev cf(q:Fc):Array Value:=#[.string q.a,.string q.b,.string q.r,.string q.c,.string q.d]
abbrev Q04:=List Fc
def Fc.u(f:Fc):ByteArray×ByteArray:=(f.c,f.d)
def pI(x y:Fc):Bool:=x.a.toList==y.a.toList&&x.b.toList==y.b.toList&&x.r.toList==y.r.toList&&x.c.toList==y.c.toList&&x.d.toList==y.d.toList
def iU{x y:Fc}:pI x y=true↔x=y:=by
 constructor
 ·intro h;unfold pI at h;simp only[XN,beq_iff_eq]at h;obtain⟨⟨⟨⟨h1,h2⟩,h3⟩,h4⟩,h5⟩:=h;cases x;cases y;simp only at h1 h2 h3 h4 h5;rw[kV h1,kV h2,kV h3,kV h4,kV h5]
 rintro rfl;unfold pI;simp
def aR(out:Q04)(f:Fc):Bool:=out.any fun g=>pI g f
def aU{out:Q04}{f:Fc}:aR out f=true↔f∈out:=by
 unfold aR;rw[Yq];constructor
 ·rintro⟨g,hg,h⟩;rw[<-iU.1 h];exact hg
 intro h;exact⟨f,h,iU.2 rfl⟩
def I8(u:Q01)(x y:Q04):Prop:=∀g:Fc,g.u=u->(g∈x↔g∈y)
def yM{x y:Q04}{f:Fc}(h:I8 f.u x y):aR x f=aR y f:=by
 rw[X9,aU,aU];exact h f rfl
def fO(l:Q05)(known:Q04)(f:Fc):Bool:=l.any fun t=>(t.a.toList==f.a.toList&&t.b.toList==f.b.toList&&t.r.toList==f.r.toList)&&(if t.s.toList.isEmpty then t.c.toList==f.c.toList&&t.d.toList==f.d.toList else aR known ⟨t.c,t.d,t.s,f.c,f.d⟩)
def gY(l:Q05)(known:Q04)(over name:ByteArray)(f:Fc):Bool:=l.any fun t=>(t.a.toList==f.a.toList&&t.b.toList==f.b.toList&&t.r.toList==over.toList)&&aR known ⟨t.c,t.d,name,f.c,f.d⟩
def dC(l:Q05)(es:Q09)(truth:Q04)(f:Fc):Nat->List Fc->Nat->Bool
 | 0,_,_=>false
 | k+1,known,n=>match es[n]? with
  | none=>false
  | some x =>
   if x.kind=1 then fO l known f
   else if x.kind=2 then aR known ⟨f.a,f.b,x.name,f.c,f.d⟩
   else if x.kind=3 then gY l known x.over x.name f
   else if x.kind=4 then x.kids.any fun i=>dC l es truth f k known i.toNat
   else if x.kind=5 then x.kids.all fun i=>dC l es truth f k known i.toNat
   else if x.kind=6 then dC l es truth f k known (x.kids.getD 0 0).toNat && !dC l es truth f k truth (x.kids.getD 1 0).toNat
   else false
def Ld{l:Q05}{x y:Q04}{f:Fc}(h:I8 f.u x y):fO l x f=fO l y f:=by
 unfold fO;congr 1
 funext t
 rw[yM (x:=x) (y:=y) (f:=⟨t.c,t.d,t.s,f.c,f.d⟩) h]
def Le{l:Q05}{x y:Q04}{ov nm:ByteArray}{f:Fc}(h:I8 f.u x y):gY l x ov nm f=gY l y ov nm f:=by
 unfold gY;congr 1
 funext t
 rw[yM (x:=x) (y:=y) (f:=⟨t.c,t.d,nm,f.c,f.d⟩) h]
def vO{l:Q05}{es:Q09}{f:Fc}{t1 t2:Q04}(ht:I8 f.u t1 t2):∀(k:Nat) (x y:Q04) (n:Nat),I8 f.u x y->dC l es t1 f k x n=dC l es t2 f k y n
 | 0,_,_,_,_=>rfl
 | k+1,x,y,n,h=>by
  unfold dC;cases es[n]? with
  | none=>rfl
  | some e =>
   simp only[Ld h,yM (x:=x) (y:=y) (f:=⟨f.a,f.b,e.name,f.c,f.d⟩) h,Le h,vO ht k x y _ h,vO ht k t1 t2 _ ht]
def iC(ts:Q0b)(l:Q05)(out:Q04)(f:Fc):Bool:=dC l (aH ts f.a f.r) out f (aH ts f.a f.r).length out<|(aH ts f.a f.r).length-1
def Ff(ts:Q0b)(l:Q05):Loc Fc.u (iC ts l):=fun x y f h=>vO h _ x y _ h
def DZ(ts:Q0b)(st:Q00)(n:Int)(o:Al):List (ByteArray×ByteArray):=(ay ts).filter fun k=>k.1.toList==o.t.toList&&decide (st k=n)
def jH(o:Al)(rel:ByteArray)(xu:Q0a):List Fc:=xu.map fun u=>⟨o.t,o.s,rel,u.t,u.s⟩
def yN(ts:Q0b)(st:Q00)(xu:Q0a)(n:Int)(o:Al):List Fc:=(DZ ts st n o).flatMap fun k=>jH o k.2 xu
def di(ts:Q0b)(st:Q00)(xo xu:Q0a)(n:Int):List Fc:=xo.flatMap<|yN ts st xu n
def Lf{ts:Q0b}{st:Q00}{xo xu:Q0a}{n:Int}{f:Fc}(h:f∈di ts st xo xu n):f.u∈xu.map fun u=>(u.t,u.s):=by
 unfold di yN jH at h;obtain⟨o,-,h⟩:=XZ.1 h;obtain⟨k,-,h⟩:=XZ.1 h;obtain⟨u,hu,rfl⟩:=XW.1 h;exact XW.2 ⟨u,hu,rfl⟩
def I9(ts:Q0b)(st:Q00)(xo xu:Q0a)(n:Int)(p:ByteArray×ByteArray->Bool):(di ts st xo xu n).filter (fun f=>p f.u)=di ts st xo (xu.filter fun u=>p (u.t,u.s)) n:=by
 unfold di yN jH;rw[List.filter_flatMap];congr 1
 funext o
 rw[List.filter_flatMap];congr 1
 funext k
 rw[List.filter_map];rfl
def Lg{ts:Q0b}{st:Q00}{xo xu:Q0a}{n:Int}(h:∀k∈ay ts,st k≠n):di ts st xo xu n=[]:=by
 have:∀o,DZ ts st n o=[]:=fun o=>by
  unfold DZ;rw[List.filter_eq_nil_iff];intro k hk;simp[h k hk]
 unfold di yN;simp[this]
section
variable  [DecidableEq Fc]
def iV(ts:Q0b)(l:Q05)(st:Q00)(xo xu:Q0a)(N:Nat):List Fc:=(List.range N).foldl (fun out (n:Nat)=>oK (iC ts l) (di ts st xo xu (n:Int)) out) []
def jQ(ts:Q0b)(l:Q05)(st:Q00)(xo xu:Q0a)(N:Nat):iV ts l st xo xu (N+1)=oK (iC ts l) (di ts st xo xu (N:Int)) (iV ts l st xo xu N):=by
 unfold iV;rw[List.range_succ,List.foldl_append];rfl
def Fg{ts:Q0b}{l:Q05}{st:Q00}{xo xu:Q0a}{N:Nat}(h:∀k∈ay ts,st k<(N:Int)):∀M,N<=M->iV ts l st xo xu M=iV ts l st xo xu N:=by
 intro M hM;obtain⟨d,rfl⟩:∃d,M=N+d:=⟨M-N,cq⟩
 induction d with
 | zero=>rfl
 | succ d ih =>
  rw[Nat.add_succ,jQ,ih cq,Lg fun k hk=>by have:=h k hk;omega];exact Qz _
def yO(ts:Q0b)(l:Q05)(st:Q00)(xo xu:Q0a):∀N,(iV ts l st xo xu N).Nodup
 | 0=>List.nodup_nil
 | N+1=>by rw[jQ];exact NN _<|yO ts l st xo xu N
end
open ChangeAt ChangeShapes Maps RowKit WideShapes
def yP(w:World)(b off:Nat)(t:Fc):Prop :=
 w.cell? ⟨b,off,none⟩=some (.string t.a)/\w.cell? ⟨b,off+1,none⟩=some (.string t.b)/\w.cell? ⟨b,off+2,none⟩=some (.string t.r)/\w.cell? ⟨b,off+3,none⟩=some (.string t.c)/\w.cell? ⟨b,off+4,none⟩=some (.string t.d)
def WX(w:World)(b off:Nat)(ts:Q04):Prop:=∀(i:Nat) (h:i<ts.length),yP w b (off+i*5) ts[i]
def jX(w:World)(ad:Q02)(ts:Q04):Prop:=ts=[] \/ ∃b off,ad=some ⟨b,off,none⟩/\b<w.heap.size/\WX w b off ts
def yP.same{w w':ag}{b off:Nat}{t:Fc}(h:yP w b off t)(hc:∀o,w'.cell? (ap b o)=w.cell? (ap b o)):yP w' b off t:=by
 obtain⟨h0,h1,h2,h3,h4⟩:=h;exact⟨(hc _).trans h0,(hc _).trans h1,(hc _).trans h2,(hc _).trans h3,(hc _).trans h4⟩
def jX.below{w w':ag}{ad:Q02}{ts:Q04}(h:jX w ad ts)(hB:ae w w'):jX w' ad ts:=by
 rcases h with h|⟨b,off,e,hb,hr⟩
 ·exact .inl h
 exact .inr ⟨b,off,e,XJ hb hB.size,fun i hi=>(hr i hi).same fun o=>hB.cell (p:=⟨b,o,none⟩) hb⟩
def Fc.row(t:Fc):List Value:=[.string t.a,.string t.b,.string t.r,.string t.c,.string t.d]
def r9(x y:Fc){v:Bool}(h:pI x y=v)(w:ag):
  (binOp .eql 52 (.agg<|cf x)<|.agg<|cf y).run prog w=.ok (.bool v) w:=by
 subst h;go_simp;unfold pI
 (repeat' split)<;>simp_all
def yQ{ts:Q04}{k:Nat}(h:k<ts.length){t:Fc}:aR (ts.drop k) t=(pI ts[k] t || aR (ts.drop<|k+1) t):=by
 unfold aR;rw[Yi h];rfl
def Fc.fits(t:Fc):Prop:=t.a.size<=maxLen/\t.b.size<=maxLen/\t.r.size<=maxLen/\t.c.size<=maxLen/\t.d.size<=maxLen
def dM(k:Fc):Value:=.agg #[.string k.a,.string k.b,.string k.r,.string k.c,.string k.d]
def nM(x y:Fc)(h:dM x=dM y):x=y:=by
 unfold dM at h;injection h with h;have h1:=congrArg Array.toList h;simp at h1;obtain⟨xa,xb,xr,xc,xd⟩:=x;obtain⟨ya,yb,yr,yc,yd⟩:=y;simp only at h1;obtain⟨rfl,rfl,rfl,rfl,rfl⟩:=h1;rfl
def Ra:laidOutB prog=true:=cw
def VU:(52:TypeId)<prog.types.size:=of_decide_eq_true cw
def Uh:(match prog.underlying 52 with|some (.array _ _)|some (.struct _)=>true|_=>false)=true:=by rw[underlying52]
set_option maxRecDepth 100000 in
def Nn:WideMaps.KeyLaw prog 52:=deep_law_laid Ra (m:=3) cq VU cw Uh
def oO:Keyed prog 52:=Keyed.of_law Nn
def Ui:prog.keyType 52=true:=cw
def Ja:prog.cellsOf 52=5:=cw
def Ou:prog.cellsOf 27=2:=cw
def Ov:prog.cellsOf 9=1:=cw
def Ow:2<=prog.types.size:=of_decide_eq_true cw
def Lh:∃n,prog.types.size=n+2:=⟨prog.types.size-2,by have:=Ow;omega⟩
set_option maxRecDepth 100000 in
def lN(k:Fc)(h:k.fits):∃kl,keyOf prog 52 (dM k)=some kl:=by
 obtain⟨n,hn⟩:=Lh;obtain⟨h0,h1,h2,h3,h4⟩:=h;refine⟨.string<|keyBytes [.string k.a.data.toList,.string k.b.data.toList,.string k.r.data.toList,.string k.c.data.toList,.string k.d.data.toList],?_⟩;unfold keyOf;rw[underlying52];simp only[Ui,dM,Value.formed,underlying52,Ja,hn,Value.cells];simp +decide [Program.keyLits,underlying52,underlying27,underlying9,Ja,Ou,Ov,h0,h1,h2,h3,h4]
def Rb(w:ag):(zeroValue 107).run prog w=.ok (.agg #[]) w:=cw
def Jb(b n:Nat)(M:Fc->Option Value)(f:Fc)(w:ag)(hf:f.fits)(hV:aL dM prog 52 w b n M)(hM:∀v,M f=some v->v=.agg #[]):
  Calls prog 76 #[.map (some b),.agg<|cf f] w (a8 w<|.bool (M f).isSome):=by
 obtain⟨kl,hkl⟩:=lN f hf;have ZY:O (keyOf prog 52 (dM f)=some kl):=hkl;have HM:O ((M f).getD (.agg #[])=.agg #[]):=by
  show _=_;cases e:M f with
  | none=>rfl
  | some v=>exact hM v e
 obtain⟨W,hW⟩:=eQx<|w.alloc<|.cells (cf f) 52;have HB:=lX hW;have HV:=aK<|hV.below HB;have HB2:O (ae w<|W.alloc<|.cells #[] 107):=HB.alloc HB.size _;clear hkl hV hM;go_enter func76,ntmps76;go_wp2_with(at_lookup;rw[<-hW];clear hW;refine dm _ rfl _ _ 115 rfl 52 107 oO underlying115 (Rb _) b n M rfl HV f kl rfl ZY ?_;rw[HM]);go_ret;exact⟨rfl,HB2⟩
set_option maxRecDepth 8000 in
def pJ(ad:Q02)(cap:Nat)(ts:Q04)(t:Fc)(w:ag)(hlen:a7 ts)(hs:jX w ad ts):
  Calls prog 145 #[.slice ad ts.length cap,.agg<|cf t] w (a8 w<|.bool<|aR ts t):=by
 have HS:=aK hs;clear hs;obtain⟨W0,hW0⟩:=eQx<|w.alloc<|.cells (cf t) 52;have HB0:=lX hW0;have HX0:O (W0.cell? (aE w)=some (.string t.a)/\W0.cell? (a6 w 1)=some (.string t.b)/\W0.cell? (a6 w 2)=some (.string t.r)/\W0.cell? (a6 w 3)=some (.string t.c)/\W0.cell? (a6 w 4)=some (.string t.d)/\w.heap.size<W0.heap.size):=by show _/\_;rw[hW0];refine⟨?_,?_,?_,?_,?_,?_⟩<;>simp
 go_enter func145,ntmps145;go_wp2;rw[<-hW0];clear hW0;go_loopw[5] (fun i wr=>∃k:Nat,k<=ts.length/\i=.int .i64 k/\O (aR (ts.drop k) t=aR ts t)/\O (ae W0 wr)) (fun i _=>ts.length-(intOf i).toNat);case atStart=>exact⟨0,XP _,rfl,rfl,XL _ _⟩
 obtain⟨k,hk,rfl,HP,HB⟩:=hrel;have Y9:O (ae w wr):=HB0.trans<|HB.mono HB0.size;by_cases hlt:k<ts.length
 ·rcases HS.out.below Y9.out with hnil|⟨b,off,rfl,hb,hr⟩
  ·rw[hnil]at hlt;simp at hlt
  obtain⟨t0,t1,t2,t3,t4⟩:=hr k hlt;have x0:=mK HB HX0.2.2.2.2.2 HX0.1;have x1:=mK HB HX0.2.2.2.2.2 HX0.2.1;have x2:=mK HB HX0.2.2.2.2.2 HX0.2.2.1;have x3:=mK HB HX0.2.2.2.2.2 HX0.2.2.2.1;have x4:=mK HB HX0.2.2.2.2.2 HX0.2.2.2.2.1;have hk1:=bG k;have hk2:(k:Int)<(ts.length:Int):=cq;have HD:O (aR ts t=(pI ts[k] t || aR (ts.drop<|k+1) t)):=by show _=_;rw[<-HP];exact yQ hlt
  clear hr;cases hq:pI ts[k] t;case true=>
   have heq:=r9 ts[k] t hq;have HN:O (aR ts t=true):=by show _=_;rw[HD,hq];rfl
   clear hq;go_wp2_with fail;go_region_held3 (fun w'=>w'.cell? (ap b<|off+k*5)=some (.string ts[k].a)/\w'.cell? (ap b<|off+k*5+1)=some (.string ts[k].b)/\w'.cell? (ap b<|off+k*5+2)=some (.string ts[k].r)/\w'.cell? (ap b<|off+k*5+3)=some (.string ts[k].c)/\w'.cell? (ap b<|off+k*5+4)=some (.string ts[k].d)/\w'.cell? (aE w)=some (.string t.a)/\w'.cell? (a6 w 1)=some (.string t.b)/\w'.cell? (a6 w 2)=some (.string t.r)/\w'.cell? (a6 w 3)=some (.string t.c)/\w'.cell? (a6 w 4)=some (.string t.d)/\ae wr w') (first|assumption|exact⟨t0,t1,t2,t3,t4,x0,x1,x2,x3,x4,(XL _ _).drew⟩) (fail);rename_i hH;have HG:O (ae wr _):=hH.2.2.2.2.2.2.2.2.2.2;clear hH t0 t1 t2 t3 t4 x0 x1 x2 x3 x4 heq;go_wp2;go_ret;exact⟨by rw[HN];rfl,Y9.trans<|HG.mono Y9.size⟩
  have heq:=r9 ts[k] t hq;have Zc:O (aR (ts.drop<|k+1) t=aR ts t):=by show _=_;rw[HD,hq];rfl
  clear hq;go_wp2_with fail;go_region_held3 (fun w'=>w'.cell? (ap b<|off+k*5)=some (.string ts[k].a)/\w'.cell? (ap b<|off+k*5+1)=some (.string ts[k].b)/\w'.cell? (ap b<|off+k*5+2)=some (.string ts[k].r)/\w'.cell? (ap b<|off+k*5+3)=some (.string ts[k].c)/\w'.cell? (ap b<|off+k*5+4)=some (.string ts[k].d)/\w'.cell? (aE w)=some (.string t.a)/\w'.cell? (a6 w 1)=some (.string t.b)/\w'.cell? (a6 w 2)=some (.string t.r)/\w'.cell? (a6 w 3)=some (.string t.c)/\w'.cell? (a6 w 4)=some (.string t.d)/\ae wr w') (first|assumption|exact⟨t0,t1,t2,t3,t4,x0,x1,x2,x3,x4,(XL _ _).drew⟩) (fail);rename_i hH;have HG:O (ae W0 _):=HB.trans<|hH.2.2.2.2.2.2.2.2.2.2.mono HB.size;clear hH t0 t1 t2 t3 t4 x0 x1 x2 x3 x4 heq;go_wp2;go_roundw;case rel=>exact⟨k+1,cq,cx,Zc,HG⟩
  simp[intOf]<;>omega
 have HN:O (aR ts t=false):=by show _=_;rw[<-HP,Ya cq];rfl
 go_wp2;go_ret;exact⟨by rw[HN];rfl,Y9⟩
def ah{p:Prop}(h:p):O p:=h
structure HW(w:World)(adT:Q02)(ts:Q05)(YY:Q02)(rows:Q08)(adK:Q02)(known:Q04)(ZV:Q02)(truth:Q04):Prop where
 tup:Sl w adT ts
 ex:iE w YY rows
 kn:jX w adK known
 tr:jX w ZV truth
def HW.below{w w':ag}{adT:Q02}{ts:Q05}{YY:Q02}{rows:Q08}{adK:Q02}{known:Q04}{ZV:Q02}{truth:Q04}(h:HW w adT ts YY rows adK known ZV truth)(hB:ae w w'):HW w' adT ts YY rows adK known ZV truth :=
 ⟨h.tup.below hB,h.ex.below hB,h.kn.below hB,h.tr.below hB⟩
def zH(a b c d:ByteArray):Bool:=a.toList==c.toList&&b.toList==d.toList
def iW(a b c d:dw){v:Bool}(h:zH a b c d=v)(w:ag):
  (binOp .eql 27 (.agg #[.string a,.string b])<|.agg #[.string c,.string d]).run prog w=.ok (.bool v) w:=by
 subst h;go_simp;unfold zH
 (repeat' split)<;>simp_all
def Jc(a b c d:dw){v:Bool}(h:zH a b c d=v)(w:ag):
  (binOp .neq 27 (.agg #[.string a,.string b])<|.agg #[.string c,.string d]).run prog w=.ok (.bool<|!v) w:=by
 subst h;go_simp;unfold zH
 (repeat' split)<;>simp_all
def iE.at0{w:ag}{ad:Q02}{rs:Q08}(h:iE w ad rs){k:Nat}(hk:k<rs.length):∃b off,ad=some (ap b off)/\zY w b (off+k*5) rs[k]/\b<w.heap.size/\rs[k].ok w:=by
 rcases h with h|⟨b',off',e,hb,hr,hok⟩
 ·rw[h]at hk;simp at hk
 exact⟨b',off',e,hr k hk,hb,hok _<|XI hk⟩
def Sl.at0{w:ag}{ad:Q02}{ts:Q05}(h:Sl w ad ts){k:Nat}(hk:k<ts.length):∃b off,ad=some (ap b off)/\Vk w b (off+k*6) ts[k]/\b<w.heap.size:=by
 rcases h with h|⟨b',off',e,hb,hr⟩
 ·rw[h]at hk;simp at hk
 exact⟨b',off',e,hr k hk,hb⟩
def uW.at0{w:ag}{ad:Q02}{zs:List Int}(h:uW w ad zs){k:Nat}(hk:k<zs.length):∃b off,ad=some (ap b off)/\w.cell? (ap b<|off+k)=some (.int .i64 zs[k])/\b<w.heap.size:=by
 rcases h with h|⟨b',off',e,hb,hr⟩
 ·rw[h]at hk;simp at hk
 exact⟨b',off',e,hr k hk,hb⟩
def xh(w:World)(f:Fc)(x:ER):World:=(w.alloc<|.cells #[.string f.a,.string f.b,.string f.r,.string f.c,.string f.d] 52).alloc<|.cells #[.int .i64 x.e.kind,.slice x.adA x.e.allow.length x.capA,.string x.e.over,.string x.e.name,.slice x.adK x.e.kids.length x.capK] 43
def eZ(w:ag)(f:Fc)(x:ER):ae w (xh w f x):=by
 unfold xh;exact((XL _ _).alloc (XK _) _).alloc ct _
structure EnB(w:World)(B:Nat)(f:Fc)(x:ER):Prop where
 lt:B+1<w.heap.size
 f0:w.cell? ⟨B,0,none⟩=some (.string f.a)
 f1:w.cell? ⟨B,1,none⟩=some (.string f.b)
 f2:w.cell? ⟨B,2,none⟩=some (.string f.r)
 f3:w.cell? ⟨B,3,none⟩=some (.string f.c)
 f4:w.cell? ⟨B,4,none⟩=some (.string f.d)
 x0:w.cell? ⟨B+1,0,none⟩=some (.int .i64 x.e.kind)
 x1:w.cell? ⟨B+1,1,none⟩=some (.slice x.adA x.e.allow.length x.capA)
 x2:w.cell? ⟨B+1,2,none⟩=some (.string x.e.over)
 x3:w.cell? ⟨B+1,3,none⟩=some (.string x.e.name)
 x4:w.cell? ⟨B+1,4,none⟩=some (.slice x.adK x.e.kids.length x.capK)
def EnB.below{w w':ag}{B:Nat}{f:Fc}{x:ER}(h:EnB w B f x)(hB:ae w w'):EnB w' B f x:=by
 have h0:cW B w:=by have:=h.lt;omega
 have c0:∀o,w'.cell? (ap B o)=w.cell? (ap B o):=fun o=>hB.cell (p:=⟨B,o,none⟩) h0;have c1:∀o,w'.cell? (ap (B+1) o)=w.cell? (ap (B+1) o):=fun o=>hB.cell (p:=⟨B+1,o,none⟩) h.lt;exact⟨XJ h.lt hB.size,(c0 _).trans h.f0,(c0 _).trans h.f1,(c0 _).trans h.f2,(c0 _).trans h.f3,(c0 _).trans h.f4,(c1 _).trans h.x0,(c1 _).trans h.x1,(c1 _).trans h.x2,(c1 _).trans h.x3,(c1 _).trans h.x4⟩
def gT(w:ag)(f:Fc)(x:ER):EnB (xh w f x) w.heap.size f x:=by
 unfold xh;constructor<;>simp
def Co(known:Q04)(f:Fc)(t:Tp):Bool:=(t.a.toList==f.a.toList&&t.b.toList==f.b.toList&&t.r.toList==f.r.toList)&&(if t.s.toList.isEmpty then t.c.toList==f.c.toList&&t.d.toList==f.d.toList else aR known ⟨t.c,t.d,t.s,f.c,f.d⟩)
def Li{ts:Q05}{k:Nat}(h:k<ts.length)(known:Q04)(f:Fc):fO (ts.drop k) known f=(Co known f ts[k] || fO (ts.drop<|k+1) known f):=by
 unfold fO;rw[Yi h];rfl
def Fh(known:Q04)(over name:ByteArray)(f:Fc)(t:Tp):Bool:=(t.a.toList==f.a.toList&&t.b.toList==f.b.toList&&t.r.toList==over.toList)&&aR known ⟨t.c,t.d,name,f.c,f.d⟩
def Lj{ts:Q05}{k:Nat}(h:k<ts.length)(known:Q04)(over name:dw)(f:Fc):gY (ts.drop k) known over name f=(Fh known over name f ts[k] || gY (ts.drop<|k+1) known over name f):=by
 unfold gY;rw[Yi h];rfl
def oz{s:ByteArray}:(s.toList==[])=s.toList.isEmpty:=by cases s.toList<;>rfl
set_option maxRecDepth 100000
def Jd(v0:Value)(adT:Q02)(capT:Nat)(ts:Q05)(YY:Q02)(capE:Nat)(rows:Q08)(n:Nat)(adK:Q02)(capK:Nat)(known:Q04)(ZV:Q02)(Zn:Nat)(truth:Q04)(f:Fc)(w:ag)(hW:HW w adT ts YY rows adK known ZV truth)(hn:n<rows.length)(hre:rows.length<=1000)(hkl:a7 known)(hk:rows[n].e.kind=2):
  Calls prog 146 #[v0,.slice adT ts.length capT,.slice YY rows.length capE,.int .i64 (n:Int),.slice adK known.length capK,.slice ZV truth.length Zn,.agg<|cf f] w (a8 w<|.bool<|aR known ⟨f.a,f.b,rows[n].e.name,f.c,f.d⟩):=by
 obtain⟨b,off,YW,⟨t0,t1,t2,t3,t4⟩,hbl,-⟩:=iE.at0 hW.ex hn;have HW0:=ah hW;obtain⟨W0,hW0⟩:=eQx<|xh w f rows[n];have HB0:O (ae w W0):=by show Below _ _ _;rw[hW0];exact eZ _ _ _
 have hk1:(rows[n].e.kind==1)=false:=by rw[hk];rfl
 have hk2:(rows[n].e.kind==2)=true:=by rw[hk];rfl
 have hn1:=bG n;have hn2:(n:Int)<(rows.length:Int):=cq;unfold xh at hW0;rw[YW];clear YW hW hk;go_enter func146,ntmps146;go_wp2_with fail;rw[<-hW0];refine(pJ adK capK known ⟨f.a,f.b,rows[n].e.name,f.c,f.d⟩ W0 hkl<|HW0.kn.below HB0).mono ?_;rintro e w1 ⟨rfl,hb1⟩;have HB1:=ah<|HB0.trans<|hb1.mono HB0.size;clear hb1 hW0;go_wp2;go_ret;exact⟨rfl,HB1⟩
def Ll(v0:Value)(adT:Q02)(capT:Nat)(ts:Q05)(YY:Q02)(capE:Nat)(rows:Q08)(n:Nat)(vK vR:Value)(f:Fc)(w:ag)(hex:iE w YY rows)(hn:n<rows.length)(hre:rows.length<=1000)(k1:rows[n].e.kind≠1)(k2:rows[n].e.kind≠2)(k3:rows[n].e.kind≠3)(k4:rows[n].e.kind≠4)(k5:rows[n].e.kind≠5)(k6:rows[n].e.kind≠6):
  Calls prog 146 #[v0,.slice adT ts.length capT,.slice YY rows.length capE,.int .i64 (n:Int),vK,vR,.agg<|cf f] w (a8 w<|.bool false):=by
 obtain⟨b,off,YW,⟨t0,t1,t2,t3,t4⟩,hbl,-⟩:=iE.at0 hex hn;have HB0:=ah<|eZ w f rows[n];unfold xh at HB0;have hk1:(rows[n].e.kind==1)=false:=by simpa using k1
 have hk2:(rows[n].e.kind==2)=false:=by simpa using k2
 have hk3:(rows[n].e.kind==3)=false:=by simpa using k3
 have hk4:(rows[n].e.kind==4)=false:=by simpa using k4
 have hk5:(rows[n].e.kind==5)=false:=by simpa using k5
 have hk6:(rows[n].e.kind==6)=false:=by simpa using k6
 have hn1:=bG n;have hn2:(n:Int)<(rows.length:Int):=cq;rw[YW];clear YW hex k1 k2 k3 k4 k5 k6;go_enter func146,ntmps146;go_wp2;go_ret;exact⟨rfl,HB0⟩
def GL(v0:Value)(adT:Q02)(capT:Nat)(ts:Q05)(YY:Q02)(capE:Nat)(rows:Q08)(n:Nat)(adK:Q02)(capK:Nat)(known:Q04)(ZV:Q02)(Zn:Nat)(truth:Q04)(f:Fc)(w:ag)(hW:HW w adT ts YY rows adK known ZV truth)(hn:n<rows.length)(hre:rows.length<=1000)(hkl:a7 known)(htl:a7 ts)(hk:rows[n].e.kind=1):
  Calls prog 146 #[v0,.slice adT ts.length capT,.slice YY rows.length capE,.int .i64 (n:Int),.slice adK known.length capK,.slice ZV truth.length Zn,.agg<|cf f] w (a8 w<|.bool<|fO ts known f):=by
 obtain⟨b,off,YW,⟨t0,t1,t2,t3,t4⟩,hbl,-⟩:=iE.at0 hW.ex hn;have HW0:=ah hW;obtain⟨W0,hW0⟩:=eQx<|xh w f rows[n];have HB0:O (ae w W0):=by show Below _ _ _;rw[hW0];exact eZ _ _ _
 have HE0:O (EnB W0 w.heap.size f rows[n]):=by show EnB _ _ _ _;rw[hW0];exact gT _ _ _
 have hk1:(rows[n].e.kind==1)=true:=by rw[hk];rfl
 have hn1:=bG n;have hn2:(n:Int)<(rows.length:Int):=cq;unfold xh at hW0;rw[YW];clear YW hW hk;go_enter func146,ntmps146;go_wp2_with fail;rw[<-hW0];clear hW0 t0 t1 t2 t3 t4;go_loopw[16] (fun i wr=>∃k:Nat,k<=ts.length/\i=.int .i64 k/\O (fO (ts.drop k) known f=fO ts known f)/\O (ae W0 wr)) (fun i _=>ts.length-(intOf i).toNat);case atStart=>exact⟨0,XP _,rfl,rfl,XL _ _⟩
 obtain⟨k,hk,rfl,HP,HB⟩:=hrel;have Y9:O (ae w wr):=HB0.trans<|HB.mono HB0.size;by_cases hlt:k<ts.length
 ·obtain⟨bT,offT,hadT,⟨a0,a1,a2,a3,a4,a5⟩,hbT⟩:=Sl.at0 (HW0.tup.below Y9) hlt;have hE:=HE0.below HB;have e0:=hE.f0;have e1:=hE.f1;have e2:=hE.f2;have e3:=hE.f3;have e4:=hE.f4;have el:cX w wr:=by have:=hE.lt;omega
  have hi1:=bG k;have hi2:(k:Int)<(ts.length:Int):=cq;obtain⟨W1,hW1⟩:=eQx<|wr.alloc<|.cells (cg ts[k]) 29;have ZF:=lX hW1;have HB1:O (ae W0 W1):=HB.trans<|ZF.mono HB.size;have HBW1:O (ae w W1):=Y9.trans<|ZF.mono Y9.size;have HD:O (fO ts known f=(Co known f ts[k] || fO (ts.drop<|k+1) known f)):=by show _=_;rw[<-HP];exact Li hlt known f
  rw[hadT];clear hadT hE;cases ho:zH ts[k].a ts[k].b f.a f.b;case false=>
   have hneq:=Jc _ _ _ _ ho;have Zc:O (fO (ts.drop<|k+1) known f=fO ts known f):=by
    show _=_;unfold zH at ho;rw[HD];unfold Co;rw[ho];rfl
   clear ho;go_wp2;rw[<-hW1];clear hW1;go_roundw;case rel=>exact⟨k+1,cq,cx,Zc,HB1⟩
   simp[intOf]<;>omega
  have hneq:=Jc _ _ _ _ ho;have HO:O (zH ts[k].a ts[k].b f.a f.b=true):=ho;clear ho;cases hr:(ts[k].r.toList==f.r.toList);case false=>
   have Zc:O (fO (ts.drop<|k+1) known f=fO ts known f):=by
    show _=_;have h2:=HO.out;unfold zH at h2;rw[HD];unfold Co;rw[h2,hr];rfl
   go_wp2;rw[<-hW1];clear hW1;go_roundw;case rel=>exact⟨k+1,cq,cx,Zc,HB1⟩
   simp[intOf]<;>omega
  have HT:O (Co known f ts[k]=(if ts[k].s.toList.isEmpty then ts[k].c.toList==f.c.toList&&ts[k].d.toList==f.d.toList else aR known ⟨ts[k].c,ts[k].d,ts[k].s,f.c,f.d⟩)):=by
   show _=_;have h2:=HO.out;unfold zH at h2;unfold Co;rw[h2,hr];rfl
  cases hs:ts[k].s.toList.isEmpty;case true=>
   have hs2:(ts[k].s.toList==[])=true:=by rw[oz];exact hs
   cases hu:zH ts[k].c ts[k].d f.c f.d;case true=>
    have heq:=iW _ _ _ _ hu;have HN:O (fO ts known f=true):=by
     show _=_;unfold zH at hu;rw[HD,HT,if_pos hs,hu];rfl
    clear hu hs;go_wp2;rw[<-hW1];go_ret;exact⟨by rw[HN];rfl,HBW1⟩
   have heq:=iW _ _ _ _ hu;have Zc:O (fO (ts.drop<|k+1) known f=fO ts known f):=by
    show _=_;unfold zH at hu;rw[HD,HT,if_pos hs,hu];rfl
   clear hu hs;go_wp2;rw[<-hW1];clear hW1;go_roundw;case rel=>exact⟨k+1,cq,cx,Zc,HB1⟩
   simp[intOf]<;>omega
  have hs2:(ts[k].s.toList==[])=false:=by rw[oz];exact hs
  have HT2:O (Co known f ts[k]=aR known ⟨ts[k].c,ts[k].d,ts[k].s,f.c,f.d⟩):=by show _=_;rw[HT,if_neg<|by rw[hs];decide]
  clear hs;go_wp2_with fail;rw[<-hW1];clear hW1;refine(pJ adK capK known ⟨ts[k].c,ts[k].d,ts[k].s,f.c,f.d⟩ W1 hkl<|HW0.kn.below HBW1).mono ?_;rintro e w2 ⟨rfl,hb2⟩;have HB2:=jr HB1 hb2;have HBW2:=jr HBW1 hb2;clear hb2;cases hh:aR known ⟨ts[k].c,ts[k].d,ts[k].s,f.c,f.d⟩;case true=>
   have HN:O (fO ts known f=true):=by show _=_;rw[HD,HT2,hh];rfl
   go_wp2;go_ret;exact⟨by rw[HN];rfl,HBW2⟩
  have Zc:O (fO (ts.drop<|k+1) known f=fO ts known f):=by show _=_;rw[HD,HT2,hh];rfl
  go_wp2;go_roundw;case rel=>exact⟨k+1,cq,cx,Zc,HB2⟩
  simp[intOf]<;>omega
 have HN:O (fO ts known f=false):=by show _=_;rw[<-HP,Ya cq];rfl
 go_wp2;go_ret;exact⟨by rw[HN];rfl,Y9⟩
def GM(v0:Value)(adT:Q02)(capT:Nat)(ts:Q05)(YY:Q02)(capE:Nat)(rows:Q08)(n:Nat)(adK:Q02)(capK:Nat)(known:Q04)(ZV:Q02)(Zn:Nat)(truth:Q04)(f:Fc)(w:ag)(hW:HW w adT ts YY rows adK known ZV truth)(hn:n<rows.length)(hre:rows.length<=1000)(hkl:a7 known)(htl:a7 ts)(hk:rows[n].e.kind=3):
  Calls prog 146 #[v0,.slice adT ts.length capT,.slice YY rows.length capE,.int .i64 (n:Int),.slice adK known.length capK,.slice ZV truth.length Zn,.agg<|cf f] w (a8 w<|.bool<|gY ts known rows[n].e.over rows[n].e.name f):=by
 obtain⟨b,off,YW,⟨t0,t1,t2,t3,t4⟩,hbl,-⟩:=iE.at0 hW.ex hn;have HW0:=ah hW;obtain⟨W0,hW0⟩:=eQx<|xh w f rows[n];have HB0:O (ae w W0):=by show Below _ _ _;rw[hW0];exact eZ _ _ _
 have HE0:O (EnB W0 w.heap.size f rows[n]):=by show EnB _ _ _ _;rw[hW0];exact gT _ _ _
 have hk1:(rows[n].e.kind==1)=false:=by rw[hk];rfl
 have hk2:(rows[n].e.kind==2)=false:=by rw[hk];rfl
 have hk3:(rows[n].e.kind==3)=true:=by rw[hk];rfl
 have hn1:=bG n;have hn2:(n:Int)<(rows.length:Int):=cq;unfold xh at hW0;rw[YW];clear YW hW hk;go_enter func146,ntmps146;go_wp2_with fail;rw[<-hW0];clear hW0 t0 t1 t2 t3 t4;go_loopw[18] (fun i wr=>∃k:Nat,k<=ts.length/\i=.int .i64 k/\O (gY (ts.drop k) known rows[n].e.over rows[n].e.name f=gY ts known rows[n].e.over rows[n].e.name f)/\O (ae W0 wr)) (fun i _=>ts.length-(intOf i).toNat);case atStart=>exact⟨0,XP _,rfl,rfl,XL _ _⟩
 obtain⟨k,hk,rfl,HP,HB⟩:=hrel;have Y9:O (ae w wr):=HB0.trans<|HB.mono HB0.size;by_cases hlt:k<ts.length
 ·obtain⟨bT,offT,hadT,⟨a0,a1,a2,a3,a4,a5⟩,hbT⟩:=Sl.at0 (HW0.tup.below Y9) hlt;have hE:=HE0.below HB;have e0:=hE.f0;have e1:=hE.f1;have e2:=hE.f2;have e3:=hE.f3;have e4:=hE.f4;have el:cX w wr:=by have:=hE.lt;omega
  have el2:w.heap.size+1<wr.heap.size:=hE.lt;have g2:=hE.x2;have g3:=hE.x3;have hi1:=bG k;have hi2:(k:Int)<(ts.length:Int):=cq;obtain⟨W1,hW1⟩:=eQx<|wr.alloc<|.cells (cg ts[k]) 29;have ZF:=lX hW1;have HB1:O (ae W0 W1):=HB.trans<|ZF.mono HB.size;have HBW1:O (ae w W1):=Y9.trans<|ZF.mono Y9.size;have HD:O (gY ts known rows[n].e.over rows[n].e.name f=(Fh known rows[n].e.over rows[n].e.name f ts[k] || gY (ts.drop<|k+1) known rows[n].e.over rows[n].e.name f)):=by show _=_;rw[<-HP];exact Lj hlt known _ _ f
  rw[hadT];clear hadT hE;cases ho:zH ts[k].a ts[k].b f.a f.b;case false=>
   have hoeq:=iW _ _ _ _ ho;have Zc:O (gY (ts.drop<|k+1) known rows[n].e.over rows[n].e.name f=gY ts known rows[n].e.over rows[n].e.name f):=by
    show _=_;unfold zH at ho;rw[HD];unfold Fh;rw[ho];rfl
   clear ho;go_wp2;rw[<-hW1];clear hW1;go_roundw;case rel=>exact⟨k+1,cq,cx,Zc,HB1⟩
   simp[intOf]<;>omega
  have hoeq:=iW _ _ _ _ ho;have HO:O (zH ts[k].a ts[k].b f.a f.b=true):=ho;clear ho;cases hr:(ts[k].r.toList==rows[n].e.over.toList);case false=>
   have Zc:O (gY (ts.drop<|k+1) known rows[n].e.over rows[n].e.name f=gY ts known rows[n].e.over rows[n].e.name f):=by
    show _=_;have h2:=HO.out;unfold zH at h2;rw[HD];unfold Fh;rw[h2,hr];rfl
   go_wp2;rw[<-hW1];clear hW1;go_roundw;case rel=>exact⟨k+1,cq,cx,Zc,HB1⟩
   simp[intOf]<;>omega
  have HT2:O (Fh known rows[n].e.over rows[n].e.name f ts[k]=aR known ⟨ts[k].c,ts[k].d,rows[n].e.name,f.c,f.d⟩):=by
   show _=_;have h2:=HO.out;unfold zH at h2;unfold Fh;rw[h2,hr];rfl
  go_wp2_with fail;rw[<-hW1];clear hW1;refine(pJ adK capK known ⟨ts[k].c,ts[k].d,rows[n].e.name,f.c,f.d⟩ W1 hkl<|HW0.kn.below HBW1).mono ?_;rintro e w2 ⟨rfl,hb2⟩;have HB2:=jr HB1 hb2;have HBW2:=jr HBW1 hb2;clear hb2;cases hh:aR known ⟨ts[k].c,ts[k].d,rows[n].e.name,f.c,f.d⟩;case true=>
   have HN:O (gY ts known rows[n].e.over rows[n].e.name f=true):=by show _=_;rw[HD,HT2,hh];rfl
   go_wp2;go_ret;exact⟨by rw[HN];rfl,HBW2⟩
  have Zc:O (gY (ts.drop<|k+1) known rows[n].e.over rows[n].e.name f=gY ts known rows[n].e.over rows[n].e.name f):=by show _=_;rw[HD,HT2,hh];rfl
  go_wp2;go_roundw;case rel=>exact⟨k+1,cq,cx,Zc,HB2⟩
  simp[intOf]<;>omega
 have HN:O (gY ts known rows[n].e.over rows[n].e.name f=false):=by show _=_;rw[<-HP,Ya cq];rfl
 go_wp2;go_ret;exact⟨by rw[HN];rfl,Y9⟩
open Go.Sort
def Ox(p:Int->Bool){zs:List Int}{k:Nat}(h:k<zs.length):(zs.drop k).any p=(p zs[k] || (zs.drop<|k+1).any p):=by rw[Yi h];rfl
def Oy(p:Int->Bool){zs:List Int}{k:Nat}(h:k<zs.length):(zs.drop k).all p=(p zs[k]&&(zs.drop<|k+1).all p):=by rw[Yi h];rfl
def Rc(v0 vT vE vK vR:Value)(f:Fc)(w:World)(i:Int)(b:Bool):Prop:=∀w1:World,ae w w1->Calls prog 146 #[v0,vT,vE,.int .i64 i,vK,vR,.agg #[.string f.a,.string f.b,.string f.r,.string f.c,.string f.d]] w1 fun e w'=>e=.returned (.bool b)/\ae w1 w'
def D6(H:Int->Bool)(v0 vT:Value)(YY:Q02)(capE:Nat)(rows:Q08)(n:Nat)(vK vR:Value)(f:Fc)(w:ag)(hex:iE w YY rows)(hn:n<rows.length)(hre:rows.length<=1000)(hkl:rows[n].e.kids.length<=1000)(hk:rows[n].e.kind=4)(hIH:∀i∈rows[n].e.kids,Rc v0 vT (.slice YY rows.length capE) vK vR f w i<|H i):
  Calls prog 146 #[v0,vT,.slice YY rows.length capE,.int .i64 (n:Int),vK,vR,.agg<|cf f] w (a8 w<|.bool<|rows[n].e.kids.any H):=by
 obtain⟨b,off,YW,⟨t0,t1,t2,t3,t4⟩,hbl,hok⟩:=iE.at0 hex hn;have HK:=ah hok.2;have HIH:=ah hIH;obtain⟨W0,hW0⟩:=eQx<|xh w f rows[n];have HB0:O (ae w W0):=by show Below _ _ _;rw[hW0];exact eZ _ _ _
 have HE0:O (EnB W0 w.heap.size f rows[n]):=by show EnB _ _ _ _;rw[hW0];exact gT _ _ _
 have hk1:(rows[n].e.kind==1)=false:=by rw[hk];rfl
 have hk2:(rows[n].e.kind==2)=false:=by rw[hk];rfl
 have hk3:(rows[n].e.kind==3)=false:=by rw[hk];rfl
 have hk4:(rows[n].e.kind==4)=true:=by rw[hk];rfl
 have hn1:=bG n;have hn2:(n:Int)<(rows.length:Int):=cq;unfold xh at hW0;rw[YW]at HIH⊢;clear YW hex hk hIH hok;go_enter func146,ntmps146;go_wp2_with fail;rw[<-hW0];clear hW0 t0 t1 t2 t3 t4;go_loopw[20] (fun i wr=>∃k:Nat,k<=rows[n].e.kids.length/\i=.int .i64 k/\O ((rows[n].e.kids.drop k).any H=rows[n].e.kids.any H)/\O (ae W0 wr)) (fun i _=>rows[n].e.kids.length-(intOf i).toNat);case atStart=>exact⟨0,XP _,rfl,rfl,XL _ _⟩
 obtain⟨k,hk,rfl,HP,HB⟩:=hrel;have Y9:O (ae w wr):=HB0.trans<|HB.mono HB0.size;have hE:=HE0.below HB;have e0:=hE.f0;have e1:=hE.f1;have e2:=hE.f2;have e3:=hE.f3;have e4:=hE.f4;have y4:=hE.x4;have el2:w.heap.size+1<wr.heap.size:=hE.lt;clear hE;by_cases hlt:k<rows[n].e.kids.length
 ·obtain⟨bK,offK,ZC,z0,hbK⟩:=uW.at0 (HK.below Y9) hlt;rw[ZC]at y4;have hi1:=bG k;have hi2:(k:Int)<(rows[n].e.kids.length:Int):=cq;have HD:O (rows[n].e.kids.any H=(H rows[n].e.kids[k] || (rows[n].e.kids.drop<|k+1).any H)):=by show _=_;rw[<-HP];exact Ox H hlt
  have HC:=ah<|HIH _<|XI hlt;obtain⟨q,hq⟩:∃q,H rows[n].e.kids[k]=q:=⟨_,rfl⟩;rw[hq]at HC HD;have HCL:O (∀d os,Calls prog 146 #[v0,vT,.slice (some<|ap b off) rows.length capE,.int .i64 rows[n].e.kids[k],vK,vR,.agg<|cf f] (grow (redrawn wr d) os) fun e w''=>e=.returned (.bool q)/\∃p:Regrown,w''=grow (redrawn wr p.d) p.os):=by
   refine dz fun W' hb=>?_;exact HC W'<|Y9.trans<|hb.mono Y9.size
  clear ZC hq HC;go_wp2_with fail;replace e0:=cell_regrown e0;replace e1:=cell_regrown e1;replace e2:=cell_regrown e2;replace e3:=cell_regrown e3;replace e4:=cell_regrown e4;replace y4:=cell_regrown y4;replace z0:=cell_regrown z0;refine wp_region_quiet_below cw cw ?_
  repeat(go_big_quiet_step (exact HCL _ _))
  refine wpQuiet_nil ?_;rintro _ ⟨⟨dq,osq⟩,rfl⟩;have HB2:=ah<|HB.trans<|(below_regrown wr dq osq).mono HB.size;clear HCL e0 e1 e2 e3 e4 y4 z0;cases q;case true=>
   have HN:O (rows[n].e.kids.any H=true):=by show _=_;rw[HD];rfl
   go_wp2;go_ret;exact⟨by rw[HN];rfl,HB0.trans<|HB2.mono HB0.size⟩
  have Zc:O ((rows[n].e.kids.drop<|k+1).any H=rows[n].e.kids.any H):=by show _=_;rw[HD];rfl
  go_wp2;go_roundw;case rel=>exact⟨k+1,cq,cx,Zc,HB2⟩
  simp[intOf]<;>omega
 have HN:O (rows[n].e.kids.any H=false):=by show _=_;rw[<-HP,Ya cq];rfl
 go_wp2;go_ret;exact⟨by rw[HN];rfl,Y9⟩
def GN(H:Int->Bool)(v0 vT:Value)(YY:Q02)(capE:Nat)(rows:Q08)(n:Nat)(vK vR:Value)(f:Fc)(w:ag)(hex:iE w YY rows)(hn:n<rows.length)(hre:rows.length<=1000)(hkl:rows[n].e.kids.length<=1000)(hk:rows[n].e.kind=5)(hIH:∀i∈rows[n].e.kids,Rc v0 vT (.slice YY rows.length capE) vK vR f w i<|H i):
  Calls prog 146 #[v0,vT,.slice YY rows.length capE,.int .i64 (n:Int),vK,vR,.agg<|cf f] w (a8 w<|.bool<|rows[n].e.kids.all H):=by
 obtain⟨b,off,YW,⟨t0,t1,t2,t3,t4⟩,hbl,hok⟩:=iE.at0 hex hn;have HK:=ah hok.2;have HIH:=ah hIH;obtain⟨W0,hW0⟩:=eQx<|xh w f rows[n];have HB0:O (ae w W0):=by show Below _ _ _;rw[hW0];exact eZ _ _ _
 have HE0:O (EnB W0 w.heap.size f rows[n]):=by show EnB _ _ _ _;rw[hW0];exact gT _ _ _
 have hk1:(rows[n].e.kind==1)=false:=by rw[hk];rfl
 have hk2:(rows[n].e.kind==2)=false:=by rw[hk];rfl
 have hk3:(rows[n].e.kind==3)=false:=by rw[hk];rfl
 have hk4:(rows[n].e.kind==4)=false:=by rw[hk];rfl
 have hk5:(rows[n].e.kind==5)=true:=by rw[hk];rfl
 have hn1:=bG n;have hn2:(n:Int)<(rows.length:Int):=cq;unfold xh at hW0;rw[YW]at HIH⊢;clear YW hex hk hIH hok;go_enter func146,ntmps146;go_wp2_with fail;rw[<-hW0];clear hW0 t0 t1 t2 t3 t4;go_loopw[21] (fun i wr=>∃k:Nat,k<=rows[n].e.kids.length/\i=.int .i64 k/\O ((rows[n].e.kids.drop k).all H=rows[n].e.kids.all H)/\O (ae W0 wr)) (fun i _=>rows[n].e.kids.length-(intOf i).toNat);case atStart=>exact⟨0,XP _,rfl,rfl,XL _ _⟩
 obtain⟨k,hk,rfl,HP,HB⟩:=hrel;have Y9:O (ae w wr):=HB0.trans<|HB.mono HB0.size;have hE:=HE0.below HB;have e0:=hE.f0;have e1:=hE.f1;have e2:=hE.f2;have e3:=hE.f3;have e4:=hE.f4;have y4:=hE.x4;have el2:w.heap.size+1<wr.heap.size:=hE.lt;clear hE;by_cases hlt:k<rows[n].e.kids.length
 ·obtain⟨bK,offK,ZC,z0,hbK⟩:=uW.at0 (HK.below Y9) hlt;rw[ZC]at y4;have hi1:=bG k;have hi2:(k:Int)<(rows[n].e.kids.length:Int):=cq;have HD:O (rows[n].e.kids.all H=(H rows[n].e.kids[k]&&(rows[n].e.kids.drop<|k+1).all H)):=by show _=_;rw[<-HP];exact Oy H hlt
  have HC:=ah<|HIH _<|XI hlt;obtain⟨q,hq⟩:∃q,H rows[n].e.kids[k]=q:=⟨_,rfl⟩;rw[hq]at HC HD;have HCL:O (∀d os,Calls prog 146 #[v0,vT,.slice (some<|ap b off) rows.length capE,.int .i64 rows[n].e.kids[k],vK,vR,.agg<|cf f] (grow (redrawn wr d) os) fun e w''=>e=.returned (.bool q)/\∃p:Regrown,w''=grow (redrawn wr p.d) p.os):=by
   refine dz fun W' hb=>?_;exact HC W'<|Y9.trans<|hb.mono Y9.size
  clear ZC hq HC;go_wp2_with fail;replace e0:=cell_regrown e0;replace e1:=cell_regrown e1;replace e2:=cell_regrown e2;replace e3:=cell_regrown e3;replace e4:=cell_regrown e4;replace y4:=cell_regrown y4;replace z0:=cell_regrown z0;refine wp_region_quiet_below cw cw ?_
  repeat(go_big_quiet_step (exact HCL _ _))
  refine wpQuiet_nil ?_;rintro _ ⟨⟨dq,osq⟩,rfl⟩;have HB2:=ah<|HB.trans<|(below_regrown wr dq osq).mono HB.size;clear HCL e0 e1 e2 e3 e4 y4 z0;cases q;case false=>
   have HN:O (rows[n].e.kids.all H=false):=by show _=_;rw[HD];rfl
   go_wp2;go_ret;exact⟨by rw[HN];rfl,HB0.trans<|HB2.mono HB0.size⟩
  have Zc:O ((rows[n].e.kids.drop<|k+1).all H=rows[n].e.kids.all H):=by show _=_;rw[HD];rfl
  go_wp2;go_roundw;case rel=>exact⟨k+1,cq,cx,Zc,HB2⟩
  simp[intOf]<;>omega
 have HN:O (rows[n].e.kids.all H=true):=by show _=_;rw[<-HP,Ya cq];rfl
 go_wp2;go_ret;exact⟨by rw[HN];rfl,Y9⟩
def Je(b0 b1:Bool)(v0 vT:Value)(YY:Q02)(capE:Nat)(rows:Q08)(n:Nat)(vK vR:Value)(f:Fc)(w:ag)(hex:iE w YY rows)(hn:n<rows.length)(hre:rows.length<=1000)(hkl:rows[n].e.kids.length<=1000)(hk2:2<=rows[n].e.kids.length)(hk:rows[n].e.kind=6)(hA:Rc v0 vT (.slice YY rows.length capE) vK vR f w (rows[n].e.kids.getD 0 0) b0)(hB:Rc v0 vT (.slice YY rows.length capE) vR vR f w (rows[n].e.kids.getD 1 0) b1):
  Calls prog 146 #[v0,vT,.slice YY rows.length capE,.int .i64 (n:Int),vK,vR,.agg<|cf f] w (a8 w<|.bool<|b0 && !b1):=by
 obtain⟨b,off,YW,⟨t0,t1,t2,t3,t4⟩,hbl,hok⟩:=iE.at0 hex hn;have h0k:0<rows[n].e.kids.length:=cq;have h1k:1<rows[n].e.kids.length:=cq;obtain⟨bK,offK,ZC,z0,hbK⟩:=uW.at0 hok.2 h0k;have z1:w.cell? (ap bK<|offK+1)=some (.int .i64 rows[n].e.kids[1]):=by
  obtain⟨b',off',hadK',z1,-⟩:=uW.at0 hok.2 h1k;rw[ZC]at hadK';injection hadK' with e;injection e with e1 e2;rw[e1,e2];exact z1
 obtain⟨i0,hi0⟩:∃i,i=rows[n].e.kids[0]:=⟨_,rfl⟩;obtain⟨i1,hi1⟩:∃i,i=rows[n].e.kids[1]:=⟨_,rfl⟩;have g0:rows[n].e.kids.getD 0 0=i0:=by rw[hi0,Yl,XQ h0k];rfl
 have g1:rows[n].e.kids.getD 1 0=i1:=by rw[hi1,Yl,XQ h1k];rfl
 rw[g0]at hA;rw[g1]at hB;rw[<-hi0,Nat.add_zero]at z0;rw[<-hi1]at z1;clear hi0 hi1 g0 g1;obtain⟨kl,hkl'⟩:∃kl,kl=rows[n].e.kids.length:=⟨_,rfl⟩;obtain⟨cK,hcK⟩:∃c,c=rows[n].capK:=⟨_,rfl⟩;have hl0:(0:Int)<(kl:Int):=cq;have hl1:(1:Int)<(kl:Int):=cq;have h0k':0<kl:=cq;have h1k':1<kl:=cq;have HA:=ah hA;have HBB:=ah hB;obtain⟨W0,hW0⟩:=eQx<|xh w f rows[n];have HB0:O (ae w W0):=by show Below _ _ _;rw[hW0];exact eZ _ _ _
 have HE0:O (EnB W0 w.heap.size f rows[n]):=by show EnB _ _ _ _;rw[hW0];exact gT _ _ _
 have HZ:O (ac W0 bK offK (.int .i64 i0)/\ac W0 bK (offK+1) (.int .i64 i1)/\bK<W0.heap.size):=⟨(HB0.cell (p:=⟨bK,offK,none⟩) hbK).trans z0,(HB0.cell (p:=⟨bK,offK+1,none⟩) hbK).trans z1,XJ hbK HB0.size⟩;have HX4:O (W0.cell? (ap (w.heap.size+1) 4)=some (.slice (some<|ap bK offK) kl cK)):=by show _=_;rw[HE0.x4,ZC,<-hkl',<-hcK]
 have hk1:(rows[n].e.kind==1)=false:=by rw[hk];rfl
 have hk2:(rows[n].e.kind==2)=false:=by rw[hk];rfl
 have hk3:(rows[n].e.kind==3)=false:=by rw[hk];rfl
 have hk4:(rows[n].e.kind==4)=false:=by rw[hk];rfl
 have hk5:(rows[n].e.kind==5)=false:=by rw[hk];rfl
 have hk6:(rows[n].e.kind==6)=true:=by rw[hk];rfl
 have hn1:=bG n;have hn2:(n:Int)<(rows.length:Int):=cq;unfold xh at hW0;rw[YW]at HA HBB⊢;clear YW hex hk hA hB hok z0 z1 ZC h0k h1k;go_enter func146,ntmps146;go_wp2_with fail;rw[<-hW0];clear hW0 t0 t1 t2 t3 t4 hk1 hk2 hk3 hk4 hk5 hk6 hkl' hcK;have HAA:O (∀d os,Calls prog 146 #[v0,vT,.slice (some<|ap b off) rows.length capE,.int .i64 i0,vK,vR,.agg<|cf f] (grow (redrawn W0 d) os) fun e w''=>e=.returned (.bool b0)/\∃p:Regrown,w''=grow (redrawn W0 p.d) p.os):=by
  refine dz fun W' hb=>?_;exact HA _<|HB0.trans<|hb.mono HB0.size
 have HBQ:O (∀d os,Calls prog 146 #[v0,vT,.slice (some<|ap b off) rows.length capE,.int .i64 i1,vR,vR,.agg<|cf f] (grow (redrawn W0 d) os) fun e w''=>e=.returned (.bool b1)/\∃p:Regrown,w''=grow (redrawn W0 p.d) p.os):=by
  refine dz fun W' hb=>?_;exact HBB _<|HB0.trans<|hb.mono HB0.size
 have c0:=cell_regrown HE0.f0;have c1:=cell_regrown HE0.f1;have c2:=cell_regrown HE0.f2;have c3:=cell_regrown HE0.f3;have c4:=cell_regrown HE0.f4;have x4:=cell_regrown HX4;have z0:=cell_regrown HZ.1;have z1:=cell_regrown HZ.2.1;clear HA HBB HE0;cases b0;case true=>
  refine wp_region_quiet_below cw cw ?_
  iterate 11 (go_big_quiet_step (exact HAA _ _))
  repeat(go_big_quiet_step (exact HBQ _ _))
  refine wpQuiet_nil ?_;rintro _ ⟨⟨dq,osq⟩,rfl⟩;go_wp2;go_ret;exact⟨rfl,HB0.trans<|(below_regrown W0 dq osq).mono HB0.size⟩
 refine wp_region_quiet_below cw cw ?_
 repeat(go_big_quiet_step (exact HAA _ _))
 refine wpQuiet_nil ?_;rintro _ ⟨⟨dq,osq⟩,rfl⟩;go_wp2;go_ret;exact⟨rfl,HB0.trans<|(below_regrown W0 dq osq).mono HB0.size⟩
end Go.Proofs.YtojjoblnpldniaaGreat
