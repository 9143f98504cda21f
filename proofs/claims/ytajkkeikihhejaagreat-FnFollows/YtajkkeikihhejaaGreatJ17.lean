/- What a right schema says of its expressions and their nodes. -/
import Derived.Test.YtajkkeikihhejaaGreatSq
import Derived.Test.YtajkkeikihhejaaGreatJ9
import Derived.Test.YtajkkeikihhejaaGreatJ13
import Derived.Test.YtajkkeikihhejaaGreatSpecExpr
open Go.Proofs.Tryz
set_option maxHeartbeats 80000000
namespace Go.Proofs.YtajkkeikihhejaaGreat
set_option linter.unusedVariables false
open Pl
def K5(es:Q09):Prop:=∀(i:Nat) (h:i<es.length),∀x∈es[i].kids,0<=x/\x<(i:Int)
theorem Jv{es:Q09}(h:aL es=true):K5 es:=by
 intro i hi x hx;unfold aL at h;simp only[UW,U3]at h;have h1:=h.1.1.2;unfold jf at h1;rw[U5]at h1;have h2:=h1 i (by simpa using hi);unfold kP dm at h2;rw[U1 hi]at h2;simp only[Option.map_some,Vw,U5,UW,U3]at h2;have:=h2 x hx;omega
def hasB(ts:Q0b)(t r:ByteArray):Bool:=!(aB ts t r).isEmpty
theorem AQ{ts:Q0b}(h:bu ts=true){t:Ty}(ht:t∈ts){r:Rl}(hr:r∈t.rels):aT r.name=true/\aL r.expr=true:=by
 unfold bu at h;simp only[UW]at h;obtain⟨j,hj,rfl⟩:=VI ht;have h1:=oU h.2 j hj;unfold kI at h1;rw[U1 hj]at h1;simp only[UW]at h1;obtain⟨k,hk,rfl⟩:=VI hr;have h2:=oQ h1.2 k hk;unfold mg at h2;rw[U1 hk]at h2;simp only[UW]at h2;exact⟨h2.1.1,h2.2⟩
theorem AR{ts:Q0b}{typ:ByteArray}:∀{es:Q09},aW ts typ es=true->∀e∈es,oL ts e.allow=true/\lI ts typ e=true
 | [],_,e,he=>by cases he
 | x::es,h,e,he=>by
  unfold aW at h;split at h
  ·rename_i hc;simp only[UW]at hc;rcases U9.1 he with rfl|he
   ·exact hc
   exact AR h e he
  cases h
theorem Ri{ts:Q0b}(h:iL ts=true){t:Ty}(ht:t∈ts){r:Rl}(hr:r∈t.rels){e:Ex}(he:e∈r.expr):oL ts e.allow=true/\lI ts t.name e=true:=by
 have h1:=U5.1 h t ht;have h2:=U5.1 h1 r hr;exact AR h2 e he
structure Fc where
 a:ByteArray
 b:ByteArray
 r:ByteArray
 c:ByteArray
 d:ByteArray
abbrev Q04:=List Fc
def Fc.u(f:Fc):ByteArray×ByteArray:=(f.c,f.d)
def xA(x y:Fc):Bool:=x.a.toList==y.a.toList&&x.b.toList==y.b.toList&&x.r.toList==y.r.toList&&x.c.toList==y.c.toList&&x.d.toList==y.d.toList
theorem vP{x y:Fc}:xA x y=true↔x=y:=by
 constructor
 ·intro h;unfold xA at h;simp only[UW,beq_iff_eq]at h;obtain⟨⟨⟨⟨h1,h2⟩,h3⟩,h4⟩,h5⟩:=h;cases x;cases y;simp only at h1 h2 h3 h4 h5;rw[gG h1,gG h2,gG h3,gG h4,gG h5]
 rintro rfl;unfold xA;simp
def bB(out:Q04)(f:Fc):Bool:=out.any fun g=>xA g f
theorem cZ{out:Q04}{f:Fc}:bB out f=true↔f∈out:=by
 unfold bB;rw[Vk];constructor
 ·rintro⟨g,hg,h⟩;rw[<-vP.1 h];exact hg
 intro h;exact⟨f,h,vP.2 rfl⟩
def GI(u:Q01)(x y:Q04):Prop:=∀g:Fc,g.u=u->(g∈x↔g∈y)
theorem xB{x y:Q04}{f:Fc}(h:GI f.u x y):bB x f=bB y f:=by
 rw[Vd,cZ,cZ];exact h f rfl
def eY(l:Q05)(known:Q04)(f:Fc):Bool:=l.any fun t=>(t.a.toList==f.a.toList&&t.b.toList==f.b.toList&&t.r.toList==f.r.toList)&&(if t.s.toList.isEmpty then t.c.toList==f.c.toList&&t.d.toList==f.d.toList else bB known ⟨t.c,t.d,t.s,f.c,f.d⟩)
def gm(l:Q05)(known:Q04)(over name:ByteArray)(f:Fc):Bool:=l.any fun t=>(t.a.toList==f.a.toList&&t.b.toList==f.b.toList&&t.r.toList==over.toList)&&bB known ⟨t.c,t.d,name,f.c,f.d⟩
def di(l:Q05)(es:Q09)(truth:Q04)(f:Fc):Nat->List Fc->Nat->Bool
 | 0,_,_=>false
 | k+1,known,n=>match es[n]? with
  | none=>false
  | some x =>
   if x.kind=1 then eY l known f
   else if x.kind=2 then bB known ⟨f.a,f.b,x.name,f.c,f.d⟩
   else if x.kind=3 then gm l known x.over x.name f
   else if x.kind=4 then x.kids.any fun i=>di l es truth f k known i.toNat
   else if x.kind=5 then x.kids.all fun i=>di l es truth f k known i.toNat
   else if x.kind=6 then di l es truth f k known (x.kids.getD 0 0).toNat && !di l es truth f k truth (x.kids.getD 1 0).toNat
   else false
theorem Jw{l:Q05}{x y:Q04}{f:Fc}(h:GI f.u x y):eY l x f=eY l y f:=by
 unfold eY;congr 1
 funext t
 rw[xB (x:=x) (y:=y) (f:=⟨t.c,t.d,t.s,f.c,f.d⟩) h]
theorem Jy{l:Q05}{x y:Q04}{ov nm:ByteArray}{f:Fc}(h:GI f.u x y):gm l x ov nm f=gm l y ov nm f:=by
 unfold gm;congr 1
 funext t
 rw[xB (x:=x) (y:=y) (f:=⟨t.c,t.d,nm,f.c,f.d⟩) h]
theorem ut{l:Q05}{es:Q09}{f:Fc}{t1 t2:Q04}(ht:GI f.u t1 t2):∀(k:Nat) (x y:Q04) (n:Nat),GI f.u x y->di l es t1 f k x n=di l es t2 f k y n
 | 0,_,_,_,_=>rfl
 | k+1,x,y,n,h=>by
  unfold di;cases es[n]? with
  | none=>rfl
  | some e =>
   simp only[Jw h,xB (x:=x) (y:=y) (f:=⟨f.a,f.b,e.name,f.c,f.d⟩) h,Jy h,ut ht k x y _ h,ut ht k t1 t2 _ ht]
def fT(ts:Q0b)(l:Q05)(out:Q04)(f:Fc):Bool:=di l (aB ts f.a f.r) out f (aB ts f.a f.r).length out ((aB ts f.a f.r).length-1)
theorem Dw(ts:Q0b)(l:Q05):Loc Fc.u (fT ts l):=fun x y f h=>ut h _ x y _ h
def AU(ts:Q0b)(st:Q00)(n:Int)(o:Al):List (ByteArray×ByteArray):=(au ts).filter fun k=>k.1.toList==o.t.toList&&decide (st k=n)
def jg(o:Al)(rel:ByteArray)(xu:Q0a):List Fc:=xu.map fun u=>⟨o.t,o.s,rel,u.t,u.s⟩
def vQ(ts:Q0b)(st:Q00)(xu:Q0a)(n:Int)(o:Al):List Fc:=(AU ts st n o).flatMap fun k=>jg o k.2 xu
def df(ts:Q0b)(st:Q00)(xo xu:Q0a)(n:Int):List Fc:=xo.flatMap (vQ ts st xu n)
theorem Jz{ts:Q0b}{st:Q00}{xo xu:Q0a}{n:Int}{f:Fc}(h:f∈df ts st xo xu n):f.u∈xu.map fun u=>(u.t,u.s):=by
 unfold df vQ jg at h;obtain⟨o,-,h⟩:=U8.1 h;obtain⟨k,-,h⟩:=U8.1 h;obtain⟨u,hu,rfl⟩:=U7.1 h;exact U7.2 ⟨u,hu,rfl⟩
theorem GJ(ts:Q0b)(st:Q00)(xo xu:Q0a)(n:Int)(p:ByteArray×ByteArray->Bool):(df ts st xo xu n).filter (fun f=>p f.u)=df ts st xo (xu.filter fun u=>p (u.t,u.s)) n:=by
 unfold df vQ jg;rw[List.filter_flatMap];congr 1
 funext o
 rw[List.filter_flatMap];congr 1
 funext k
 rw[List.filter_map];rfl
theorem JA{ts:Q0b}{st:Q00}{xo xu:Q0a}{n:Int}(h:∀k∈au ts,st k≠n):df ts st xo xu n=[]:=by
 have:∀o,AU ts st n o=[]:=fun o=>by
  unfold AU;rw[List.filter_eq_nil_iff];intro k hk;simp[h k hk]
 unfold df vQ;simp[this]
section
variable  [DecidableEq Fc]
def lJ(ts:Q0b)(l:Q05)(st:Q00)(xo xu:Q0a)(N:Nat):List Fc:=(List.range N).foldl (fun out (n:Nat)=>kH (fT ts l) (df ts st xo xu (n:Int)) out) []
theorem jy(ts:Q0b)(l:Q05)(st:Q00)(xo xu:Q0a)(N:Nat):lJ ts l st xo xu (N+1)=kH (fT ts l) (df ts st xo xu (N:Int)) (lJ ts l st xo xu N):=by
 unfold lJ;rw[List.range_succ,List.foldl_append];rfl
theorem Dx{ts:Q0b}{l:Q05}{st:Q00}{xo xu:Q0a}{N:Nat}(h:∀k∈au ts,st k<(N:Int)):∀M,N<=M->lJ ts l st xo xu M=lJ ts l st xo xu N:=by
 intro M hM;obtain⟨d,rfl⟩:∃d,M=N+d:=⟨M-N,by omega⟩
 induction d with
 | zero=>rfl
 | succ d ih =>
  rw[Nat.add_succ,jy,ih (by omega),JA fun k hk=>by have:=h k hk;omega];exact Oo _
theorem Dy(ts:Q0b)(l:Q05)(st:Q00)(xo xu:Q0a):∀N,(lJ ts l st xo xu N).Nodup
 | 0=>List.nodup_nil
 | N+1=>by rw[jy];exact LD _ (Dy ts l st xo xu N)
end
open ChangeAt ChangeShapes Maps RowKit WideShapes
def xC(w:World)(b off:Nat)(t:Fc):Prop :=
 w.cell? ⟨b,off,none⟩=some (.string t.a)/\w.cell? ⟨b,off+1,none⟩=some (.string t.b)/\w.cell? ⟨b,off+2,none⟩=some (.string t.r)/\w.cell? ⟨b,off+3,none⟩=some (.string t.c)/\w.cell? ⟨b,off+4,none⟩=some (.string t.d)
def UO(w:World)(b off:Nat)(ts:Q04):Prop:=∀(i:Nat) (h:i<ts.length),xC w b (off+i*5) ts[i]
def o8(w:World)(ad:Q02)(ts:Q04):Prop:=ts=[] \/ ∃b off,ad=some ⟨b,off,none⟩/\b<w.heap.size/\UO w b off ts
theorem xC.same{w w':af}{b off:Nat}{t:Fc}(h:xC w b off t)(hc:∀o,w'.cell? ⟨b,o,none⟩=w.cell? ⟨b,o,none⟩):xC w' b off t:=by
 obtain⟨h0,h1,h2,h3,h4⟩:=h;exact⟨(hc _).trans h0,(hc _).trans h1,(hc _).trans h2,(hc _).trans h3,(hc _).trans h4⟩
theorem o8.below{w w':af}{ad:Q02}{ts:Q04}(h:o8 w ad ts)(hB:ae w w'):o8 w' ad ts:=by
 rcases h with h|⟨b,off,e,hb,hr⟩
 ·exact .inl h
 exact .inr ⟨b,off,e,UT hb hB.size,fun i hi=>(hr i hi).same fun o=>hB.cell (p:=⟨b,o,none⟩) hb⟩
def Fc.row(t:Fc):List Value:=[.string t.a,.string t.b,.string t.r,.string t.c,.string t.d]
theorem ET(x y:Fc){v:Bool}(h:xA x y=v)(w:af):
  (binOp .eql 29 (.agg #[.string x.a,.string x.b,.string x.r,.string x.c,.string x.d]) (.agg #[.string y.a,.string y.b,.string y.r,.string y.c,.string y.d])).run prog w=.ok (.bool v) w:=by
 subst h;go_simp;unfold xA
 (repeat' split)<;>simp_all
theorem Dz{ts:Q04}{k:Nat}(h:k<ts.length){t:Fc}:bB (ts.drop k) t=(xA ts[k] t || bB (ts.drop (k+1)) t):=by
 unfold bB;rw[Vl h];rfl
set_option maxRecDepth 8000 in
theorem rU(ad:Q02)(cap:Nat)(ts:Q04)(t:Fc)(w:af)(hlen:ts.length<=1048576)(hs:o8 w ad ts):
  Calls prog 56 #[.slice ad ts.length cap,.agg #[.string t.a,.string t.b,.string t.r,.string t.c,.string t.d]] w fun e w'=>e=.returned (.bool (bB ts t))/\ae w w':=by
 have HS:=aC hs;clear hs;obtain⟨W0,hW0⟩:∃W0,W0=w.alloc (.cells #[.string t.a,.string t.b,.string t.r,.string t.c,.string t.d] 29):=⟨_,rfl⟩;have HB0:=mI hW0;have HX0:Hid (W0.cell? ⟨w.heap.size,0,none⟩=some (.string t.a)/\W0.cell? ⟨w.heap.size,1,none⟩=some (.string t.b)/\W0.cell? ⟨w.heap.size,2,none⟩=some (.string t.r)/\W0.cell? ⟨w.heap.size,3,none⟩=some (.string t.c)/\W0.cell? ⟨w.heap.size,4,none⟩=some (.string t.d)/\w.heap.size<W0.heap.size):=by show _/\_;rw[hW0];refine⟨?_,?_,?_,?_,?_,?_⟩<;>simp
 go_enter func56,ntmps56;go_wp2;rw[<-hW0];clear hW0;go_loopw[5] (fun i wr=>∃k:Nat,k<=ts.length/\i=.int .i64 k/\Hid (bB (ts.drop k) t=bB ts t)/\Hid (ae W0 wr)) (fun i _=>ts.length-(intOf i).toNat);case atStart=>exact⟨0,UY _,rfl,rfl,UV _ _⟩
 obtain⟨k,hk,rfl,HP,HB⟩:=hrel;have V9:Hid (ae w wr):=HB0.out.trans (HB.out.mono HB0.out.size);by_cases hlt:k<ts.length
 ·rcases HS.out.below V9.out with hnil|⟨b,off,rfl,hb,hr⟩
  ·rw[hnil]at hlt;simp at hlt
  obtain⟨t0,t1,t2,t3,t4⟩:=hr k hlt;have x0:=mK HB.out HX0.out.2.2.2.2.2 HX0.out.1;have x1:=mK HB.out HX0.out.2.2.2.2.2 HX0.out.2.1;have x2:=mK HB.out HX0.out.2.2.2.2.2 HX0.out.2.2.1;have x3:=mK HB.out HX0.out.2.2.2.2.2 HX0.out.2.2.2.1;have x4:=mK HB.out HX0.out.2.2.2.2.2 HX0.out.2.2.2.2.1;have hk1:=bG k;have hk2:(k:Int)<(ts.length:Int):=by omega
  have HD:Hid (bB ts t=(xA ts[k] t || bB (ts.drop (k+1)) t)):=by show _=_;rw[<-HP.out];exact Dz hlt
  clear hr;cases hq:xA ts[k] t;case true=>
   have heq:=ET ts[k] t hq;have HN:Hid (bB ts t=true):=by show _=_;rw[HD.out,hq];rfl
   clear hq;go_wp2_with fail;go_region_held3 (fun w'=>w'.cell? ⟨b,off+k*5,none⟩=some (.string ts[k].a)/\w'.cell? ⟨b,off+k*5+1,none⟩=some (.string ts[k].b)/\w'.cell? ⟨b,off+k*5+2,none⟩=some (.string ts[k].r)/\w'.cell? ⟨b,off+k*5+3,none⟩=some (.string ts[k].c)/\w'.cell? ⟨b,off+k*5+4,none⟩=some (.string ts[k].d)/\w'.cell? ⟨w.heap.size,0,none⟩=some (.string t.a)/\w'.cell? ⟨w.heap.size,1,none⟩=some (.string t.b)/\w'.cell? ⟨w.heap.size,2,none⟩=some (.string t.r)/\w'.cell? ⟨w.heap.size,3,none⟩=some (.string t.c)/\w'.cell? ⟨w.heap.size,4,none⟩=some (.string t.d)/\ae wr w') (first|assumption|exact⟨t0,t1,t2,t3,t4,x0,x1,x2,x3,x4,(UV _ _).drew⟩) (fail);rename_i hH;have HG:Hid (ae wr _):=hH.2.2.2.2.2.2.2.2.2.2;clear hH t0 t1 t2 t3 t4 x0 x1 x2 x3 x4 heq;go_wp2;go_ret;exact⟨by rw[HN.out];rfl,V9.out.trans (HG.out.mono V9.out.size)⟩
  have heq:=ET ts[k] t hq;have Wj:Hid (bB (ts.drop (k+1)) t=bB ts t):=by show _=_;rw[HD.out,hq];rfl
  clear hq;go_wp2_with fail;go_region_held3 (fun w'=>w'.cell? ⟨b,off+k*5,none⟩=some (.string ts[k].a)/\w'.cell? ⟨b,off+k*5+1,none⟩=some (.string ts[k].b)/\w'.cell? ⟨b,off+k*5+2,none⟩=some (.string ts[k].r)/\w'.cell? ⟨b,off+k*5+3,none⟩=some (.string ts[k].c)/\w'.cell? ⟨b,off+k*5+4,none⟩=some (.string ts[k].d)/\w'.cell? ⟨w.heap.size,0,none⟩=some (.string t.a)/\w'.cell? ⟨w.heap.size,1,none⟩=some (.string t.b)/\w'.cell? ⟨w.heap.size,2,none⟩=some (.string t.r)/\w'.cell? ⟨w.heap.size,3,none⟩=some (.string t.c)/\w'.cell? ⟨w.heap.size,4,none⟩=some (.string t.d)/\ae wr w') (first|assumption|exact⟨t0,t1,t2,t3,t4,x0,x1,x2,x3,x4,(UV _ _).drew⟩) (fail);rename_i hH;have HG:Hid (ae W0 _):=HB.out.trans (hH.2.2.2.2.2.2.2.2.2.2.mono HB.out.size);clear hH t0 t1 t2 t3 t4 x0 x1 x2 x3 x4 heq;go_wp2;go_roundw;case rel=>exact⟨k+1,by omega,by go_num,Wj,HG⟩
  simp[intOf]<;>omega
 have HN:Hid (bB ts t=false):=by show _=_;rw[<-HP.out,Vf (by omega)];rfl
 go_wp2;go_ret;exact⟨by rw[HN.out];rfl,V9.out⟩
theorem aj{p:Prop}(h:p):Hid p:=h
structure HW(w:World)(X8:Q02)(ts:Q05)(V5:Q02)(rows:Q08)(adK:Q02)(known:Q04)(Xl:Q02)(truth:Q04):Prop where
 tup:Sl w X8 ts
 ex:gZ w V5 rows
 kn:o8 w adK known
 tr:o8 w Xl truth
theorem HW.below{w w':af}{X8:Q02}{ts:Q05}{V5:Q02}{rows:Q08}{adK:Q02}{known:Q04}{Xl:Q02}{truth:Q04}(h:HW w X8 ts V5 rows adK known Xl truth)(hB:ae w w'):HW w' X8 ts V5 rows adK known Xl truth :=
 ⟨h.tup.below hB,h.ex.below hB,h.kn.below hB,h.tr.below hB⟩
def yw(a b c d:ByteArray):Bool:=a.toList==c.toList&&b.toList==d.toList
theorem iD(a b c d:bQ){v:Bool}(h:yw a b c d=v)(w:af):
  (binOp .eql 27 (.agg #[.string a,.string b]) (.agg #[.string c,.string d])).run prog w=.ok (.bool v) w:=by
 subst h;go_simp;unfold yw
 (repeat' split)<;>simp_all
theorem GK(a b c d:bQ){v:Bool}(h:yw a b c d=v)(w:af):
  (binOp .neq 27 (.agg #[.string a,.string b]) (.agg #[.string c,.string d])).run prog w=.ok (.bool (!v)) w:=by
 subst h;go_simp;unfold yw
 (repeat' split)<;>simp_all
theorem gZ.at0{w:af}{ad:Q02}{rs:Q08}(h:gZ w ad rs){k:Nat}(hk:k<rs.length):∃b off,ad=some ⟨b,off,none⟩/\yK w b (off+k*5) rs[k]/\b<w.heap.size/\rs[k].ok w:=by
 rcases h with h|⟨b',off',e,hb,hr,hok⟩
 ·rw[h]at hk;simp at hk
 exact⟨b',off',e,hr k hk,hb,hok _ (UR hk)⟩
theorem Sl.at0{w:af}{ad:Q02}{ts:Q05}(h:Sl w ad ts){k:Nat}(hk:k<ts.length):∃b off,ad=some ⟨b,off,none⟩/\SC w b (off+k*6) ts[k]/\b<w.heap.size:=by
 rcases h with h|⟨b',off',e,hb,hr⟩
 ·rw[h]at hk;simp at hk
 exact⟨b',off',e,hr k hk,hb⟩
theorem sK.at0{w:af}{ad:Q02}{zs:List Int}(h:sK w ad zs){k:Nat}(hk:k<zs.length):∃b off,ad=some ⟨b,off,none⟩/\w.cell? ⟨b,off+k,none⟩=some (.int .i64 zs[k])/\b<w.heap.size:=by
 rcases h with h|⟨b',off',e,hb,hr⟩
 ·rw[h]at hk;simp at hk
 exact⟨b',off',e,hr k hk,hb⟩
def vS(w:World)(f:Fc)(x:ER):World:=(w.alloc (.cells #[.string f.a,.string f.b,.string f.r,.string f.c,.string f.d] 29)).alloc (.cells #[.int .i64 x.e.kind,.slice x.adA x.e.allow.length x.capA,.string x.e.over,.string x.e.name,.slice x.adK x.e.kids.length x.capK] 39)
theorem eu(w:af)(f:Fc)(x:ER):ae w (vS w f x):=by
 unfold vS;exact((UV _ _).alloc (UU _) _).alloc (by simp) _
structure EnB(w:World)(B:Nat)(f:Fc)(x:ER):Prop where
 lt:B+1<w.heap.size
 f0:w.cell? ⟨B,0,none⟩=some (.string f.a)
 f1:w.cell? ⟨B,1,none⟩=some (.string f.b)
 f2:w.cell? ⟨B,2,none⟩=some (.string f.r)
 f3:w.cell? ⟨B,3,none⟩=some (.string f.c)
 f4:w.cell? ⟨B,4,none⟩=some (.string f.d)
 x0:w.cell? ⟨B+1,0,none⟩=some (.int .i64 x.e.kind)
 x1:w.cell? ⟨B+1,1,none⟩=some (.slice x.adA x.e.allow.length x.capA)
 x2:w.cell? ⟨B+1,2,none⟩=some (.string x.e.over)
 x3:w.cell? ⟨B+1,3,none⟩=some (.string x.e.name)
 x4:w.cell? ⟨B+1,4,none⟩=some (.slice x.adK x.e.kids.length x.capK)
theorem EnB.below{w w':af}{B:Nat}{f:Fc}{x:ER}(h:EnB w B f x)(hB:ae w w'):EnB w' B f x:=by
 have h0:B<w.heap.size:=by have:=h.lt;omega
 have c0:∀o,w'.cell? ⟨B,o,none⟩=w.cell? ⟨B,o,none⟩:=fun o=>hB.cell (p:=⟨B,o,none⟩) h0;have c1:∀o,w'.cell? ⟨B+1,o,none⟩=w.cell? ⟨B+1,o,none⟩:=fun o=>hB.cell (p:=⟨B+1,o,none⟩) h.lt;exact⟨UT h.lt hB.size,(c0 _).trans h.f0,(c0 _).trans h.f1,(c0 _).trans h.f2,(c0 _).trans h.f3,(c0 _).trans h.f4,(c1 _).trans h.x0,(c1 _).trans h.x1,(c1 _).trans h.x2,(c1 _).trans h.x3,(c1 _).trans h.x4⟩
theorem gp(w:af)(f:Fc)(x:ER):EnB (vS w f x) w.heap.size f x:=by
 unfold vS;constructor<;>simp
def AV(known:Q04)(f:Fc)(t:Tp):Bool:=(t.a.toList==f.a.toList&&t.b.toList==f.b.toList&&t.r.toList==f.r.toList)&&(if t.s.toList.isEmpty then t.c.toList==f.c.toList&&t.d.toList==f.d.toList else bB known ⟨t.c,t.d,t.s,f.c,f.d⟩)
theorem JB{ts:Q05}{k:Nat}(h:k<ts.length)(known:Q04)(f:Fc):eY (ts.drop k) known f=(AV known f ts[k] || eY (ts.drop (k+1)) known f):=by
 unfold eY;rw[Vl h];rfl
def DC(known:Q04)(over name:ByteArray)(f:Fc)(t:Tp):Bool:=(t.a.toList==f.a.toList&&t.b.toList==f.b.toList&&t.r.toList==over.toList)&&bB known ⟨t.c,t.d,name,f.c,f.d⟩
theorem JC{ts:Q05}{k:Nat}(h:k<ts.length)(known:Q04)(over name:bQ)(f:Fc):gm (ts.drop k) known over name f=(DC known over name f ts[k] || gm (ts.drop (k+1)) known over name f):=by
 unfold gm;rw[Vl h];rfl
theorem mZ{s:ByteArray}:(s.toList==[])=s.toList.isEmpty:=by cases s.toList<;>rfl
end Go.Proofs.YtajkkeikihhejaaGreat
