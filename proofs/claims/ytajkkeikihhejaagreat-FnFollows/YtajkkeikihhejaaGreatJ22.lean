/- Contracts of the library's search in a slice of objects, as the program calls it; an object put behind a list that lacks it. -/
import Derived.Test.YtajkkeikihhejaaGreatSq
import Derived.Test.YtajkkeikihhejaaGreatJ14
import Derived.Test.YtajkkeikihhejaaGreatJ17
open Go.Proofs.Tryz
set_option maxHeartbeats 80000000
namespace Go.Proofs.YtajkkeikihhejaaGreat
set_option maxRecDepth 100000
set_option linter.unusedVariables false
open ChangeShapes WideShapes ChangeAt RowKit
open Pl
theorem wu{x y:Al}:jV x y=true↔x=y:=by
 unfold jV;simp only[UW,beq_iff_eq];constructor
 ·rintro⟨h0,h1⟩;obtain⟨xa,xb⟩:=x;obtain⟨ya,yb⟩:=y;simp only at h0 h1;rw[Gy h0,Gy h1]
 rintro rfl;simp
theorem DL(x y:Al):jV x y=jV y x:=by
 rw[Vd,wu,wu];exact⟨Eq.symm,Eq.symm⟩
theorem Pw(x y:Al){v:Bool}(h:jV x y=v)(w:af):
  (binOp .eql 27 (.agg #[.string x.t,.string x.s]) (.agg #[.string y.t,.string y.s])).run prog w=.ok (.bool v) w:=by
 subst h;go_simp;unfold jV
 (repeat' split)<;>simp_all
def mP(xs:Q0a)(o:Al):Bool:=xs.any fun x=>jV x o
theorem Px{xs:Q0a}{o:Al}:mP xs o=true↔o∈xs:=by
 unfold mP;rw[Vk];constructor
 ·rintro⟨x,hx,e⟩;rw[<-wu.1 e];exact hx
 intro h;exact⟨o,h,wu.2 rfl⟩
theorem MO{xs:Q0a}{o:Al}{k:Nat}(h:k<xs.length):mP (xs.take (k+1)) o=(mP (xs.take k) o || jV xs[k] o):=by
 rw[UX h];unfold mP;rw[List.any_append];simp only[VY,List.any_nil,Bool.or_false]
theorem Py{xs:Q0a}{o:Al}{k:Nat}(h:k<xs.length)(he:jV xs[k] o=true):mP xs o=true:=Vk.2 ⟨xs[k],UR h,he⟩
theorem JO(ad:Q02)(cap:Nat)(ts:Q0a)(t:Al)(w:af)(hlen:ts.length<=1048576)(hs:lq w ad ts):
  Calls prog 226 #[.slice ad ts.length cap,.agg #[.string t.t,.string t.s]] w fun e w'=>(∃r:Int,e=.returned (.int .i64 r)/\decide (0<=r)=mP ts t)/\ae w w':=by
 obtain⟨W,hW⟩:∃W,W=w.alloc (.cells #[.string t.t,.string t.s] 27):=⟨_,rfl⟩;have HB0:Hid (ae w W):=by show Below _ _ _;rw[hW];exact(UV w.heap.size w).alloc (UU _) _
 have hz:w.heap.size<W.heap.size:=by rw[hW];simp
 have b0:W.cell? ⟨w.heap.size,0,none⟩=some (.string t.t):=by rw[hW];simp
 have b1:W.cell? ⟨w.heap.size,1,none⟩=some (.string t.s):=by rw[hW];simp
 have HS:=aC (hs.below HB0.out);clear hs;go_enter func226,ntmps226;go_wp2_with fail;rw[<-hW];clear hW;go_loopw[8] (fun i wr=>∃k:Nat,k<=ts.length/\i=.int .i64 k/\Hid (mP (ts.take k) t=false)/\ae W wr) (fun i _=>ts.length-(intOf i).toNat);case atStart=>exact⟨0,UY _,rfl,rfl,UV _ _⟩
 obtain⟨k,hk,rfl,HP,hB⟩:=hrel;have a0:=aJ hB hz b0;have a1:=aJ hB hz b1;by_cases hlt:k<ts.length
 ·rcases HS.out.below hB with hnil|⟨b,off,rfl,hb,hr⟩
  ·rw[hnil]at hlt;simp at hlt
  obtain⟨t0,t1⟩:=hr k hlt;have hk1:=bG k;have hk2:(k:Int)<(ts.length:Int):=by omega
  clear hr;cases hq:jV t ts[k];case true=>
   have HE:=Pw t ts[k] hq;have HN:Hid (mP ts t=true):=Py hlt (by rw[DL];exact hq);go_wp2_with fail;go_quiet (fail);go_wp2;go_ret;exact⟨⟨_,rfl,by rw[HN.out];simp⟩,HB0.out.trans (below_drewN (hB.mono HB0.out.size) _)⟩
  have HE:=Pw t ts[k] hq;have Wj:Hid (mP (ts.take (k+1)) t=false):=by show _=_;rw[MO hlt,HP.out,DL,hq];rfl
  go_wp2_with fail;go_quiet (fail);go_wp2;go_roundw;case rel=>exact⟨k+1,by omega,by go_num,Wj,below_drewN hB _⟩
  simp[intOf]<;>omega
 obtain rfl:k=ts.length:=by omega
 have HN:Hid (mP ts t=false):=by have:=HP.out;rw[Va]at this;exact this
 go_wp2;go_ret;exact⟨⟨-1,rfl,by rw[HN.out];rfl⟩,HB0.out.trans (hB.mono HB0.out.size)⟩
theorem Cs(ad:Q02)(cap:Nat)(ts:Q0a)(t:Al)(w:af)(hlen:ts.length<=1048576)(hs:lq w ad ts):
  Calls prog 198 #[.slice ad ts.length cap,.agg #[.string t.t,.string t.s]] w fun e w'=>e=.returned (.bool (mP ts t))/\ae w w':=by
 have HB0:Hid (ae w (w.alloc (.cells #[.string t.t,.string t.s] 27))):=(UV w.heap.size w).alloc (UU _) _;have HS:=aG hs;clear hs;go_enter func198,ntmps198;go_wp2_with fail;refine(JO ad cap ts t _ hlen (HS.out.below HB0.out)).mono ?_;rintro e w1 ⟨⟨r,rfl,hr⟩,hb1⟩;have HR:=aG hr;have HB1:=aG (HB0.out.trans (hb1.mono HB0.out.size));clear hr hb1;go_wp2;go_ret;exact⟨ah HR.out,HB1.out⟩
def bz(xs:Q0a)(o:Al):List Al:=if mP xs o then xs else xs++[o]
theorem Bj:∃i,prog.info? 27=some i/\i.zero=some (.agg #[.string ⟨#[]⟩,.string ⟨#[]⟩])/\i.size=2/\i.bytes=32 :=
 info_parts (P:=prog) (e:=27) (z:=.agg #[.string ⟨#[]⟩,.string ⟨#[]⟩]) (size:=2) (bytes:=32) (by kernel_rfl)
theorem kK{w:af}{base:Nat}{v:Value}{xs:Q0a}(h:w.ownsRow base 27 2 v xs.length (pairs xs)):∃ad cap,v=.slice ad xs.length cap/\lq w ad xs:=by
 rcases h.2 with⟨rfl,h0⟩|⟨g,cap,cur,rfl,hbg,hg,hnc,-⟩
 ·exact⟨none,0,by rw[h0],.inl (Vb.1 h0)⟩
 refine⟨_,cap,rfl,.inr ⟨g,0,rfl,(h.lt g rfl).2,fun i hi=>?_⟩⟩;obtain⟨h0,h1⟩:=uM xs i hi;have hl:=rD xs;refine⟨?_,?_⟩
 ·rw[h.cellAt (0+i*2) (by omega),Vj];exact h0
 rw[h.cellAt (0+i*2+1) (by omega),Vj];exact h1
theorem mq(B:Nat)(v:Value)(xs:Q0a)(o:Al)(w:af)(hlen:xs.length<=1000)(hB:B<=w.heap.size)(hown:w.ownsRow B 27 2 v xs.length (pairs xs)):
  Calls prog 143 #[v,.agg #[.string o.t,.string o.s]] w fun e w'=>∃v',e=.returned v'/\w'.ownsRow B 27 2 v' (bz xs o).length (pairs (bz xs o))/\Aside w v w' v'/\∀B',(∀g,v.ownBlock=some g->B'<=g)->B'<=w.heap.size->Below B' w w':=by
 obtain⟨iO,h0,h1,h2,h3⟩:=Bj;have HIO:=aG (And.intro h0 (And.intro h1 (And.intro h2 h3)));obtain⟨ad,cap,rfl,hsl⟩:=kK hown;obtain⟨W,hW⟩:∃W,W=w.alloc (.cells #[.string o.t,.string o.s] 27):=⟨_,rfl⟩;have HB0:Hid (ae w W):=by show Below _ _ _;rw[hW];exact(UV w.heap.size w).alloc (UU _) _
 have hz:w.heap.size<W.heap.size:=by rw[hW];simp
 have b0:W.cell? ⟨w.heap.size,0,none⟩=some (.string o.t):=by rw[hW];simp
 have b1:W.cell? ⟨w.heap.size,1,none⟩=some (.string o.s):=by rw[hW];simp
 have Yu:=aG hsl;have HO:=aG hown;clear hsl hown h0 h1 h2 h3;go_enter func143,ntmps143;go_wp2_with fail;rw[<-hW];clear hW;refine(Cs ad cap xs o _ (by omega) (Yu.out.below HB0.out)).mono ?_;rintro e w1 ⟨rfl,hb1⟩;have HB1:=aG (HB0.out.trans (hb1.mono HB0.out.size));have c0:=aJ hb1 hz b0;have c1:=aJ hb1 hz b1;have Wp:=aG (aY HO.out HB1.out);have HA1:Hid (Aside w (.slice ad xs.length cap) w1 (.slice ad xs.length cap)):=Aside.below HB1.out;clear hb1 b0 b1;cases hh:mP xs o;case true=>
  have HW:Hid (bz xs o=xs):=by show _=_;unfold bz;rw[hh];rfl
  go_wp2;go_ret;exact⟨_,rfl,by rw[HW.out];exact Wp.out,HA1.out,fun B' _ hB'=>HB1.out.mono hB'⟩
 have HW:Hid (bz xs o=xs++[o]):=by show _=_;unfold bz;rw[hh];rfl
 obtain⟨W2,hW2⟩:∃W2,W2=w1.alloc (.cells #[.string o.t,.string o.s] 27):=⟨_,rfl⟩;have V7:Hid (W2.ownsRow B 27 2 (.slice ad xs.length cap) xs.length (pairs xs)):=by show World.ownsRow _ _ _ _ _ _ _;rw[hW2];exact Wp.out.alloc _
 have HA2:Hid (Aside w (.slice ad xs.length cap) W2 (.slice ad xs.length cap)):=by show Aside _ _ _ _;rw[hW2];exact HA1.out.trans (Aside.below ((UV _ _).alloc (UU _) _))
 have HBW2:Hid (ae w W2):=by show Below _ _ _;rw[hW2];exact HB1.out.alloc HB1.out.size _
 have YG:Hid (∀j u,[Value.string o.t,.string o.s][j]?=some u->W2.cell? ((⟨w1.heap.size,0,none⟩:Addr).add j)=some u):=fun j u hu=>by
  rw[hW2]
  match j,hu with
  | 0,hu=>simp at hu;subst hu;simp[Addr.add]
  | 1,hu=>simp at hu;subst hu;simp[Addr.add]
 have hsz2:B<=W2.heap.size:=by have:=HB1.out.size;rw[hW2];simp;omega
 clear hh;go_wp2_with(at_builtin;rw[<-hW2];clear hW2;refine wpList_append_own_at _ rfl _ _ 49 rfl B 27 iO (.agg #[.string ⟨#[]⟩,.string ⟨#[]⟩]) 2 32 underlying49 HIO.out.1 HIO.out.2.1 HIO.out.2.2.1 HIO.out.2.2.2 rfl (by decide) _ xs.length (pairs xs) rfl V7.out ⟨w1.heap.size,0,none⟩ 1 1 [.string o.t,.string o.s] rfl rfl YG.out (by simp[Value.oneCell']) (by unfold maxLen;omega) (by omega) hsz2 ?_);intro v' w3 hown hgr _ hat;have HE:Hid (w3.ownsRow B 27 2 v' (bz xs o).length (pairs (bz xs o))):=by
  show World.ownsRow _ _ _ _ _ _ _;rw[HW.out,U2];have:pairs (xs++[o])=pairs xs++[.string o.t,.string o.s]:=by simp[pairs]
  rw[this];exact hown
 have HA3:Hid (Aside w (.slice ad xs.length cap) w3 v'):=HA2.out.trans (Aside.app hgr hat);have HBL:Hid (∀B',(∀g,(Value.slice ad xs.length cap).ownBlock=some g->B'<=g)->B'<=w.heap.size->Below B' w w3):=fun B' hv hB'=>(HBW2.out.mono hB').grown hgr (U0 hB' HBW2.out.size) hv;clear hown hgr hat;go_wp2;go_ret;exact⟨_,rfl,HE.out,HA3.out,HBL.out⟩
open Maps
def fU(xs:Q0a)(t:Tp):List Al:=bz (bz xs ⟨t.a,t.b⟩) ⟨t.c,t.d⟩
def dh(xs:Q0a)(t:Tp):List Al:=if t.s.toList==[] then bz xs ⟨t.c,t.d⟩ else xs
def dM(ts:Q05):List Al:=ts.foldl fU []
def bP(ts:Q05):List Al:=ts.foldl dh []
theorem Bl(ts:Q05)(t:Tp):dM (ts++[t])=fU (dM ts) t:=by simp[dM]
theorem yx(ts:Q05)(t:Tp):bP (ts++[t])=dh (bP ts) t:=by simp[bP]
theorem om(xs:Q0a)(o:Al):(bz xs o).length<=xs.length+1:=by
 unfold bz;split
 ·omega
 simp
theorem qP(xs:Q0a)(t:Tp):(fU xs t).length<=xs.length+2:=by
 unfold fU;have h1:=om (bz xs ⟨t.a,t.b⟩) ⟨t.c,t.d⟩;have h2:=om xs ⟨t.a,t.b⟩;omega
theorem qQ(xs:Q0a)(t:Tp):(dh xs t).length<=xs.length+1:=by
 unfold dh;split
 ·exact om _ _
 omega
def MP(t:Tp):K3:=(t.a,t.b,t.r)
def bn(ts:Q05):List (K3×Tp):=ts.map fun t=>(MP t,t)
theorem JP(ts:Q05)(t:Tp):bn (ts++[t])=bn ts++[(MP t,t)]:=by simp[bn]
structure DatT(w:World)(D br bp:Nat)(tab:Value)(n1:Int)(E:List (K3×Tp))(xo xu:Q0a)(np:Nat)(Mp:K3->Option Value)(vo vu:Value):Prop where
 gt:bp<D
 lt:D<w.heap.size
 kind:∃cur,w.heap[D]?=some (.cells cur 168 (0,0))
 c0:w.cell? ⟨D,0,none⟩=some tab
 c1:w.cell? ⟨D,1,none⟩=some (.int .i64 n1)
 c2:w.cell? ⟨D,2,none⟩=some (.map (some br))
 c3:w.cell? ⟨D,3,none⟩=some (.map (some bp))
 c4:w.cell? ⟨D,4,none⟩=some vo
 c5:w.cell? ⟨D,5,none⟩=some vu
 told:G.Grp qA prog 223 46 6 Tp.row w bp np Mp E
 objs:w.ownsRow (bp+1) 27 2 vo xo.length (pairs xo)
 users:w.ownsRow (bp+1) 27 2 vu xu.length (pairs xu)
 apart:∀g,vo.ownBlock=some g->vu.ownBlock≠some g
theorem dN{w:af}{base size n g:Nat}{e e':TypeId}{v:Value}{xs:Q03}{cur:Array Value}(h:w.ownsRow base e size v n xs)(hg:v.ownBlock=some g)(hc:w.heap[g]?=some (.cells cur e' (0,0))):e=e':=by
 rcases h.2 with⟨rfl,-⟩|⟨g',cap,cur',rfl,-,hg',-⟩
 ·simp[Value.ownBlock]at hg
 have e1:g'=g:=by simpa[Value.ownBlock] using hg
 rw[e1,hc]at hg';injection hg' with hg';injection hg' with _ h2;exact h2.symm
theorem Fe{w:af}{base size n g:Nat}{e:TypeId}{v:Value}{xs:Q03}{es:Array MapEntry}{c:Nat}(h:w.ownsRow base e size v n xs)(hg:v.ownBlock=some g)(hc:w.heap[g]?=some (.map es c)):False:=by
 rcases h.2 with⟨rfl,-⟩|⟨g',cap,cur',rfl,-,hg',-⟩
 ·simp[Value.ownBlock]at hg
 have e1:g'=g:=by simpa[Value.ownBlock] using hg
 rw[e1,hc]at hg';cases hg'
theorem eB{w w':af}{base size n:Nat}{e:TypeId}{v:Value}{xs:Q03}(h:w.ownsRow base e size v n xs)(hb:∀g,v.ownBlock=some g->w'.heap[g]?=w.heap[g]?):w'.ownsRow base e size v n xs:=by
 refine⟨h.1,?_⟩;rcases h.2 with h0|⟨g,cap,cur,rfl,h1,h2,h3⟩
 ·exact .inl h0
 exact .inr ⟨g,cap,cur,rfl,h1,(hb g rfl).trans h2,h3⟩
theorem jN{w:af}{base size n g:Nat}{e:TypeId}{v:Value}{xs:Q03}(h:w.ownsRow base e size v n xs)(hg:v.ownBlock=some g):∃cur,w.heap[g]?=some (.cells cur e (0,0)):=by
 rcases h.2 with⟨rfl,-⟩|⟨g',cap,cur',rfl,-,hg',-⟩
 ·simp[Value.ownBlock]at hg
 have e1:g'=g:=by simpa[Value.ownBlock] using hg
 exact⟨cur',by rw[<-e1];exact hg'⟩
theorem ww{w:af}{bp np:Nat}{Mp:K3->Option Value}{E:List (K3×Tp)}(h:G.Grp qA prog 223 46 6 Tp.row w bp np Mp E){k:K3}{v:Value}(hk:Mp k=some v):∃n xs,w.ownsRow (bp+1) 46 6 v n xs:=by
 rcases h.row k with⟨e,-⟩|⟨v',e,ho⟩
 ·rw[e]at hk;cases hk
 rw[e]at hk;injection hk with hk;subst hk;exact⟨_,_,ho⟩
theorem G6{w:af}{bp np g:Nat}{Mp:K3->Option Value}{E:List (K3×Tp)}{e:TypeId}{cur:Array Value}(h:G.Grp qA prog 223 46 6 Tp.row w bp np Mp E)(hc:w.heap[g]?=some (.cells cur e (0,0)))(hne:(46:TypeId)≠e):G.FreeB Mp g:=fun k v hk hg=>by
 obtain⟨n,xs,ho⟩:=ww h hk;exact hne (dN ho hg hc)
theorem wy{w w':af}{bp np:Nat}{Mp:K3->Option Value}{E:List (K3×Tp)}(h:G.Grp qA prog 223 46 6 Tp.row w bp np Mp E)(hm:w'.heap[bp]?=w.heap[bp]?)(hr:∀k v g,Mp k=some v->v.ownBlock=some g->w'.heap[g]?=w.heap[g]?):G.Grp qA prog 223 46 6 Tp.row w' bp np Mp E where
 map:=h.map.of_block hm
 row k:=by
  rcases h.row k with e|⟨v,e,ho⟩
  ·exact .inl e
  exact .inr ⟨v,e,eB ho fun g hg=>hr k v g e hg⟩
 apart:=h.apart
section
variable  {w w':World}{D br bp:Nat}{tab:Value}{n1:Int}{E:List (K3×Tp)}{xo xu:Q0a}{np:Nat}{Mp:K3->Option Value}{vo vu:Value}
theorem DatT.below(h:DatT w D br bp tab n1 E xo xu np Mp vo vu)(hb:ae w w'):DatT w' D br bp tab n1 E xo xu np Mp vo vu where
 gt:=h.gt
 lt:=UT h.lt hb.size
 kind:=by obtain⟨cur,e⟩:=h.kind;exact⟨cur,(hb.block D h.lt).trans e⟩
 c0:=(hb.cell (p:=⟨D,0,none⟩) h.lt).trans h.c0
 c1:=(hb.cell (p:=⟨D,1,none⟩) h.lt).trans h.c1
 c2:=(hb.cell (p:=⟨D,2,none⟩) h.lt).trans h.c2
 c3:=(hb.cell (p:=⟨D,3,none⟩) h.lt).trans h.c3
 c4:=(hb.cell (p:=⟨D,4,none⟩) h.lt).trans h.c4
 c5:=(hb.cell (p:=⟨D,5,none⟩) h.lt).trans h.c5
 told:=h.told.below hb
 objs:=aY h.objs hb
 users:=aY h.users hb
 apart:=h.apart
theorem DatT.tell(h:DatT w D br bp tab n1 E xo xu np Mp vo vu){Mp':K3->Option Value}{E':List (K3×Tp)}{np':Nat}(hg:G.Grp qA prog 223 46 6 Tp.row w' bp np' Mp' E')(hs:G.Stl w Mp w' Mp' bp):DatT w' D br bp tab n1 E' xo xu np' Mp' vo vu:=by
 have hD:w'.heap[D]?=w.heap[D]?:=by
  obtain⟨cur,e⟩:=h.kind;exact hs.block D h.lt (by have:=h.gt;omega) (G6 h.told e (by decide))
 have hc:∀o,w'.cell? ⟨D,o,none⟩=w.cell? ⟨D,o,none⟩:=fun o=>Vh (w:=w) (a:=⟨D,o,none⟩) hD;have hO:∀{v:Value} {n:Nat} {xs:Q03},w.ownsRow (bp+1) 27 2 v n xs->w'.ownsRow (bp+1) 27 2 v n xs:=fun {v n xs} ho=>eB ho fun g hg=>by
  obtain⟨cur,e⟩:=jN ho hg;have:=ho.lt g hg;exact hs.block g this.2 (by omega) (G6 h.told e (by decide))
 exact⟨h.gt,UT h.lt hs.size,by obtain⟨cur,e⟩:=h.kind;exact⟨cur,hD.trans e⟩,(hc _).trans h.c0,(hc _).trans h.c1,(hc _).trans h.c2,(hc _).trans h.c3,(hc _).trans h.c4,(hc _).trans h.c5,hg,hO h.objs,hO h.users,h.apart⟩
theorem DatT.newO(h:DatT w D br bp tab n1 E xo xu np Mp vo vu){Zv:Value}{xo':Q0a}(ho:w'.ownsRow (bp+1) 27 2 Zv xo'.length (pairs xo'))(ha:Aside w vo w' Zv):DatT (w'.setCell ⟨D,4,none⟩ Zv) D br bp tab n1 E xo' xu np Mp Zv vu:=by
 obtain⟨cur,hk⟩:=h.kind;have Zw:vo.ownBlock≠some D:=fun e=>absurd (dN h.objs e hk) (by decide);have hD:w'.heap[D]?=w.heap[D]?:=ha.block D h.lt Zw;have hc:∀o,w'.cell? ⟨D,o,none⟩=w.cell? ⟨D,o,none⟩:=fun o=>Vh (w:=w) (a:=⟨D,o,none⟩) hD;have hc2:∀o,o≠4->(w'.setCell ⟨D,4,none⟩ Zv).cell? ⟨D,o,none⟩=w.cell? ⟨D,o,none⟩:=fun o ne=>(kX (by omega)).trans (hc o);have hDn:Zv.ownBlock≠some D:=ha.apart h.lt Zw;have hne:∀g,g≠D->(w'.setCell ⟨D,4,none⟩ Zv).heap[g]?=w'.heap[g]?:=fun g e=>heap_setCell_other w' ⟨D,4,none⟩ g Zv e;have hbp:bp<w.heap.size:=by have:=h.gt;have:=h.lt;omega
 have hrow:∀k v g,Mp k=some v->v.ownBlock=some g->(w'.setCell ⟨D,4,none⟩ Zv).heap[g]?=w.heap[g]?:=fun k v g hm hg=>by
  obtain⟨n,xs,hr⟩:=ww h.told hm;obtain⟨cr,er⟩:=jN hr hg;rw[hne g (fun e=>absurd (dN hr (e ▸ hg) hk) (by decide))];exact ha.block g (hr.lt g hg).2 (fun e=>absurd (dN h.objs e er) (by decide))
 refine⟨h.gt,by simpa using UT h.lt ha.size,⟨_,heap_setCell_same w' D 4 cur _ Zv (hD.trans hk)⟩,(hc2 0 (by omega)).trans h.c0,(hc2 1 (by omega)).trans h.c1,(hc2 2 (by omega)).trans h.c2,(hc2 3 (by omega)).trans h.c3,OY ((hc 4).trans h.c4),(hc2 5 (by omega)).trans h.c5,wy h.told ?_ hrow,eB ho fun g hg=>hne g fun e=>hDn (e ▸ hg),eB h.users fun g hg=>?_,fun g hg hu=>?_⟩
 ·rw[hne bp (by have:=h.gt;omega)];exact ha.block bp hbp fun e=>by have:=(h.objs.lt bp e).1;omega
 ·rw[hne g (fun e=>absurd (dN h.users (e ▸ hg) hk) (by decide))];exact ha.block g (h.users.lt g hg).2 fun e=>h.apart g e hg
 rcases ha.own with e|⟨g',e,hg'⟩
 ·exact h.apart g (e ▸ hg) hu
 rw[hg]at e;injection e with e;have:=(h.users.lt g hu).2;omega
theorem DatT.newU(h:DatT w D br bp tab n1 E xo xu np Mp vo vu){Zx:Value}{xu':Q0a}(ho:w'.ownsRow (bp+1) 27 2 Zx xu'.length (pairs xu'))(ha:Aside w vu w' Zx):DatT (w'.setCell ⟨D,5,none⟩ Zx) D br bp tab n1 E xo xu' np Mp vo Zx:=by
 obtain⟨cur,hk⟩:=h.kind;have Zw:vu.ownBlock≠some D:=fun e=>absurd (dN h.users e hk) (by decide);have hD:w'.heap[D]?=w.heap[D]?:=ha.block D h.lt Zw;have hc:∀o,w'.cell? ⟨D,o,none⟩=w.cell? ⟨D,o,none⟩:=fun o=>Vh (w:=w) (a:=⟨D,o,none⟩) hD;have hc2:∀o,o≠5->(w'.setCell ⟨D,5,none⟩ Zx).cell? ⟨D,o,none⟩=w.cell? ⟨D,o,none⟩:=fun o ne=>(kX (by omega)).trans (hc o);have hDn:Zx.ownBlock≠some D:=ha.apart h.lt Zw;have hne:∀g,g≠D->(w'.setCell ⟨D,5,none⟩ Zx).heap[g]?=w'.heap[g]?:=fun g e=>heap_setCell_other w' ⟨D,5,none⟩ g Zx e;have hbp:bp<w.heap.size:=by have:=h.gt;have:=h.lt;omega
 have hrow:∀k v g,Mp k=some v->v.ownBlock=some g->(w'.setCell ⟨D,5,none⟩ Zx).heap[g]?=w.heap[g]?:=fun k v g hm hg=>by
  obtain⟨n,xs,hr⟩:=ww h.told hm;obtain⟨cr,er⟩:=jN hr hg;rw[hne g (fun e=>absurd (dN hr (e ▸ hg) hk) (by decide))];exact ha.block g (hr.lt g hg).2 (fun e=>absurd (dN h.users e er) (by decide))
 refine⟨h.gt,by simpa using UT h.lt ha.size,⟨_,heap_setCell_same w' D 5 cur _ Zx (hD.trans hk)⟩,(hc2 0 (by omega)).trans h.c0,(hc2 1 (by omega)).trans h.c1,(hc2 2 (by omega)).trans h.c2,(hc2 3 (by omega)).trans h.c3,(hc2 4 (by omega)).trans h.c4,OY ((hc 5).trans h.c5),wy h.told ?_ hrow,eB h.objs fun g hg=>?_,eB ho fun g hg=>hne g fun e=>hDn (e ▸ hg),fun g hg hu=>?_⟩
 ·rw[hne bp (by have:=h.gt;omega)];exact ha.block bp hbp fun e=>by have:=(h.users.lt bp e).1;omega
 ·rw[hne g (fun e=>absurd (dN h.objs (e ▸ hg) hk) (by decide))];exact ha.block g (h.objs.lt g hg).2 fun e=>h.apart g hg e
 rcases ha.own with e|⟨g',e,hg'⟩
 ·exact h.apart g hg (e ▸ hu)
 rw[hu]at e;injection e with e;have:=(h.objs.lt g hg).2;omega
end
theorem Pz:∃i,prog.info? 46=some i/\i.zero=some (.agg #[.string ⟨#[]⟩,.string ⟨#[]⟩,.string ⟨#[]⟩,.string ⟨#[]⟩,.string ⟨#[]⟩,.string ⟨#[]⟩])/\i.size=6/\i.bytes=96 :=
 info_parts (P:=prog) (e:=46) (z:=.agg #[.string ⟨#[]⟩,.string ⟨#[]⟩,.string ⟨#[]⟩,.string ⟨#[]⟩,.string ⟨#[]⟩,.string ⟨#[]⟩]) (size:=6) (bytes:=96) (by kernel_rfl)
theorem Bn(u:af):(zeroValue 25).run prog u=.ok (.slice none 0 0) u:=by kernel_rfl
theorem DN{w:af}{bp np:Nat}{Mp:K3->Option Value}{E:List (K3×Tp)}(h:G.Grp qA prog 223 46 6 Tp.row w bp np Mp E)(k:K3):w.ownsRow (bp+1) 46 6 ((Mp k).getD (.slice none 0 0)) (G.lookL E k).length (G.flatG Tp.row (G.lookL E k)):=by
 rcases h.row k with⟨e,e2⟩|⟨v,e,ho⟩
 ·rw[e,e2];exact World.ownsRow_nil _ _ _ _
 rw[e];exact ho
theorem news_of_block{w:af}{g:Nat}{cs:Array Value}{T:TypeId}(h:w.heap[g]?=some (.cells cs T (0,0))):∀j u,cs.toList[j]?=some u->w.cell? ((⟨g,0,none⟩:Addr).add j)=some u:=by
 intro j u hu;have e:(⟨g,0,none⟩:Addr).add j=⟨g,j,none⟩:=by
  unfold Addr.add;by_cases hj:j=0
  ·subst hj;simp
  simp[hj]
 rw[e];simp[World.cell?,h];simpa using hu
theorem uE.block{w w':af}{g:Nat}{t:Tp}(h:uE w g t)(e:w'.heap[g]?=w.heap[g]?)(hl:g<w'.heap.size):uE w' g t:=by
 obtain⟨h0,h1,h2,h3,h4,h5,_⟩:=h;have hc:∀o,w'.cell? ⟨g,o,none⟩=w.cell? ⟨g,o,none⟩:=fun o=>Vh (w:=w) (a:=⟨g,o,none⟩) e;exact⟨(hc _).trans h0,(hc _).trans h1,(hc _).trans h2,(hc _).trans h3,(hc _).trans h4,(hc _).trans h5,hl⟩
theorem gX{w:af}{g:Nat}{cs:Array Value}{T:TypeId}(h:w.heap[g]?=some (.cells cs T (0,0)))(o:Nat):w.frozen? ⟨g,o,none⟩=false:=by
 simp[World.frozen?,h]
theorem uE.aside{w w':af}{g base n:Nat}{t:Tp}{v v':Value}{xs:Q03}(h:uE w g t)(hc:∃cur,w.heap[g]?=some (.cells cur 46 (0,0)))(ho:w.ownsRow base 27 2 v n xs)(ha:Aside w v w' v'):uE w' g t/\∃cur,w'.heap[g]?=some (.cells cur 46 (0,0)):=by
 obtain⟨cur,e⟩:=hc;have hl:=h.2.2.2.2.2.2;have hb:=ha.block g hl fun hg=>absurd (dN ho hg e) (by decide);exact⟨h.block hb (UT hl ha.size),cur,hb.trans e⟩
theorem PD(D br bp:Nat)(tab:Value)(n1:Int)(E:List (K3×Tp))(xo xu:Q0a)(np:Nat)(Mp:K3->Option Value)(vo vu:Value)(t:Tp)(w:af)(hd:DatT w D br bp tab n1 E xo xu np Mp vo vu)(hnp:np<=1000)(hE:E.length<=1000)(hxo:xo.length<=500)(hxu:xu.length<=500)(ht:t.fits):
  Calls prog 101 #[.pointer (some ⟨D,0,none⟩),.agg #[.string t.a,.string t.b,.string t.r,.string t.c,.string t.d,.string t.s]] w fun e w'=>e=.returned (.tuple #[])/\(∃Mp' Zv Zx,DatT w' D br bp tab n1 (E++[(MP t,t)]) (fU xo t) (dh xu t) (np+1) Mp' Zv Zx)/\Below bp w w':=by
 obtain⟨iT,h0,h1,h2,h3⟩:=Pz;have HIT:=aG (And.intro h0 (And.intro h1 (And.intro h2 h3)));obtain⟨W,hW⟩:∃W,W=(w.alloc (.cells #[.string t.a,.string t.b,.string t.r,.string t.c,.string t.d,.string t.s] 46)).alloc (.cells #[.string t.a,.string t.b,.string t.r] 223):=⟨_,rfl⟩;have V9:Hid (ae w W):=by show Below _ _ _;rw[hW];exact((UV _ _).alloc (UU _) _).alloc (by simp) _
 have hWs:W.heap.size=w.heap.size+2:=by rw[hW];simp
 have HT6:Hid (uE W w.heap.size t):=by show uE _ _ _;rw[hW];refine⟨?_,?_,?_,?_,?_,?_,?_⟩<;>first|(simp;done)|(simp;omega)
 have HK3:Hid (W.cell? ⟨w.heap.size+1,0,none⟩=some (.string t.a)/\W.cell? ⟨w.heap.size+1,1,none⟩=some (.string t.b)/\W.cell? ⟨w.heap.size+1,2,none⟩=some (.string t.r)):=by show _/\_;rw[hW];refine⟨?_,?_,?_⟩<;>simp
 have HD:=aG (hd.below V9.out);have hDl:D<w.heap.size:=hd.lt;have HFB:Hid (G.FreeB Mp w.heap.size):=hd.told.fresh (UU _);have Wx:Hid (W.heap[w.heap.size]?=some (.cells #[.string t.a,.string t.b,.string t.r,.string t.c,.string t.d,.string t.s] 46 (0,0))):=by show _=_;rw[hW,Below.heap_alloc _ _ _ (by simp)];exact heap_alloc_new w _
 have hbD:bp<D:=hd.gt;have HLL:Hid ((G.lookL E (MP t)).length<=1000):=U0 (VS _ _) hE;obtain⟨row0,hr0⟩:∃r,r=(Mp (MP t)).getD (.slice none 0 0):=⟨_,rfl⟩;obtain⟨nn,hnn⟩:∃n,n=(G.lookL E (MP t)).length:=⟨_,rfl⟩;obtain⟨xs,hxs⟩:∃x,x=G.flatG Tp.row (G.lookL E (MP t)):=⟨_,rfl⟩;have Xo:=aG hr0;have XV:=aG hnn;have Zb:=aG hxs;have hnl:nn<=1000:=by rw[hnn];exact HLL.out
 have Xa:Hid (∀W0:World,ae W W0->W0.ownsRow (bp+1) 46 6 row0 nn xs):=fun W0 hb=>by rw[hr0,hnn,hxs];exact DN (HD.out.told.below hb) _
 have HKEY:Hid (∃kl,keyOf prog 223 (qA (MP t))=some kl):=uU _ ht.1 ht.2.1 ht.2.2.1;clear h0 h1 h2 h3 hr0 hnn hxs hd hE;obtain⟨C2,hC2⟩:∃C:Nat->Value,C=fun n=>(Value.pointer (some ⟨D,0,none⟩)::.pointer (some ⟨D,0,none⟩)::.pointer (some ⟨D,3,none⟩)::.map (some bp)::.agg #[.string t.a,.string t.b,.string t.r]::.agg #[.string t.a,.string t.b,.string t.r,.string t.c,.string t.d,.string t.s]::[]).getD n undef:=⟨_,rfl⟩;have WV:Hid (C2 0=Value.pointer (some ⟨D,0,none⟩)/\C2 1=Value.pointer (some ⟨D,0,none⟩)/\C2 2=Value.pointer (some ⟨D,3,none⟩)/\C2 3=Value.map (some bp)/\C2 4=Value.agg #[.string t.a,.string t.b,.string t.r]/\C2 5=Value.agg #[.string t.a,.string t.b,.string t.r,.string t.c,.string t.d,.string t.s]):=by show _/\_;rw[hC2];exact⟨rfl,rfl,rfl,rfl,rfl,rfl⟩
 clear hC2;go_enter func101,ntmps101;go_wp2_with fail;rw[<-hW];clear hW;refine pR 11 (fun _=>undef) (fun fq=>{ tmps:=List.toArray (Value.pointer (some ⟨D,0,none⟩)::.agg #[.string t.a,.string t.b,.string t.r,.string t.c,.string t.d,.string t.s]::undef::.pointer (some ⟨w.heap.size,0,none⟩)::.pointer (some ⟨w.heap.size+1,0,none⟩)::.pointer (some ⟨w.heap.size,0,none⟩)::.agg #[.string t.a,.string t.b]::.pointer (some ⟨w.heap.size,2,none⟩)::.string t.r::.agg #[.string t.a,.string t.b,.string t.r]::(fq 0)::(fq 1)::(fq 2)::(fq 3)::(fq 4)::(fq 8)::(fq 5)::(fq 6)::(fq 7)::(fq 9)::(fq 10)::undef::undef::undef::undef::undef::undef::undef::undef::undef::undef::undef::undef::undef::undef::undef::undef::undef::undef::undef::undef::undef::undef::undef::undef::undef::undef::undef::undef::undef::undef::undef::undef::undef::[]),defers:=[] }) (G.EI C2 #[.string t.a,.string t.b,.string t.r,.string t.c,.string t.d,.string t.s] 46 6 W bp row0 nn xs (G.Back qA prog 223 166 bp np Mp (MP t))) (by kernel_rfl) rfl (by kernel_rfl) (by kernel_rfl) rfl (G.ei_start W) ?stepA ?finA;case stepA =>
  rintro i hi o ho l fq w' Xf hI hpre;have HI:=aC hI;have V8:Hid (∀e∈o.after,Region.binds .any e=true->l e.on=true):=hpre;clear hI hpre;have hc:=NP (i:=i) (by omega);clear hi
  repeat' rcases hc with rfl|hc
  ·cases ho;have hA:=HI.out.early (i:=0) (by omega) Xf;clear V8 HI;refine aa rfl fun K HK=>?_;go_simp;exact HK.out _ _ ⟨Value.pointer (some ⟨D,0,none⟩),by simp[upd, *],hA.put (by omega) WV.out.1.symm⟩
  ·cases ho;have hA:=HI.out.early (i:=1) (by omega) Xf;have e0:=(hA.val 0 (by omega) (V8.out ⟨0,.data⟩ (by simp) rfl)).trans WV.out.1;clear V8 HI;refine aa rfl fun K HK=>?_;simp only[e0];go_simp;exact HK.out _ _ ⟨Value.pointer (some ⟨D,0,none⟩),by simp[upd, *],hA.put (by omega) WV.out.2.1.symm⟩
  ·cases ho;have hA:=HI.out.early (i:=2) (by omega) Xf;have e1:=(hA.val 1 (by omega) (V8.out ⟨1,.data⟩ (by simp) rfl)).trans WV.out.2.1;clear V8 HI;refine aa rfl fun K HK=>?_;simp only[e1];go_simp;exact HK.out _ _ ⟨Value.pointer (some ⟨D,3,none⟩),by simp[upd, *],hA.put (by omega) WV.out.2.2.1.symm⟩
  ·cases ho;have hA:=HI.out.early (i:=3) (by omega) Xf;have e2:=(hA.val 2 (by omega) (V8.out ⟨2,.data⟩ (by simp) rfl)).trans WV.out.2.2.1;have hb':=hA.bel;have d3:=(hb'.cell (p:=⟨D,3,none⟩) (by show D<_;omega)).trans HD.out.c3;clear V8 HI;refine aa rfl fun K HK=>?_;simp only[e2];go_simp;exact HK.out _ _ ⟨Value.map (some bp),by simp[upd, *],hA.put (by omega) WV.out.2.2.2.1.symm⟩
  ·cases ho;have hA:=HI.out.early (i:=4) (by omega) Xf;have hb':=hA.bel;have k0:=(hb'.cell (p:=⟨w.heap.size+1,0,none⟩) (by show w.heap.size+1<_;omega)).trans HK3.out.1;have k1:=(hb'.cell (p:=⟨w.heap.size+1,1,none⟩) (by show w.heap.size+1<_;omega)).trans HK3.out.2.1;have k2:=(hb'.cell (p:=⟨w.heap.size+1,2,none⟩) (by show w.heap.size+1<_;omega)).trans HK3.out.2.2;clear V8 HI;refine aa rfl fun K HK=>?_;go_simp;exact HK.out _ _ ⟨Value.agg #[.string t.a,.string t.b,.string t.r],by simp[upd, *],hA.put (by omega) WV.out.2.2.2.2.1.symm⟩
  ·cases ho;have hA:=HI.out.early (i:=5) (by omega) Xf;have hb':=hA.bel;obtain⟨t0,t1,t2,t3,t4,t5,tl⟩:=HT6.out.below hb';clear V8 HI;refine aa rfl fun K HK=>?_;go_simp;exact HK.out _ _ ⟨Value.agg #[.string t.a,.string t.b,.string t.r,.string t.c,.string t.d,.string t.s],by simp[upd, *],hA.put (by omega) WV.out.2.2.2.2.2.symm⟩
  ·cases ho;have hA:=HI.out.early (i:=6) (by omega) Xf;have e5:=(hA.val 5 (by omega) (V8.out ⟨5,.data⟩ (by simp) rfl)).trans WV.out.2.2.2.2.2;clear V8 HI;refine aa rfl fun K HK=>?_;simp only[e5];go_simp;exact HK.out _ _ ⟨_,by simp[upd,e5],hA.lay⟩
  ·cases ho;have hA:=HI.out.early (i:=7) (by omega) Xf;have e3:=(hA.val 3 (by omega) (V8.out ⟨3,.data⟩ (by simp) rfl)).trans WV.out.2.2.2.1;have e4:=(hA.val 4 (by omega) (V8.out ⟨4,.data⟩ (by simp) rfl)).trans WV.out.2.2.2.2.1;have hall:∀k,k<=6->l k=true:=fun k hk=>by
    have hc:=Ug (i:=k) (by omega)
    repeat' rcases hc with rfl|hc
    all_goals exact V8.out ⟨_,.phase⟩ (by simp) rfl
   have hD':=HD.out.below hA.bel;obtain⟨kl,hkl⟩:=HKEY.out;obtain⟨st,w1,hrun,hg,hback⟩:=hD'.told.map.entry Ou Ot underlying166 Bn (by unfold maxLen;omega) hkl;rw[<-Xo.out]at hrun;have hrun':(Instr.mapEntry 166 (.map (some bp)) (Value.agg #[.string t.a,.string t.b,.string t.r])).run prog w'=.ok (.tuple #[row0,goInt st]) w1:=hrun;clear V8 HI;refine aa rfl fun K HK=>?_;simp only[e3,e4];go_simp;exact HK.out _ _ ⟨_,by simp[upd,e3,e4,goInt],hA.took hall hg hback⟩
  ·cases ho;have h7:=V8.out ⟨7,.data⟩ (by simp) rfl;have hB:=HI.out.midB h7 (i:=8) (by omega) Xf;obtain⟨st,e7⟩:=HI.out.seven h7;clear V8 HI;refine aa rfl fun K HK=>?_;simp only[e7];go_simp;exact HK.out _ _ ⟨_,by simp[upd,e7,goInt],hB.first⟩
  ·cases ho;have h7:=V8.out ⟨7,.chain⟩ (by simp) rfl;have h8:=V8.out ⟨8,.data⟩ (by simp) rfl;have hB:=HI.out.midB h7 (i:=9) (by omega) Xf;obtain ⟨W0,st,g,hm1,hm2,Zk,hm4,YN,e7,hm7,hm8,hm9⟩:=hB.mid;have e8:=hm8 h8;have hown:=(Xa.out W0 hm1).kept YN (by
    rcases h:row0.ownBlock with _|g'
    ·exact .inl rfl
    right;intro e;injection e with e;have:=((Xa.out W0 hm1).lt g' h).1;omega)
   have hnew:w'.heap[g]?=some (.cells #[.string t.a,.string t.b,.string t.r,.string t.c,.string t.d,.string t.s] 46 (0,0)):=by
    have hgl:g<W0.heap.size:=by
     rcases Nat.lt_or_ge g W0.heap.size with h|h
     ·exact h
     rw[Array.getElem?_eq_none h]at hm4;cases hm4
    rw[YN.block g hgl (fun e=>by injection e with e;omega)];exact hm4
   clear V8 HI;refine kS w' rfl rfl _ _ 25 rfl (bp+1) 46 iT _ 6 96 underlying25 HIT.out.1 HIT.out.2.1 HIT.out.2.2.1 HIT.out.2.2.2 rfl (by decide) row0 nn xs (by simp[Act.eval,e8]) hown ⟨g,0,none⟩ 1 1 [Value.string t.a,.string t.b,.string t.r,.string t.c,.string t.d,.string t.s] (by simp[Act.eval,hm2]) rfl (fun j u hu=>news_of_block hnew j u hu) (by simp[Value.oneCell']) (by unfold maxLen;omega) (by omega) (by have:=YN.size;have:=hm1.size;omega) ?_;intro v' w2 hown2 WN hloc2;exact⟨v',by simp[upd,Act.put],hB.app h8 WN hown2 hloc2⟩
  cases ho;have h7:=V8.out ⟨7,.data⟩ (by simp) rfl;obtain⟨st,e7⟩:=HI.out.seven h7;have HI2:=HI.out.second h7 e7;clear V8 HI;refine aa rfl fun K HK=>?_;simp only[e7];go_simp;exact HK.out _ _ ⟨_,by simp[upd,e7,goInt],HI2⟩
 case finA =>
  rintro o ho l fq w' hall hI;obtain rfl:=Option.some.inj ho;have hC:=hI.last hall;obtain⟨W0,w1,st,hm1,hm2,Zk,hm4,YN,hm6,-,hm8⟩:=hC.mid;have e10:=hm8 (hall 10 (by omega));have e3:=(hC.val 3 (by omega)).trans WV.out.2.2.2.1;obtain⟨w3,hrun,hM3,hg3⟩:=hm6 w' (fq 9) (Zk.block bp (by have:=hm2.size;have:=hm1.size;omega) (fun e=>by have:=(Xa.out W0 hm1).lt bp e.symm;omega));have hst:=(HD.out.told.below hm1).step (y:=MP t) (s:=t) hm2 (by rw[<-XV.out,<-Zb.out];exact hm4) (by rw[<-Xo.out];exact Zk) (by rw[<-Xo.out];exact YN) hg3 hM3;have HD3:=aG ((HD.out.below hm1).tell hst.1 hst.2);have HB3:Hid (Below bp w w3):=by
   have b0:Below bp w W0:=(V9.out.trans (hm1.mono V9.out.size)).mono (by omega);have b1:Below bp w w1:=b0.grown hm2 (by have:=hm1.size;omega) (fun i hi=>by injection hi with hi;omega);have b2:Below bp w w':=b1.grown Zk (by have:=hm2.size;have:=hm1.size;omega) (fun i hi=>by have:=((Xa.out W0 hm1).lt i hi).1;omega);exact b2.grown hg3 (by have:=Zk.size;have:=hm2.size;have:=hm1.size;omega) (fun i hi=>by injection hi with hi;omega)
  have hz3:W.heap.size<=w3.heap.size:=by have:=hg3.size;have:=Zk.size;have:=hm2.size;have:=hm1.size;omega
  have hbx3:w3.heap[w.heap.size]?=some (.cells #[.string t.a,.string t.b,.string t.r,.string t.c,.string t.d,.string t.s] 46 (0,0)):=by
   rw[hst.2.block w.heap.size (by have:=hm1.size;omega) (by omega) HFB.out,hm1.block w.heap.size (by omega)];exact Wx.out
  have HT3:Hid (uE w3 w.heap.size t/\∃cur,w3.heap[w.heap.size]?=some (.cells cur 46 (0,0))):=⟨HT6.out.block (by rw[hbx3,Wx.out]) (by omega),_,hbx3⟩;have XJ:(Instr.entryStore 166 (.map (some bp)) (.int .i64 st) (fq 9)).run prog w'=.ok () w3:=hrun;obtain⟨Mn,hMn⟩:∃M,M=lu Mp (MP t) (some (fq 9)):=⟨_,rfl⟩;rw[<-hMn]at HD3;refine aa rfl fun K HK=>?_;simp only[e3,e10];go_simp;refine HK.out _ _ ?_;clear hst hrun XJ hM3 hg3 hm1 hm2 Zk hm4 YN hm6 hm8 hC hI hall ho HK K e3 e10 HD HT6 HK3 V9 Xa Wx WV HKEY HFB hMn Xo XV Zb hbx3;obtain⟨y0,hy0⟩:∃y,y=fq 0:=⟨_,rfl⟩;rw[<-hy0];obtain⟨y1,hy1⟩:∃y,y=fq 1:=⟨_,rfl⟩;rw[<-hy1];obtain⟨y2,hy2⟩:∃y,y=fq 2:=⟨_,rfl⟩;rw[<-hy2];obtain⟨y4,hy4⟩:∃y,y=fq 4:=⟨_,rfl⟩;rw[<-hy4];obtain⟨y8,hy8⟩:∃y,y=fq 8:=⟨_,rfl⟩;rw[<-hy8];obtain⟨y5,hy5⟩:∃y,y=fq 5:=⟨_,rfl⟩;rw[<-hy5];obtain⟨y6,hy6⟩:∃y,y=fq 6:=⟨_,rfl⟩;rw[<-hy6];obtain⟨y7,hy7⟩:∃y,y=fq 7:=⟨_,rfl⟩;rw[<-hy7];obtain⟨y9,hy9⟩:∃y,y=fq 9:=⟨_,rfl⟩;rw[<-hy9];clear hy0 hy1 hy2 hy4 hy8 hy5 hy6 hy7 hy9 fq l hz3;go_wp2_with fail;have hbz:bp+1<=w3.heap.size:=by have:=HD3.out.lt;have:=HD3.out.gt;omega
  have hx1:(bz xo ⟨t.a,t.b⟩).length<=501:=by have:=om xo ⟨t.a,t.b⟩;omega
  obtain⟨CB,hCB⟩:∃C:Nat->Value,C=fun n=>(Value.pointer (some ⟨D,0,none⟩)::.pointer (some ⟨D,0,none⟩)::.pointer (some ⟨D,0,none⟩)::.pointer (some ⟨D,4,none⟩)::vo::.pointer (some ⟨w.heap.size,0,none⟩)::.agg #[.string t.a,.string t.b]::undef::.pointer (some ⟨D,0,none⟩)::.pointer (some ⟨D,4,none⟩)::[]).getD n undef:=⟨_,rfl⟩;have YR:Hid (CB 0=Value.pointer (some ⟨D,0,none⟩)/\CB 1=Value.pointer (some ⟨D,0,none⟩)/\CB 2=Value.pointer (some ⟨D,0,none⟩)/\CB 3=Value.pointer (some ⟨D,4,none⟩)/\CB 4=vo/\CB 5=Value.pointer (some ⟨w.heap.size,0,none⟩)/\CB 6=Value.agg #[.string t.a,.string t.b]/\CB 7=undef/\CB 8=Value.pointer (some ⟨D,0,none⟩)/\CB 9=Value.pointer (some ⟨D,4,none⟩)):=by show _/\_;rw[hCB];exact⟨rfl,rfl,rfl,rfl,rfl,rfl,rfl,rfl,rfl,rfl⟩
  clear hCB;refine jZ 10 (fun _=>undef) (fun fr=>{ tmps:=List.toArray (Value.pointer (some ⟨D,0,none⟩)::.agg #[.string t.a,.string t.b,.string t.r,.string t.c,.string t.d,.string t.s]::undef::.pointer (some ⟨w.heap.size,0,none⟩)::.pointer (some ⟨w.heap.size+1,0,none⟩)::.pointer (some ⟨w.heap.size,0,none⟩)::.agg #[.string t.a,.string t.b]::.pointer (some ⟨w.heap.size,2,none⟩)::.string t.r::.agg #[.string t.a,.string t.b,.string t.r]::y0::y1::y2::.map (some bp)::y4::y8::y5::y6::y7::y9::.int .i64 st::(fr 0)::(fr 1)::(fr 2)::(fr 3)::(fr 4)::(fr 5)::(fr 6)::(fr 7)::(fr 8)::(fr 9)::undef::undef::undef::undef::undef::undef::undef::undef::undef::undef::undef::undef::undef::undef::undef::undef::undef::undef::undef::undef::undef::undef::undef::[]),defers:=[] }) (G.WI CB w3 (fun v' w'=>∃w1,ae w3 w1/\w'.ownsRow (bp+1) 27 2 v' (bz xo ⟨t.a,t.b⟩).length (pairs (bz xo ⟨t.a,t.b⟩))/\Aside w1 vo w' v'/\∀B',(∀g,vo.ownBlock=some g->B'<=g)->B'<=w1.heap.size->Below B' w1 w')) (by kernel_rfl) rfl (by kernel_rfl) (fun o ho l f w' hI hp=>?clB) rfl (G.wi_start w3) ?yu ?finB;case clB =>
   cases ho;intro k hk;have h9:=hp ⟨9,.data⟩ (by simp) rfl;have hc:=xU (i:=k) (by omega)
   repeat' rcases hc with rfl|hc
   all_goals first|exact hI.nin h9|exact h9|exact hp ⟨_,.phase⟩ (by simp) rfl
  case yu =>
   rintro i hi o ho l fr w' Xf hI hpre;have HI:Hid (G.WI CB w3 (fun v' w'=>∃w1,ae w3 w1/\w'.ownsRow (bp+1) 27 2 v' (bz xo ⟨t.a,t.b⟩).length (pairs (bz xo ⟨t.a,t.b⟩))/\Aside w1 vo w' v'/\∀B',(∀g,vo.ownBlock=some g->B'<=g)->B'<=w1.heap.size->Below B' w1 w') l fr w'):=hI;have V8:Hid (∀e∈o.after,Region.binds .any e=true->l e.on=true):=hpre;clear hI hpre;have hc:=xU (i:=i) (by omega);clear hi
   repeat' rcases hc with rfl|hc
   ·cases ho;have hW:=HI.out;clear V8 HI;refine aa rfl fun K HK=>?_;go_simp;exact HK.out _ _ ⟨Value.pointer (some ⟨D,0,none⟩),by simp[upd, *],hW.put (by omega) (by omega) YR.out.1.symm⟩
   ·cases ho;have hW:=HI.out;clear V8 HI;refine aa rfl fun K HK=>?_;go_simp;exact HK.out _ _ ⟨Value.pointer (some ⟨D,0,none⟩),by simp[upd, *],hW.put (by omega) (by omega) YR.out.2.1.symm⟩
   ·cases ho;have hW:=HI.out;have e1:=(HI.out.val 1 (by omega) (by omega) (V8.out ⟨1,.data⟩ (by simp) rfl)).trans YR.out.2.1;clear V8 HI;refine aa rfl fun K HK=>?_;simp only[e1];go_simp;exact HK.out _ _ ⟨Value.pointer (some ⟨D,0,none⟩),by simp[upd, *],hW.put (by omega) (by omega) YR.out.2.2.1.symm⟩
   ·cases ho;have hW:=HI.out;have e2:=(HI.out.val 2 (by omega) (by omega) (V8.out ⟨2,.data⟩ (by simp) rfl)).trans YR.out.2.2.1;clear V8 HI;refine aa rfl fun K HK=>?_;simp only[e2];go_simp;exact HK.out _ _ ⟨Value.pointer (some ⟨D,4,none⟩),by simp[upd, *],hW.put (by omega) (by omega) YR.out.2.2.2.1.symm⟩
   ·cases ho;have hW:=HI.out;have e3:=(HI.out.val 3 (by omega) (by omega) (V8.out ⟨3,.data⟩ (by simp) rfl)).trans YR.out.2.2.2.1;have hb':=HI.out.early (.inl Xf);have d4:=(hb'.cell (p:=⟨D,4,none⟩) HD3.out.lt).trans HD3.out.c4;clear V8 HI;refine aa rfl fun K HK=>?_;simp only[e3];go_simp;exact HK.out _ _ ⟨vo,by simp[upd, *],hW.put (by omega) (by omega) YR.out.2.2.2.2.1.symm⟩
   ·cases ho;have hW:=HI.out;clear V8 HI;refine aa rfl fun K HK=>?_;go_simp;exact HK.out _ _ ⟨Value.pointer (some ⟨w.heap.size,0,none⟩),by simp[upd, *],hW.put (by omega) (by omega) YR.out.2.2.2.2.2.1.symm⟩
   ·cases ho;have hW:=HI.out;have e5:=(HI.out.val 5 (by omega) (by omega) (V8.out ⟨5,.data⟩ (by simp) rfl)).trans YR.out.2.2.2.2.2.1;have hb':=HI.out.early (.inr Xf);obtain⟨t0,t1,t2,t3,t4,t5,tl⟩:=HT3.out.1.below hb';clear V8 HI;refine aa rfl fun K HK=>?_;simp only[e5];go_simp;exact HK.out _ _ ⟨Value.agg #[.string t.a,.string t.b],by simp[upd, *],hW.put (by omega) (by omega) YR.out.2.2.2.2.2.2.1.symm⟩
   ·cases ho;have hW:=HI.out;have e4:=(HI.out.val 4 (by omega) (by omega) (V8.out ⟨4,.data⟩ (by simp) rfl)).trans YR.out.2.2.2.2.1;have e6:=(HI.out.val 6 (by omega) (by omega) (V8.out ⟨6,.data⟩ (by simp) rfl)).trans YR.out.2.2.2.2.2.2.1;have h4:=V8.out ⟨4,.data⟩ (by simp) rfl;have h6:=V8.out ⟨6,.data⟩ (by simp) rfl;have hb':=HI.out.before Xf;have hown:=aY HD3.out.objs hb';clear V8 HI;refine aa rfl fun K HK=>?_;simp only[e4,e6];go_simp;refine(mq (bp+1) vo xo ⟨t.a,t.b⟩ w' (by omega) (U0 hbz hb'.size) hown).mono ?_;rintro e w2 ⟨v',rfl,hown2,has,hbl⟩;exact HK.out _ _ ⟨v',by simp[upd,e4,e6],hW.call h4 h6 ⟨w',hb',hown2,has,hbl⟩⟩
   ·cases ho;have hW:=HI.out;have e0:=(HI.out.val 0 (by omega) (by omega) (V8.out ⟨0,.data⟩ (by simp) rfl)).trans YR.out.1;clear V8 HI;refine aa rfl fun K HK=>?_;simp only[e0];go_simp;exact HK.out _ _ ⟨Value.pointer (some ⟨D,0,none⟩),by simp[upd, *],hW.put (by omega) (by omega) YR.out.2.2.2.2.2.2.2.2.1.symm⟩
   cases ho;have hW:=HI.out;have e8:=(HI.out.val 8 (by omega) (by omega) (V8.out ⟨8,.data⟩ (by simp) rfl)).trans YR.out.2.2.2.2.2.2.2.2.1;have h8:=V8.out ⟨8,.data⟩ (by simp) rfl;clear V8 HI;refine aa rfl fun K HK=>?_;simp only[e8];go_simp;exact HK.out _ _ ⟨Value.pointer (some ⟨D,4,none⟩),by simp[upd, *],hW.put (by omega) (fun _=>h8) YR.out.2.2.2.2.2.2.2.2.2.symm⟩
  case finB =>
   rintro o ho l fr w' hall hI;obtain rfl:=Option.some.inj ho;obtain⟨hval,w1,hb1,hown,has,hbl⟩:=hI.last hall;have e9:=(hval 9 (by omega) (by omega)).trans YR.out.2.2.2.2.2.2.2.2.2;have XI:=HD3.out.below hb1;have hDn:=XI.newO hown has;have hTn:=(HT3.out.1.below hb1).aside (by obtain⟨cur,e⟩:=HT3.out.2;exact⟨cur,(hb1.block _ HT3.out.1.2.2.2.2.2.2).trans e⟩) XI.objs has;obtain⟨cur,hkd⟩:=XI.kind;have Zw:vo.ownBlock≠some D:=fun e=>absurd (dN XI.objs e hkd) (by decide);have Zy:=(has.block D XI.lt Zw).trans hkd;have fz:=fun o=>gX Zy o;have d4:=(Vh (w:=w1) (a:=⟨D,4,none⟩) (has.block D XI.lt Zw)).trans XI.c4;obtain⟨adn,cpn,e7,-⟩:=kK hown;rw[e7]at hown has hDn;obtain⟨w4,hwn⟩:∃x,x=w'.setCell ⟨D,4,none⟩ (Value.slice adn (bz xo ⟨t.a,t.b⟩).length cpn):=⟨_,rfl⟩;rw[<-hwn]at hDn;have HD3n:=aG hDn;have HT3n:Hid (uE w4 w.heap.size t/\∃cur,w4.heap[w.heap.size]?=some (.cells cur 46 (0,0))):=by
    have hh:w4.heap[w.heap.size]?=w'.heap[w.heap.size]?:=by rw[hwn];exact heap_setCell_other w' ⟨D,4,none⟩ w.heap.size _ (by show w.heap.size≠D;omega)
    obtain⟨cr,ecr⟩:=hTn.2;exact⟨hTn.1.block hh (by rw[hwn];simpa using hTn.1.2.2.2.2.2.2),cr,hh.trans ecr⟩
   have HB3n:Hid (Below bp w w4):=by
    have b1:Below bp w w1:=HB3.out.trans (hb1.mono (by omega));have b2:Below bp w w':=b1.trans (hbl bp (fun g hg=>by have:=(XI.objs.lt g hg).1;omega) (by have:=hb1.size;omega));show Below _ _ _;rw[hwn];exact b2.setCell (by show bp<=D;omega) _
   have hsn:w3.heap.size<=w4.heap.size:=by rw[hwn];have:=hb1.size;have:=has.size;simp;omega
   have hbzn:bp+1<=w4.heap.size:=by omega
   clear hval;refine aa rfl fun K HK=>?_;simp only[e9,e7];go_simp;rw[<-hwn];refine HK.out _ _ ?_;obtain⟨vo1,hvo1⟩:∃v,v=Value.slice adn (bz xo ⟨t.a,t.b⟩).length cpn:=⟨_,rfl⟩;rw[<-hvo1]at HD3n ⊢;clear hb1 hown has hbl XI hDn hTn hkd Zy Zw fz d4 HK K hI hall ho hwn e9 e7 hvo1 hsn hbz HD3 HT3 HB3 YR;obtain⟨zB0,hz0⟩:∃y,y=fr 0:=⟨_,rfl⟩;rw[<-hz0];obtain⟨zB1,hz1⟩:∃y,y=fr 1:=⟨_,rfl⟩;rw[<-hz1];obtain⟨zB2,hz2⟩:∃y,y=fr 2:=⟨_,rfl⟩;rw[<-hz2];obtain⟨zB3,hz3⟩:∃y,y=fr 3:=⟨_,rfl⟩;rw[<-hz3];obtain⟨zB4,Y3⟩:∃y,y=fr 4:=⟨_,rfl⟩;rw[<-Y3];obtain⟨zB5,hz5⟩:∃y,y=fr 5:=⟨_,rfl⟩;rw[<-hz5];obtain⟨zB6,hz6⟩:∃y,y=fr 6:=⟨_,rfl⟩;rw[<-hz6];obtain⟨zB8,hz8⟩:∃y,y=fr 8:=⟨_,rfl⟩;rw[<-hz8];clear hz0 hz1 hz2 hz3 Y3 hz5 hz6 hz8 fr l
   skip
   have hbz:=hbzn;clear hbzn;go_wp2_with fail;obtain⟨CC,hCC⟩:∃C:Nat->Value,C=fun n=>(Value.pointer (some ⟨D,0,none⟩)::.pointer (some ⟨D,0,none⟩)::.pointer (some ⟨D,0,none⟩)::.pointer (some ⟨D,4,none⟩)::vo1::.pointer (some ⟨w.heap.size,3,none⟩)::.agg #[.string t.c,.string t.d]::undef::.pointer (some ⟨D,0,none⟩)::.pointer (some ⟨D,4,none⟩)::[]).getD n undef:=⟨_,rfl⟩;have Xq:Hid (CC 0=Value.pointer (some ⟨D,0,none⟩)/\CC 1=Value.pointer (some ⟨D,0,none⟩)/\CC 2=Value.pointer (some ⟨D,0,none⟩)/\CC 3=Value.pointer (some ⟨D,4,none⟩)/\CC 4=vo1/\CC 5=Value.pointer (some ⟨w.heap.size,3,none⟩)/\CC 6=Value.agg #[.string t.c,.string t.d]/\CC 7=undef/\CC 8=Value.pointer (some ⟨D,0,none⟩)/\CC 9=Value.pointer (some ⟨D,4,none⟩)):=by show _/\_;rw[hCC];exact⟨rfl,rfl,rfl,rfl,rfl,rfl,rfl,rfl,rfl,rfl⟩
   clear hCC;refine jZ 10 (fun _=>undef) (fun fs=>{ tmps:=List.toArray (Value.pointer (some ⟨D,0,none⟩)::.agg #[.string t.a,.string t.b,.string t.r,.string t.c,.string t.d,.string t.s]::undef::.pointer (some ⟨w.heap.size,0,none⟩)::.pointer (some ⟨w.heap.size+1,0,none⟩)::.pointer (some ⟨w.heap.size,0,none⟩)::.agg #[.string t.a,.string t.b]::.pointer (some ⟨w.heap.size,2,none⟩)::.string t.r::.agg #[.string t.a,.string t.b,.string t.r]::y0::y1::y2::.map (some bp)::y4::y8::y5::y6::y7::y9::.int .i64 st::zB0::zB1::zB2::zB3::zB4::zB5::zB6::vo1::zB8::.pointer (some ⟨D,4,none⟩)::(fs 0)::(fs 1)::(fs 2)::(fs 3)::(fs 4)::(fs 5)::(fs 6)::(fs 7)::(fs 8)::(fs 9)::undef::undef::undef::undef::undef::undef::undef::undef::undef::undef::undef::undef::undef::[]),defers:=[] }) (G.WI CC w4 (fun v' w'=>∃w1,ae w4 w1/\w'.ownsRow (bp+1) 27 2 v' (bz (bz xo ⟨t.a,t.b⟩) ⟨t.c,t.d⟩).length (pairs (bz (bz xo ⟨t.a,t.b⟩) ⟨t.c,t.d⟩))/\Aside w1 vo1 w' v'/\∀B',(∀g,vo1.ownBlock=some g->B'<=g)->B'<=w1.heap.size->Below B' w1 w')) (by kernel_rfl) rfl (by kernel_rfl) (fun o ho l f w' hI hp=>?clC) rfl (G.wi_start w4) ?stepC ?finC;case clC =>
    cases ho;intro k hk;have h9:=hp ⟨9,.data⟩ (by simp) rfl;have hc:=xU (i:=k) (by omega)
    repeat' rcases hc with rfl|hc
    all_goals first|exact hI.nin h9|exact h9|exact hp ⟨_,.phase⟩ (by simp) rfl
   case stepC =>
    rintro i hi o ho l fs w' Xf hI hpre;have HI:Hid (G.WI CC w4 (fun v' w'=>∃w1,ae w4 w1/\w'.ownsRow (bp+1) 27 2 v' (bz (bz xo ⟨t.a,t.b⟩) ⟨t.c,t.d⟩).length (pairs (bz (bz xo ⟨t.a,t.b⟩) ⟨t.c,t.d⟩))/\Aside w1 vo1 w' v'/\∀B',(∀g,vo1.ownBlock=some g->B'<=g)->B'<=w1.heap.size->Below B' w1 w') l fs w'):=hI;have V8:Hid (∀e∈o.after,Region.binds .any e=true->l e.on=true):=hpre;clear hI hpre;have hc:=xU (i:=i) (by omega);clear hi
    repeat' rcases hc with rfl|hc
    ·cases ho;have hW:=HI.out;clear V8 HI;refine aa rfl fun K HK=>?_;go_simp;exact HK.out _ _ ⟨Value.pointer (some ⟨D,0,none⟩),by simp[upd, *],hW.put (by omega) (by omega) Xq.out.1.symm⟩
    ·cases ho;have hW:=HI.out;clear V8 HI;refine aa rfl fun K HK=>?_;go_simp;exact HK.out _ _ ⟨Value.pointer (some ⟨D,0,none⟩),by simp[upd, *],hW.put (by omega) (by omega) Xq.out.2.1.symm⟩
    ·cases ho;have hW:=HI.out;have e1:=(HI.out.val 1 (by omega) (by omega) (V8.out ⟨1,.data⟩ (by simp) rfl)).trans Xq.out.2.1;clear V8 HI;refine aa rfl fun K HK=>?_;simp only[e1];go_simp;exact HK.out _ _ ⟨Value.pointer (some ⟨D,0,none⟩),by simp[upd, *],hW.put (by omega) (by omega) Xq.out.2.2.1.symm⟩
    ·cases ho;have hW:=HI.out;have e2:=(HI.out.val 2 (by omega) (by omega) (V8.out ⟨2,.data⟩ (by simp) rfl)).trans Xq.out.2.2.1;clear V8 HI;refine aa rfl fun K HK=>?_;simp only[e2];go_simp;exact HK.out _ _ ⟨Value.pointer (some ⟨D,4,none⟩),by simp[upd, *],hW.put (by omega) (by omega) Xq.out.2.2.2.1.symm⟩
    ·cases ho;have hW:=HI.out;have e3:=(HI.out.val 3 (by omega) (by omega) (V8.out ⟨3,.data⟩ (by simp) rfl)).trans Xq.out.2.2.2.1;have hb':=HI.out.early (.inl Xf);have d4:=(hb'.cell (p:=⟨D,4,none⟩) HD3n.out.lt).trans HD3n.out.c4;clear V8 HI;refine aa rfl fun K HK=>?_;simp only[e3];go_simp;exact HK.out _ _ ⟨vo1,by simp[upd, *],hW.put (by omega) (by omega) Xq.out.2.2.2.2.1.symm⟩
    ·cases ho;have hW:=HI.out;clear V8 HI;refine aa rfl fun K HK=>?_;go_simp;exact HK.out _ _ ⟨Value.pointer (some ⟨w.heap.size,3,none⟩),by simp[upd, *],hW.put (by omega) (by omega) Xq.out.2.2.2.2.2.1.symm⟩
    ·cases ho;have hW:=HI.out;have e5:=(HI.out.val 5 (by omega) (by omega) (V8.out ⟨5,.data⟩ (by simp) rfl)).trans Xq.out.2.2.2.2.2.1;have hb':=HI.out.early (.inr Xf);obtain⟨t0,t1,t2,t3,t4,t5,tl⟩:=HT3n.out.1.below hb';clear V8 HI;refine aa rfl fun K HK=>?_;simp only[e5];go_simp;exact HK.out _ _ ⟨Value.agg #[.string t.c,.string t.d],by simp[upd, *],hW.put (by omega) (by omega) Xq.out.2.2.2.2.2.2.1.symm⟩
    ·cases ho;have hW:=HI.out;have e4:=(HI.out.val 4 (by omega) (by omega) (V8.out ⟨4,.data⟩ (by simp) rfl)).trans Xq.out.2.2.2.2.1;have e6:=(HI.out.val 6 (by omega) (by omega) (V8.out ⟨6,.data⟩ (by simp) rfl)).trans Xq.out.2.2.2.2.2.2.1;have h4:=V8.out ⟨4,.data⟩ (by simp) rfl;have h6:=V8.out ⟨6,.data⟩ (by simp) rfl;have hb':=HI.out.before Xf;have hown:=aY HD3n.out.objs hb';clear V8 HI;refine aa rfl fun K HK=>?_;simp only[e4,e6];go_simp;refine(mq (bp+1) vo1 (bz xo ⟨t.a,t.b⟩) ⟨t.c,t.d⟩ w' (by omega) (U0 hbz hb'.size) hown).mono ?_;rintro e w2 ⟨v',rfl,hown2,has,hbl⟩;exact HK.out _ _ ⟨v',by simp[upd,e4,e6],hW.call h4 h6 ⟨w',hb',hown2,has,hbl⟩⟩
    ·cases ho;have hW:=HI.out;have e0:=(HI.out.val 0 (by omega) (by omega) (V8.out ⟨0,.data⟩ (by simp) rfl)).trans Xq.out.1;clear V8 HI;refine aa rfl fun K HK=>?_;simp only[e0];go_simp;exact HK.out _ _ ⟨Value.pointer (some ⟨D,0,none⟩),by simp[upd, *],hW.put (by omega) (by omega) Xq.out.2.2.2.2.2.2.2.2.1.symm⟩
    cases ho;have hW:=HI.out;have e8:=(HI.out.val 8 (by omega) (by omega) (V8.out ⟨8,.data⟩ (by simp) rfl)).trans Xq.out.2.2.2.2.2.2.2.2.1;have h8:=V8.out ⟨8,.data⟩ (by simp) rfl;clear V8 HI;refine aa rfl fun K HK=>?_;simp only[e8];go_simp;exact HK.out _ _ ⟨Value.pointer (some ⟨D,4,none⟩),by simp[upd, *],hW.put (by omega) (fun _=>h8) Xq.out.2.2.2.2.2.2.2.2.2.symm⟩
   case finC =>
    rintro o ho l fs w' hall hI;obtain rfl:=Option.some.inj ho;obtain⟨hval,w1,hb1,hown,has,hbl⟩:=hI.last hall;have e9:=(hval 9 (by omega) (by omega)).trans Xq.out.2.2.2.2.2.2.2.2.2;have XI:=HD3n.out.below hb1;have hDn:=XI.newO hown has;have hTn:=(HT3n.out.1.below hb1).aside (by obtain⟨cur,e⟩:=HT3n.out.2;exact⟨cur,(hb1.block _ HT3n.out.1.2.2.2.2.2.2).trans e⟩) XI.objs has;obtain⟨cur,hkd⟩:=XI.kind;have Zw:vo1.ownBlock≠some D:=fun e=>absurd (dN XI.objs e hkd) (by decide);have Zy:=(has.block D XI.lt Zw).trans hkd;have fz:=fun o=>gX Zy o;have d4:=(Vh (w:=w1) (a:=⟨D,4,none⟩) (has.block D XI.lt Zw)).trans XI.c4;obtain⟨adn,cpn,e7,-⟩:=kK hown;rw[e7]at hown has hDn;obtain⟨w5,hwn⟩:∃x,x=w'.setCell ⟨D,4,none⟩ (Value.slice adn (bz (bz xo ⟨t.a,t.b⟩) ⟨t.c,t.d⟩).length cpn):=⟨_,rfl⟩;rw[<-hwn]at hDn;have Yq:=aG hDn;have YI:Hid (uE w5 w.heap.size t/\∃cur,w5.heap[w.heap.size]?=some (.cells cur 46 (0,0))):=by
     have hh:w5.heap[w.heap.size]?=w'.heap[w.heap.size]?:=by rw[hwn];exact heap_setCell_other w' ⟨D,4,none⟩ w.heap.size _ (by show w.heap.size≠D;omega)
     obtain⟨cr,ecr⟩:=hTn.2;exact⟨hTn.1.block hh (by rw[hwn];simpa using hTn.1.2.2.2.2.2.2),cr,hh.trans ecr⟩
    have HB3nn:Hid (Below bp w w5):=by
     have b1:Below bp w w1:=HB3n.out.trans (hb1.mono (by omega));have b2:Below bp w w':=b1.trans (hbl bp (fun g hg=>by have:=(XI.objs.lt g hg).1;omega) (by have:=hb1.size;omega));show Below _ _ _;rw[hwn];exact b2.setCell (by show bp<=D;omega) _
    have hsn:w4.heap.size<=w5.heap.size:=by rw[hwn];have:=hb1.size;have:=has.size;simp;omega
    have hbzn:bp+1<=w5.heap.size:=by omega
    clear hval;refine aa rfl fun K HK=>?_;simp only[e9,e7];go_simp;rw[<-hwn];refine HK.out _ _ ?_;obtain⟨vo2,hvo2⟩:∃v,v=Value.slice adn (bz (bz xo ⟨t.a,t.b⟩) ⟨t.c,t.d⟩).length cpn:=⟨_,rfl⟩;rw[<-hvo2]at Yq ⊢;clear hb1 hown has hbl XI hDn hTn hkd Zy Zw fz d4 HK K hI hall ho hwn e9 e7 hvo2 hsn hbz HD3n HT3n HB3n Xq;obtain⟨zC0,hz0⟩:∃y,y=fs 0:=⟨_,rfl⟩;rw[<-hz0];obtain⟨zC1,hz1⟩:∃y,y=fs 1:=⟨_,rfl⟩;rw[<-hz1];obtain⟨zC2,hz2⟩:∃y,y=fs 2:=⟨_,rfl⟩;rw[<-hz2];obtain⟨zC3,hz3⟩:∃y,y=fs 3:=⟨_,rfl⟩;rw[<-hz3];obtain⟨zC4,Y3⟩:∃y,y=fs 4:=⟨_,rfl⟩;rw[<-Y3];obtain⟨zC5,hz5⟩:∃y,y=fs 5:=⟨_,rfl⟩;rw[<-hz5];obtain⟨zC6,hz6⟩:∃y,y=fs 6:=⟨_,rfl⟩;rw[<-hz6];obtain⟨zC8,hz8⟩:∃y,y=fs 8:=⟨_,rfl⟩;rw[<-hz8];clear hz0 hz1 hz2 hz3 Y3 hz5 hz6 hz8 fs l
    skip
    have hbz:=hbzn;clear hbzn;obtain⟨t0,t1,t2,t3,t4,t5,tl⟩:=YI.out.1;cases hs:(t.s.toList==([]:List UInt8));case false=>
     have HU:Hid (dh xu t=xu):=by show _=_;unfold dh;rw[hs];rfl
     go_wp2
     go_end0
     exact⟨rfl,⟨_,_,_,by rw[HU.out];exact Yq.out⟩,HB3nn.out⟩
    have HU:Hid (dh xu t=bz xu ⟨t.c,t.d⟩):=by show _=_;unfold dh;rw[hs];rfl
    clear t0 t1 t2 t3 t4 tl;go_wp2_with fail;clear t5 hs;obtain⟨CD,hCD⟩:∃C:Nat->Value,C=fun n=>(Value.pointer (some ⟨D,0,none⟩)::.pointer (some ⟨D,0,none⟩)::.pointer (some ⟨D,0,none⟩)::.pointer (some ⟨D,5,none⟩)::vu::.pointer (some ⟨w.heap.size,3,none⟩)::.agg #[.string t.c,.string t.d]::undef::.pointer (some ⟨D,0,none⟩)::.pointer (some ⟨D,5,none⟩)::[]).getD n undef:=⟨_,rfl⟩;have YS:Hid (CD 0=Value.pointer (some ⟨D,0,none⟩)/\CD 1=Value.pointer (some ⟨D,0,none⟩)/\CD 2=Value.pointer (some ⟨D,0,none⟩)/\CD 3=Value.pointer (some ⟨D,5,none⟩)/\CD 4=vu/\CD 5=Value.pointer (some ⟨w.heap.size,3,none⟩)/\CD 6=Value.agg #[.string t.c,.string t.d]/\CD 7=undef/\CD 8=Value.pointer (some ⟨D,0,none⟩)/\CD 9=Value.pointer (some ⟨D,5,none⟩)):=by show _/\_;rw[hCD];exact⟨rfl,rfl,rfl,rfl,rfl,rfl,rfl,rfl,rfl,rfl⟩
    clear hCD;refine jZ 10 (fun _=>undef) (fun ft=>{ tmps:=List.toArray (Value.pointer (some ⟨D,0,none⟩)::.agg #[.string t.a,.string t.b,.string t.r,.string t.c,.string t.d,.string t.s]::undef::.pointer (some ⟨w.heap.size,0,none⟩)::.pointer (some ⟨w.heap.size+1,0,none⟩)::.pointer (some ⟨w.heap.size,0,none⟩)::.agg #[.string t.a,.string t.b]::.pointer (some ⟨w.heap.size,2,none⟩)::.string t.r::.agg #[.string t.a,.string t.b,.string t.r]::y0::y1::y2::.map (some bp)::y4::y8::y5::y6::y7::y9::.int .i64 st::zB0::zB1::zB2::zB3::zB4::zB5::zB6::vo1::zB8::.pointer (some ⟨D,4,none⟩)::zC0::zC1::zC2::zC3::zC4::zC5::zC6::vo2::zC8::.pointer (some ⟨D,4,none⟩)::.pointer (some ⟨w.heap.size,5,none⟩)::.string t.s::.bool true::(ft 0)::(ft 1)::(ft 2)::(ft 3)::(ft 4)::(ft 5)::(ft 6)::(ft 7)::(ft 8)::(ft 9)::[]),defers:=[] }) (G.WI CD w5 (fun v' w'=>∃w1,ae w5 w1/\w'.ownsRow (bp+1) 27 2 v' (bz xu ⟨t.c,t.d⟩).length (pairs (bz xu ⟨t.c,t.d⟩))/\Aside w1 vu w' v'/\∀B',(∀g,vu.ownBlock=some g->B'<=g)->B'<=w1.heap.size->Below B' w1 w')) (by kernel_rfl) rfl (by kernel_rfl) (fun o ho l f w' hI hp=>?clD) rfl (G.wi_start w5) ?stepD ?finD;case clD =>
     cases ho;intro k hk;have h9:=hp ⟨9,.data⟩ (by simp) rfl;have hc:=xU (i:=k) (by omega)
     repeat' rcases hc with rfl|hc
     all_goals first|exact hI.nin h9|exact h9|exact hp ⟨_,.phase⟩ (by simp) rfl
    case stepD =>
     rintro i hi o ho l ft w' Xf hI hpre;have HI:Hid (G.WI CD w5 (fun v' w'=>∃w1,ae w5 w1/\w'.ownsRow (bp+1) 27 2 v' (bz xu ⟨t.c,t.d⟩).length (pairs (bz xu ⟨t.c,t.d⟩))/\Aside w1 vu w' v'/\∀B',(∀g,vu.ownBlock=some g->B'<=g)->B'<=w1.heap.size->Below B' w1 w') l ft w'):=hI;have V8:Hid (∀e∈o.after,Region.binds .any e=true->l e.on=true):=hpre;clear hI hpre;have hc:=xU (i:=i) (by omega);clear hi
     repeat' rcases hc with rfl|hc
     ·cases ho;have hW:=HI.out;clear V8 HI;refine aa rfl fun K HK=>?_;go_simp;exact HK.out _ _ ⟨Value.pointer (some ⟨D,0,none⟩),by simp[upd, *],hW.put (by omega) (by omega) YS.out.1.symm⟩
     ·cases ho;have hW:=HI.out;clear V8 HI;refine aa rfl fun K HK=>?_;go_simp;exact HK.out _ _ ⟨Value.pointer (some ⟨D,0,none⟩),by simp[upd, *],hW.put (by omega) (by omega) YS.out.2.1.symm⟩
     ·cases ho;have hW:=HI.out;have e1:=(HI.out.val 1 (by omega) (by omega) (V8.out ⟨1,.data⟩ (by simp) rfl)).trans YS.out.2.1;clear V8 HI;refine aa rfl fun K HK=>?_;simp only[e1];go_simp;exact HK.out _ _ ⟨Value.pointer (some ⟨D,0,none⟩),by simp[upd, *],hW.put (by omega) (by omega) YS.out.2.2.1.symm⟩
     ·cases ho;have hW:=HI.out;have e2:=(HI.out.val 2 (by omega) (by omega) (V8.out ⟨2,.data⟩ (by simp) rfl)).trans YS.out.2.2.1;clear V8 HI;refine aa rfl fun K HK=>?_;simp only[e2];go_simp;exact HK.out _ _ ⟨Value.pointer (some ⟨D,5,none⟩),by simp[upd, *],hW.put (by omega) (by omega) YS.out.2.2.2.1.symm⟩
     ·cases ho;have hW:=HI.out;have e3:=(HI.out.val 3 (by omega) (by omega) (V8.out ⟨3,.data⟩ (by simp) rfl)).trans YS.out.2.2.2.1;have hb':=HI.out.early (.inl Xf);have d4:=(hb'.cell (p:=⟨D,5,none⟩) Yq.out.lt).trans Yq.out.c5;clear V8 HI;refine aa rfl fun K HK=>?_;simp only[e3];go_simp;exact HK.out _ _ ⟨vu,by simp[upd, *],hW.put (by omega) (by omega) YS.out.2.2.2.2.1.symm⟩
     ·cases ho;have hW:=HI.out;clear V8 HI;refine aa rfl fun K HK=>?_;go_simp;exact HK.out _ _ ⟨Value.pointer (some ⟨w.heap.size,3,none⟩),by simp[upd, *],hW.put (by omega) (by omega) YS.out.2.2.2.2.2.1.symm⟩
     ·cases ho;have hW:=HI.out;have e5:=(HI.out.val 5 (by omega) (by omega) (V8.out ⟨5,.data⟩ (by simp) rfl)).trans YS.out.2.2.2.2.2.1;have hb':=HI.out.early (.inr Xf);obtain⟨t0,t1,t2,t3,t4,t5,tl⟩:=YI.out.1.below hb';clear V8 HI;refine aa rfl fun K HK=>?_;simp only[e5];go_simp;exact HK.out _ _ ⟨Value.agg #[.string t.c,.string t.d],by simp[upd, *],hW.put (by omega) (by omega) YS.out.2.2.2.2.2.2.1.symm⟩
     ·cases ho;have hW:=HI.out;have e4:=(HI.out.val 4 (by omega) (by omega) (V8.out ⟨4,.data⟩ (by simp) rfl)).trans YS.out.2.2.2.2.1;have e6:=(HI.out.val 6 (by omega) (by omega) (V8.out ⟨6,.data⟩ (by simp) rfl)).trans YS.out.2.2.2.2.2.2.1;have h4:=V8.out ⟨4,.data⟩ (by simp) rfl;have h6:=V8.out ⟨6,.data⟩ (by simp) rfl;have hb':=HI.out.before Xf;have hown:=aY Yq.out.users hb';clear V8 HI;refine aa rfl fun K HK=>?_;simp only[e4,e6];go_simp;refine(mq (bp+1) vu xu ⟨t.c,t.d⟩ w' (by omega) (U0 hbz hb'.size) hown).mono ?_;rintro e w2 ⟨v',rfl,hown2,has,hbl⟩;exact HK.out _ _ ⟨v',by simp[upd,e4,e6],hW.call h4 h6 ⟨w',hb',hown2,has,hbl⟩⟩
     ·cases ho;have hW:=HI.out;have e0:=(HI.out.val 0 (by omega) (by omega) (V8.out ⟨0,.data⟩ (by simp) rfl)).trans YS.out.1;clear V8 HI;refine aa rfl fun K HK=>?_;simp only[e0];go_simp;exact HK.out _ _ ⟨Value.pointer (some ⟨D,0,none⟩),by simp[upd, *],hW.put (by omega) (by omega) YS.out.2.2.2.2.2.2.2.2.1.symm⟩
     cases ho;have hW:=HI.out;have e8:=(HI.out.val 8 (by omega) (by omega) (V8.out ⟨8,.data⟩ (by simp) rfl)).trans YS.out.2.2.2.2.2.2.2.2.1;have h8:=V8.out ⟨8,.data⟩ (by simp) rfl;clear V8 HI;refine aa rfl fun K HK=>?_;simp only[e8];go_simp;exact HK.out _ _ ⟨Value.pointer (some ⟨D,5,none⟩),by simp[upd, *],hW.put (by omega) (fun _=>h8) YS.out.2.2.2.2.2.2.2.2.2.symm⟩
    case finD =>
     rintro o ho l ft w' hall hI;cases ho;obtain⟨hval,w1,hb1,hown,has,hbl⟩:=hI.last hall;have e9:=(hval 9 (by omega) (by omega)).trans YS.out.2.2.2.2.2.2.2.2.2;have XI:=Yq.out.below hb1;have hDn:=XI.newU hown has;have hTn:=(YI.out.1.below hb1).aside (by obtain⟨cur,e⟩:=YI.out.2;exact⟨cur,(hb1.block _ YI.out.1.2.2.2.2.2.2).trans e⟩) XI.users has;obtain⟨cur,hkd⟩:=XI.kind;have Zw:vu.ownBlock≠some D:=fun e=>absurd (dN XI.users e hkd) (by decide);have Zy:=(has.block D XI.lt Zw).trans hkd;have fz:=fun o=>gX Zy o;have d4:=(Vh (w:=w1) (a:=⟨D,5,none⟩) (has.block D XI.lt Zw)).trans XI.c5;obtain⟨adn,cpn,e7,-⟩:=kK hown;rw[e7]at hown has hDn;obtain⟨w6,hwn⟩:∃x,x=w'.setCell ⟨D,5,none⟩ (Value.slice adn (bz xu ⟨t.c,t.d⟩).length cpn):=⟨_,rfl⟩;rw[<-hwn]at hDn;have HD3nnn:=aG hDn;have HT3nnn:Hid (uE w6 w.heap.size t/\∃cur,w6.heap[w.heap.size]?=some (.cells cur 46 (0,0))):=by
      have hh:w6.heap[w.heap.size]?=w'.heap[w.heap.size]?:=by rw[hwn];exact heap_setCell_other w' ⟨D,5,none⟩ w.heap.size _ (by show w.heap.size≠D;omega)
      obtain⟨cr,ecr⟩:=hTn.2;exact⟨hTn.1.block hh (by rw[hwn];simpa using hTn.1.2.2.2.2.2.2),cr,hh.trans ecr⟩
     have HB3nnn:Hid (Below bp w w6):=by
      have b1:Below bp w w1:=HB3nn.out.trans (hb1.mono (by omega));have b2:Below bp w w':=b1.trans (hbl bp (fun g hg=>by have:=(XI.users.lt g hg).1;omega) (by have:=hb1.size;omega));show Below _ _ _;rw[hwn];exact b2.setCell (by show bp<=D;omega) _
     have hsn:w5.heap.size<=w6.heap.size:=by rw[hwn];have:=hb1.size;have:=has.size;simp;omega
     have hbzn:bp+1<=w6.heap.size:=by omega
     clear hval;refine aa rfl fun K HK=>?_;simp only[e9,e7];go_simp;rw[<-hwn];refine HK.out _ _ ?_;obtain⟨vu2,hvu2⟩:∃v,v=Value.slice adn (bz xu ⟨t.c,t.d⟩).length cpn:=⟨_,rfl⟩;rw[<-hvu2]at HD3nnn ⊢;clear hb1 hown has hbl XI hDn hTn hkd Zy Zw fz d4 HK K hI hall hwn e9 e7 hvu2 hsn hbz Yq YI HB3nn YS;obtain⟨zD0,hz0⟩:∃y,y=ft 0:=⟨_,rfl⟩;rw[<-hz0];obtain⟨zD1,hz1⟩:∃y,y=ft 1:=⟨_,rfl⟩;rw[<-hz1];obtain⟨zD2,hz2⟩:∃y,y=ft 2:=⟨_,rfl⟩;rw[<-hz2];obtain⟨zD3,hz3⟩:∃y,y=ft 3:=⟨_,rfl⟩;rw[<-hz3];obtain⟨zD4,Y3⟩:∃y,y=ft 4:=⟨_,rfl⟩;rw[<-Y3];obtain⟨zD5,hz5⟩:∃y,y=ft 5:=⟨_,rfl⟩;rw[<-hz5];obtain⟨zD6,hz6⟩:∃y,y=ft 6:=⟨_,rfl⟩;rw[<-hz6];obtain⟨zD8,hz8⟩:∃y,y=ft 8:=⟨_,rfl⟩;rw[<-hz8];clear hz0 hz1 hz2 hz3 Y3 hz5 hz6 hz8 ft l
     skip
     go_wp2
     go_end0
     exact⟨rfl,⟨_,_,_,by rw[HU.out];exact HD3nnn.out⟩,HB3nnn.out⟩
def fP(u:Bool)(ts:Q05):List Al:=if u then bP ts else dM ts
def iY(u:Bool)(xs:Q0a)(t:Tp):Nat->List Al
 | 0=>xs
 | 1=>if u then xs else bz xs ⟨t.a,t.b⟩
 | _=>if u then dh xs t else fU xs t
theorem G7(u:Bool){ts:Q05}{k:Nat}(h:k<ts.length):fP u (ts.take (k+1))=iY u (fP u (ts.take k)) ts[k] 2:=by
 rw[UX h];cases u
 ·exact Bl _ _
 exact yx _ _
theorem JQ(u:Bool)(ts:Q05):(fP u ts).length<=2*ts.length:=by
 cases u
 ·have key:∀(ts:Q05) (xs:Q0a),(ts.foldl fU xs).length<=xs.length+2*ts.length:=by
   intro ts
   induction ts with
   | nil=>intro xs;simp
   | cons t ts ih=>intro xs;have h1:=ih (fU xs t);have h2:=qP xs t;simp only[List.foldl_cons,Vq];omega
  have:=key ts [];simpa[fP,dM] using this
 have key:∀(ts:Q05) (xs:Q0a),(ts.foldl dh xs).length<=xs.length+ts.length:=by
  intro ts
  induction ts with
  | nil=>intro xs;simp
  | cons t ts ih=>intro xs;have h1:=ih (dh xs t);have h2:=qQ xs t;simp only[List.foldl_cons,Vq];omega
 have:=key ts [];simp[fP,bP]at this ⊢;omega
theorem PE(u:Bool)(xs:Q0a)(t:Tp)(q:Nat):(iY u xs t q).length<=xs.length+2:=by
 match q with
 | 0=>simp[iY]
 | 1=>have:=om xs ⟨t.a,t.b⟩;cases u<;>simp[iY];omega
 | q+2=>have h1:=qQ xs t;have h2:=qP xs t;cases u<;>simp[iY]<;>omega
theorem JR{xs:Q0a}{o:Al}{k:Nat}(h:k<xs.length):mP (xs.take (k+1)) o=(mP (xs.take k) o || yw xs[k].t xs[k].s o.t o.s):=by
 unfold mP;rw[UX h,List.any_append];simp[jV,yw]
theorem SK(w:af)(o:Al):∀j u,[Value.string o.t,.string o.s][j]?=some u->(w.alloc (.cells #[.string o.t,.string o.s] 27)).cell? ((⟨w.heap.size,0,none⟩:Addr).add j)=some u:=fun j u hu=>by
 match j,hu with
 | 0,hu=>simp at hu;subst hu;simp[Addr.add]
 | 1,hu=>simp at hu;subst hu;simp[Addr.add]
theorem lq.at0{w:af}{ad:Q02}{xs:Q0a}(h:lq w ad xs){k:Nat}(hk:k<xs.length):∃b off,ad=some ⟨b,off,none⟩/\SY w b (off+k*2) xs[k]/\b<w.heap.size:=by
 rcases h with h|⟨b',off',e,hb,hr⟩
 ·rw[h]at hk;simp at hk
 exact⟨b',off',e,hr k hk,hb⟩
theorem sU(ad:Q02)(cap:Nat)(ts:Q05)(u:Bool)(w:af)(hlt:ts.length<=40)(hst:Sl w ad ts):
  Calls prog 95 #[.slice ad ts.length cap,.bool u] w fun e w'=>(∃v,e=.returned v/\w'.ownsRow w.heap.size 27 2 v (fP u ts).length (pairs (fP u ts)))/\ae w w':=by
 obtain⟨iO,h0,h1,h2,h3⟩:=Bj;have HIO:=aG (And.intro h0 (And.intro h1 (And.intro h2 h3)));have HST:=aG hst;obtain⟨W0,hW0⟩:∃W0,W0=w.alloc (.cells #[] 27):=⟨_,rfl⟩;have HB0:=mI hW0;have WP:Hid (W0.ownsRow w.heap.size 27 2 (.slice (some ⟨w.heap.size,0,none⟩) 0 0) (fP u (ts.take 0)).length (pairs (fP u (ts.take 0)))):=by
  have e:fP u (ts.take 0)=[]:=by cases u<;>rfl
  show World.ownsRow _ _ _ _ _ _ _;rw[hW0,e];exact World.ownsRow_lit w #[] 0 (UU _) (by unfold maxLen;omega) (by simp)
 clear hst h0 h1 h2 h3;go_enter func95,ntmps95;go_wp2_with fail;rw[<-hW0];clear hW0;go_loopw[5,6] (fun v i wr=>∃k:Nat,k<=ts.length/\i=.int .i64 k/\Hid (wr.ownsRow w.heap.size 27 2 v (fP u (ts.take k)).length (pairs (fP u (ts.take k))))/\Hid (ae w wr)) (fun _ i _=>ts.length-(intOf i).toNat);case atStart=>exact⟨0,UY _,rfl,WP,HB0⟩
 clear WP HB0;obtain⟨k,hk,rfl,HOW,V9⟩:=hrel;by_cases hlt2:k<ts.length
 ·have HSU:=aG (G7 u hlt2);obtain⟨x,hx⟩:∃x,x=ts[k]:=⟨_,rfl⟩;obtain⟨xs,hxs⟩:∃xs,xs=fP u (ts.take k):=⟨_,rfl⟩;have hxl:xs.length<=80:=by have:=JQ u (ts.take k);rw[Vy]at this;rw[hxs];omega
  rw[<-hx,<-hxs]at HSU;rw[<-hxs]at HOW;have HX:=aG hx;have hi1:=bG k;have hi2:(k:Int)<(ts.length:Int):=by omega
  clear hxs hx;go_wp2;go_loopw[5,7] (fun v i w2=>∃q:Nat,q<=2/\i=.int .i64 q/\Hid (w2.ownsRow w.heap.size 27 2 v (iY u xs x q).length (pairs (iY u xs x q)))/\Hid (ae w w2)) (fun _ i _=>2-(intOf i).toNat);case atStart=>exact⟨0,by omega,rfl,HOW,V9⟩
  obtain⟨w2,rfl⟩:∃w2,w2=wr:=⟨_,rfl⟩;obtain⟨q,hq,rfl,V7,HB2⟩:=hrel;have hi1:=bG k;have hi2:(k:Int)<(ts.length:Int):=by omega
  have hsl:=PE u xs x q;obtain⟨b,off,V6,⟨t0,t1,t2,t3,t4,t5⟩,hb⟩:=Sl.at0 (HST.out.below HB2.out) hlt2;rw[<-HX.out]at t0 t1 t2 t3 t4 t5;subst V6;by_cases hq2:q<2
  ·have hc:q=0\/q=1:=by omega
   rcases hc with rfl|rfl
   case' inl =>
    cases u;case true =>
     have HE:Hid (iY true xs x 1=iY true xs x 0):=rfl;have HR:Hid ((w2.alloc (.cells #[.string x.a,.string x.b] 27)).ownsRow w.heap.size 27 2 u5 (iY true xs x 1).length (pairs (iY true xs x 1))):=by show World.ownsRow _ _ _ _ _ _ _;rw[HE.out];exact V7.out.alloc _
     have YC:Hid (ae w (w2.alloc (.cells #[.string x.a,.string x.b] 27))):=HB2.out.alloc HB2.out.size _;go_wp2;exact⟨⟨1,by omega,rfl,HR,YC⟩,by decide⟩
    obtain⟨o,ho⟩:∃o:Al,o=⟨x.a,x.b⟩:=⟨_,rfl⟩;have Y8:Hid (iY false xs x (0+1)=bz (iY false xs x 0) o):=by show _=_;rw[ho];rfl
    obtain⟨ys,hys⟩:∃ys,ys=iY false xs x 0:=⟨_,rfl⟩;rw[<-hys]at Y8 V7 hsl;obtain⟨ns,hns⟩:∃ns,ns=iY false xs x (0+1):=⟨_,rfl⟩;have WK:Hid (∀(W:World) (v:Value),W.ownsRow w.heap.size 27 2 v ns.length (pairs ns)->W.ownsRow w.heap.size 27 2 v (iY false xs x (0+1)).length (pairs (iY false xs x (0+1)))):=fun W v h=>by rw[<-hns];exact h
    rw[<-hns]at Y8;clear hns;clear hys;have hx1:x.a=o.t:=by rw[ho]
    have hx2:x.b=o.s:=by rw[ho]
    clear ho;obtain⟨X7,XM,rfl,hsO⟩:=kK V7.out;have HSO:=aG hsO;obtain⟨W1,hW1⟩:∃W1,W1=w2.alloc (.cells #[.string o.t,.string o.s] 27):=⟨_,rfl⟩;have WM:=mI hW1;have hz1:w2.heap.size<W1.heap.size:=by rw[hW1];simp
    have d0:W1.cell? ⟨w2.heap.size,0,none⟩=some (.string o.t):=by rw[hW1];simp
    have d1:W1.cell? ⟨w2.heap.size,1,none⟩=some (.string o.s):=by rw[hW1];simp
    clear hsO;go_wp2_with fail;rw[<-hW1];clear hW1 t0 t1 t2 t3 t4 t5 hx1 hx2
   case' inr =>
    cases u
    case' true =>
     cases hz:x.s.toList.isEmpty;case false =>
      have hs2:(x.s.toList==[])=false:=by rw[mZ];exact hz
      have HE:Hid (iY true xs x 2=iY true xs x 1):=by show dh xs x=xs;unfold dh;rw[hs2];rfl
      have HR:Hid ((w2.alloc (.cells #[.string x.c,.string x.d] 27)).ownsRow w.heap.size 27 2 u5 (iY true xs x 2).length (pairs (iY true xs x 2))):=by show World.ownsRow _ _ _ _ _ _ _;rw[HE.out];exact V7.out.alloc _
      have YC:Hid (ae w (w2.alloc (.cells #[.string x.c,.string x.d] 27))):=HB2.out.alloc HB2.out.size _;go_wp2;exact⟨⟨2,by omega,rfl,HR,YC⟩,by decide⟩
     have hs2:(x.s.toList==[])=true:=by rw[mZ];exact hz
     obtain⟨o,ho⟩:∃o:Al,o=⟨x.c,x.d⟩:=⟨_,rfl⟩;have Y8:Hid (iY true xs x (1+1)=bz (iY true xs x 1) o):=by show _=_;rw[ho];show dh xs x=_;unfold dh;rw[hs2];rfl
     obtain⟨ys,hys⟩:∃ys,ys=iY true xs x 1:=⟨_,rfl⟩;rw[<-hys]at Y8 V7 hsl;obtain⟨ns,hns⟩:∃ns,ns=iY true xs x (1+1):=⟨_,rfl⟩;have WK:Hid (∀(W:World) (v:Value),W.ownsRow w.heap.size 27 2 v ns.length (pairs ns)->W.ownsRow w.heap.size 27 2 v (iY true xs x (1+1)).length (pairs (iY true xs x (1+1)))):=fun W v h=>by rw[<-hns];exact h
     rw[<-hns]at Y8;clear hns;clear hys;have hx1:x.c=o.t:=by rw[ho]
     have hx2:x.d=o.s:=by rw[ho]
     clear ho;obtain⟨X7,XM,rfl,hsO⟩:=kK V7.out;have HSO:=aG hsO;obtain⟨W1,hW1⟩:∃W1,W1=w2.alloc (.cells #[.string o.t,.string o.s] 27):=⟨_,rfl⟩;have WM:=mI hW1;have hz1:w2.heap.size<W1.heap.size:=by rw[hW1];simp
     have d0:W1.cell? ⟨w2.heap.size,0,none⟩=some (.string o.t):=by rw[hW1];simp
     have d1:W1.cell? ⟨w2.heap.size,1,none⟩=some (.string o.s):=by rw[hW1];simp
     clear hsO;go_wp2_with fail;rw[<-hW1];clear hW1 t0 t1 t2 t3 t4 t5 hx1 hx2
    case' false =>
     obtain⟨o,ho⟩:∃o:Al,o=⟨x.c,x.d⟩:=⟨_,rfl⟩;have Y8:Hid (iY false xs x (1+1)=bz (iY false xs x 1) o):=by show _=_;rw[ho];rfl
     obtain⟨ys,hys⟩:∃ys,ys=iY false xs x 1:=⟨_,rfl⟩;rw[<-hys]at Y8 V7 hsl;obtain⟨ns,hns⟩:∃ns,ns=iY false xs x (1+1):=⟨_,rfl⟩;have WK:Hid (∀(W:World) (v:Value),W.ownsRow w.heap.size 27 2 v ns.length (pairs ns)->W.ownsRow w.heap.size 27 2 v (iY false xs x (1+1)).length (pairs (iY false xs x (1+1)))):=fun W v h=>by rw[<-hns];exact h
     rw[<-hns]at Y8;clear hns;clear hys;have hx1:x.c=o.t:=by rw[ho]
     have hx2:x.d=o.s:=by rw[ho]
     clear ho;obtain⟨X7,XM,rfl,hsO⟩:=kK V7.out;have HSO:=aG hsO;obtain⟨W1,hW1⟩:∃W1,W1=w2.alloc (.cells #[.string o.t,.string o.s] 27):=⟨_,rfl⟩;have WM:=mI hW1;have hz1:w2.heap.size<W1.heap.size:=by rw[hW1];simp
     have d0:W1.cell? ⟨w2.heap.size,0,none⟩=some (.string o.t):=by rw[hW1];simp
     have d1:W1.cell? ⟨w2.heap.size,1,none⟩=some (.string o.s):=by rw[hW1];simp
     clear hsO;go_wp2_with fail;rw[<-hW1];clear hW1 t0 t1 t2 t3 t4 t5 hx1 hx2
   all_goals
    go_loopw[9,10] (fun ov j w3=>∃(m:Nat) (bb:Bool),m<=ys.length/\ov=.bool bb/\j=.int .i64 m/\Hid (bb=mP (ys.take m) o)/\Hid (ae W1 w3)) (fun _ j _=>ys.length-(intOf j).toNat);case atStart=>exact⟨0,false,UY _,rfl,rfl,rfl,UV _ _⟩
    obtain⟨m,bb,hm,rfl,rfl,Ya,HB3⟩:=hrel;have HBx:Hid (ae w2 wr):=WM.out.trans (HB3.out.mono WM.out.size);have HBw:Hid (ae w wr):=HB2.out.trans (HBx.out.mono HB2.out.size);have HOx:=aG (aY V7.out HBx.out);have c0:=mK HB3.out hz1 d0;have c1:=mK HB3.out hz1 d1;have hz3:w2.heap.size<wr.heap.size:=UT hz1 HB3.out.size;by_cases hlm:m<ys.length
    ·obtain⟨bO,WT,Zh,⟨s0,s1⟩,hbO⟩:=lq.at0 (HSO.out.below HBx.out) hlm;have hm1:=bG m;have hm2:(m:Int)<(ys.length:Int):=by omega
     have HTK:=aG (JR (o:=o) hlm);cases bb;case true=>
      have ZR:Hid (true=mP (ys.take (m+1)) o):=by show _=_;rw[HTK.out,<-Ya.out];rfl
      clear s0 s1 c0 c1;go_wp2_with fail;go_quiet (fail);go_wp2;go_roundw;case rel=>exact⟨m+1,true,by omega,rfl,by go_num,ZR,below_drewN HB3.out _⟩
      simp[intOf]<;>omega
     cases hv:yw ys[m].t ys[m].s o.t o.s;case true=>
      have heq:=iD _ _ _ _ hv;have ZR:Hid (true=mP (ys.take (m+1)) o):=by show _=_;rw[HTK.out,hv];simp
      clear hv;go_wp2_with fail;go_quiet (fail);go_wp2;go_roundw;case rel=>exact⟨m+1,true,by omega,rfl,by go_num,ZR,below_drewN HB3.out _⟩
      simp[intOf]<;>omega
     have heq:=iD _ _ _ _ hv;have ZR:Hid (false=mP (ys.take (m+1)) o):=by show _=_;rw[HTK.out,hv,<-Ya.out];rfl
     clear hv;go_wp2_with fail;go_quiet (fail);go_wp2;go_roundw;case rel=>exact⟨m+1,false,by omega,rfl,by go_num,ZR,below_drewN HB3.out _⟩
     simp[intOf]<;>omega
    have Ws:Hid (bb=mP ys o):=by show _=_;rw[Ya.out,Vs (by omega)]
    cases bb;case true=>
     have HR:Hid (wr.ownsRow w.heap.size 27 2 (.slice X7 ys.length XM) (ns).length (pairs (ns))):=by
      show World.ownsRow _ _ _ _ _ _ _;rw[Y8.out];unfold bz;rw[<-Ws.out];exact HOx.out
     clear Ws c0 c1;go_wp2;have HR2:=aG (WK.out _ _ HR.out)
     first|exact⟨⟨0+1,by omega,rfl,HR2,HBw⟩,by decide⟩|exact⟨⟨1+1,by omega,rfl,HR2,HBw⟩,by decide⟩
    have HWE:Hid (bz ys o=ys++[o]):=by show _=_;unfold bz;rw[<-Ws.out];rfl
    obtain⟨W4,WE⟩:∃W4,W4=wr.alloc (.cells #[.string o.t,.string o.s] 27):=⟨_,rfl⟩;have Wo:Hid (W4.ownsRow w.heap.size 27 2 (.slice X7 ys.length XM) ys.length (pairs ys)):=by show World.ownsRow _ _ _ _ _ _ _;rw[WE];exact HOx.out.alloc _
    have HN4:Hid (∀j u,[Value.string o.t,.string o.s][j]?=some u->W4.cell? ((⟨wr.heap.size,0,none⟩:Addr).add j)=some u):=by rw[WE];exact SK wr o
    have WW:Hid (ae w W4):=by show Below _ _ _;rw[WE];exact HBw.out.alloc HBw.out.size _
    have YT:w.heap.size<=W4.heap.size:=WW.out.size;clear Ws;go_wp2_with(at_builtin;rw[<-WE];clear WE;refine wpList_append_own_at _ rfl _ _ 49 rfl w.heap.size 27 iO (.agg #[.string ⟨#[]⟩,.string ⟨#[]⟩]) 2 32 underlying49 HIO.out.1 HIO.out.2.1 HIO.out.2.2.1 HIO.out.2.2.2 rfl (by decide) _ ys.length (pairs ys) rfl Wo.out ⟨wr.heap.size,0,none⟩ 1 1 [.string o.t,.string o.s] rfl rfl HN4.out (by simp[Value.oneCell']) (by unfold maxLen;omega) (by omega) YT ?_);intro v' w5 hown hgr _ _;have HR:Hid (w5.ownsRow w.heap.size 27 2 v' (ns).length (pairs (ns))):=by
     show World.ownsRow _ _ _ _ _ _ _;rw[Y8.out,HWE.out,U2];have:pairs (ys++[o])=pairs ys++[.string o.t,.string o.s]:=by simp[pairs]
     rw[this];exact hown
    have YC:Hid (ae w w5):=WW.out.grown hgr WW.out.size (fun g hg=>(Wo.out.lt g hg).1);clear hown hgr c0 c1;go_wp2;have HR2:=aG (WK.out _ _ HR.out)
    first|exact⟨⟨0+1,by omega,rfl,HR2,YC⟩,by decide⟩|exact⟨⟨1+1,by omega,rfl,HR2,YC⟩,by decide⟩
  have Ww:Hid (w2.ownsRow w.heap.size 27 2 u5 (fP u (ts.take (k+1))).length (pairs (fP u (ts.take (k+1))))):=by
   have e:q=2:=by omega
   have h2:=V7.out;rw[e]at h2;show World.ownsRow _ _ _ _ _ _ _;rw[HSU.out];exact h2
  go_wp2;go_roundw;case rel=>exact⟨k+1,by omega,by go_num,Ww,HB2⟩
  simp[intOf]<;>omega
 have HE:Hid (fP u (ts.take k)=fP u ts):=by show _=_;rw[Vs (by omega)]
 have Ww:Hid (wr.ownsRow w.heap.size 27 2 u5 (fP u ts).length (pairs (fP u ts))):=by show World.ownsRow _ _ _ _ _ _ _;rw[<-HE.out];exact HOW.out
 go_wp2;go_ret;exact⟨⟨_,rfl,Ww.out⟩,V9.out⟩
end Go.Proofs.YtajkkeikihhejaaGreat
