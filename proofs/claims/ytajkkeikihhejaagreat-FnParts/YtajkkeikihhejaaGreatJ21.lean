/- Contracts of the library's search in a slice of objects, as the program calls it; an object put behind a list that lacks it. -/
import Derived.Test.YtajkkeikihhejaaGreatSq
import Derived.Test.YtajkkeikihhejaaGreatJ19
open Go.Proofs.Tryz
set_option maxHeartbeats 80000000
namespace Go.Proofs.YtajkkeikihhejaaGreat
set_option maxRecDepth 100000
set_option linter.unusedVariables false
open Go.ChangeShapes Go.WideShapes Go.ChangeAt Go.RowKit
open Pl
theorem vH {x y:Al}:jR x y=true ↔ x=y:=by
 unfold jR;simp only [Ug,beq_iff_eq];constructor
 ·rintro ⟨h0,h1⟩;obtain ⟨xa,xb⟩:=x;obtain ⟨ya,yb⟩:=y;simp only at h0 h1;rw [Ga h0,Ga h1]
 rintro rfl;simp
theorem Dg (x y:Al):jR x y=jR y x:=by
 rw [Bool.eq_iff_iff,vH,vH];exact ⟨Eq.symm,Eq.symm⟩
theorem OT (x y:Al){v:Bool}(h:jR x y=v)(w:af) :
  (binOp .eql 27 (.agg #[.string x.t,.string x.s]) (.agg #[.string y.t,.string y.s])).run prog w=.ok (.bool v) w:=by
 subst h;go_simp;unfold jR
 (repeat' split) <;> simp_all
def mM (xs:List Al)(o:Al):Bool:=xs.any fun x=>jR x o
theorem OU {xs:List Al}{o:Al}:mM xs o=true ↔ o∈xs:=by
 unfold mM;rw [UA];constructor
 ·rintro ⟨x,hx,e⟩;rw [<-vH.1 e];exact hx
 intro h;exact ⟨o,h,vH.2 rfl⟩
theorem LY {xs:List Al}{o:Al}{k:Nat}(h:k<xs.length):mM (xs.take (k+1)) o=(mM (xs.take k) o || jR xs[k] o):=by
 rw [Uh h];unfold mM;rw [List.any_append];simp only [List.any_cons,List.any_nil,Bool.or_false]
theorem OV {xs:List Al}{o:Al}{k:Nat}(h:k<xs.length)(he:jR xs[k] o=true):mM xs o=true:=UA.2 ⟨xs[k],Ud h,he⟩
theorem Jo (ad:Option Addr)(cap:Nat)(ts:List Al)(t:Al)(w:af)(hlen:ts.length<=1048576)(hs:jM w ad ts) :
  Calls prog 226 #[.slice ad ts.length cap,.agg #[.string t.t,.string t.s]] w fun e w'=>(∃ r:Int,e=.returned (.int .i64 r)/\decide (0<=r)=mM ts t)/\ag w w':=by
 obtain ⟨W,hW⟩:∃ W,W=w.alloc (.cells #[.string t.t,.string t.s] 27):=⟨_,rfl⟩;have HB0:Hid (ag w W):=by show Below _ _ _;rw [hW];exact (Uf w.heap.size w).alloc (Ue _) _
 have hz:w.heap.size<W.heap.size:=by rw [hW];simp
 have b0:W.cell? ⟨w.heap.size,0,none⟩=some (.string t.t):=by rw [hW];simp
 have b1:W.cell? ⟨w.heap.size,1,none⟩=some (.string t.s):=by rw [hW];simp
 have HS:=aA (hs.below HB0.out);clear hs;go_enter func226,ntmps226;go_wp2_with fail;rw [<-hW];clear hW;go_loopw [8] (fun i wr=>∃ k:Nat,k<=ts.length/\i=.int .i64 k/\Hid (mM (ts.take k) t=false)/\ag W wr) (fun i _=>ts.length-(intOf i).toNat);case atStart=>exact ⟨0,Ui _,rfl,rfl,Uf _ _⟩
 obtain ⟨k,hk,rfl,HP,hB⟩:=hrel;have a0:=bC hB hz b0;have a1:=bC hB hz b1;by_cases hlt:k<ts.length
 ·rcases HS.out.below hB with hnil|⟨b,off,rfl,hb,hr⟩
  ·rw [hnil]at hlt;simp at hlt
  obtain ⟨t0,t1⟩:=hr k hlt;have hk1:=bF k;have hk2:(k:Int)<(ts.length:Int):=by omega
  clear hr;cases hq:jR t ts[k];case true=>
   have HE:=OT t ts[k] hq;have HN:Hid (mM ts t=true):=OV hlt (by rw [Dg];exact hq);go_wp2_with fail;go_quiet (fail);go_wp2;go_ret;exact ⟨⟨_,rfl,by rw [HN.out];simp⟩,HB0.out.trans (below_drewN (hB.mono HB0.out.size) _)⟩
  have HE:=OT t ts[k] hq;have UW:Hid (mM (ts.take (k+1)) t=false):=by show _=_;rw [LY hlt,HP.out,Dg,hq];rfl
  go_wp2_with fail;go_quiet (fail);go_wp2;go_roundw;case rel=>exact ⟨k+1,by omega,by go_num,UW,below_drewN hB _⟩
  simp [intOf] <;> omega
 obtain rfl:k=ts.length:=by omega
 have HN:Hid (mM ts t=false):=by have:=HP.out;rw [Us]at this;exact this
 go_wp2;go_ret;exact ⟨⟨-1,rfl,by rw [HN.out];rfl⟩,HB0.out.trans (hB.mono HB0.out.size)⟩
theorem BN (ad:Option Addr)(cap:Nat)(ts:List Al)(t:Al)(w:af)(hlen:ts.length<=1048576)(hs:jM w ad ts) :
  Calls prog 198 #[.slice ad ts.length cap,.agg #[.string t.t,.string t.s]] w fun e w'=>e=.returned (.bool (mM ts t))/\ag w w':=by
 have HB0:Hid (ag w (w.alloc (.cells #[.string t.t,.string t.s] 27))):=(Uf w.heap.size w).alloc (Ue _) _;have HS:=aF hs;clear hs;go_enter func198,ntmps198;go_wp2_with fail;refine (Jo ad cap ts t _ hlen (HS.out.below HB0.out)).mono ?_;rintro e w1 ⟨⟨r,rfl,hr⟩,hb1⟩;have HR:=aF hr;have HB1:=aF (HB0.out.trans (hb1.mono HB0.out.size));clear hr hb1;go_wp2;go_ret;exact ⟨ah HR.out,HB1.out⟩
def bf (xs:List Al)(o:Al):List Al:=if mM xs o then xs else xs++[o]
theorem AA:∃ i,prog.info? 27=some i/\i.zero=some (.agg #[.string ⟨#[]⟩,.string ⟨#[]⟩])/\i.size=2/\i.bytes=32 :=
 info_parts (P:=prog) (e:=27) (z:=.agg #[.string ⟨#[]⟩,.string ⟨#[]⟩]) (size:=2) (bytes:=32) (by kernel_rfl)
theorem kC {w:af}{base:Nat}{v:Value}{xs:List Al}(h:w.ownsRow base 27 2 v xs.length (pairs xs)):∃ ad cap,v=.slice ad xs.length cap/\jM w ad xs:=by
 rcases h.2 with ⟨rfl,h0⟩|⟨g,cap,cur,rfl,hbg,hg,hnc,-⟩
 ·exact ⟨none,0,by rw [h0],.inl (Uu.1 h0)⟩
 refine ⟨_,cap,rfl,.inr ⟨g,0,rfl,(h.lt g rfl).2,fun i hi=>?_⟩⟩;obtain ⟨h0,h1⟩:=nM xs i hi;have hl:=lm xs;refine ⟨?_,?_⟩
 ·rw [h.cellAt (0+i*2) (by omega),Uz];exact h0
 rw [h.cellAt (0+i*2+1) (by omega),Uz];exact h1
theorem mi (B:Nat)(v:Value)(xs:List Al)(o:Al)(w:af)(hlen:xs.length<=1000)(hB:B<=w.heap.size)(hown:w.ownsRow B 27 2 v xs.length (pairs xs)) :
  Calls prog 143 #[v,.agg #[.string o.t,.string o.s]] w fun e w'=>∃ v',e=.returned v'/\w'.ownsRow B 27 2 v' (bf xs o).length (pairs (bf xs o))/\Aside w v w' v'/\∀ B',(∀ g,v.ownBlock=some g->B'<=g)->B'<=w.heap.size->Below B' w w':=by
 obtain ⟨iO,h0,h1,h2,h3⟩:=AA;have YI:=aF (And.intro h0 (And.intro h1 (And.intro h2 h3)));obtain ⟨ad,cap,rfl,hsl⟩:=kC hown;obtain ⟨W,hW⟩:∃ W,W=w.alloc (.cells #[.string o.t,.string o.s] 27):=⟨_,rfl⟩;have HB0:Hid (ag w W):=by show Below _ _ _;rw [hW];exact (Uf w.heap.size w).alloc (Ue _) _
 have hz:w.heap.size<W.heap.size:=by rw [hW];simp
 have b0:W.cell? ⟨w.heap.size,0,none⟩=some (.string o.t):=by rw [hW];simp
 have b1:W.cell? ⟨w.heap.size,1,none⟩=some (.string o.s):=by rw [hW];simp
 have WY:=aF hsl;have HO:=aF hown;clear hsl hown h0 h1 h2 h3;go_enter func143,ntmps143;go_wp2_with fail;rw [<-hW];clear hW;refine (BN ad cap xs o _ (by omega) (WY.out.below HB0.out)).mono ?_;rintro e w1 ⟨rfl,hb1⟩;have HB1:=aF (HB0.out.trans (hb1.mono HB0.out.size));have c0:=bC hb1 hz b0;have c1:=bC hb1 hz b1;have U7:=aF (df HO.out HB1.out);have HA1:Hid (Aside w (.slice ad xs.length cap) w1 (.slice ad xs.length cap)):=Aside.below HB1.out;clear hb1 b0 b1;cases hh:mM xs o;case true=>
  have HW:Hid (bf xs o=xs):=by show _=_;unfold bf;rw [hh];rfl
  go_wp2;go_ret;exact ⟨_,rfl,by rw [HW.out];exact U7.out,HA1.out,fun B' _ hB'=>HB1.out.mono hB'⟩
 have HW:Hid (bf xs o=xs++[o]):=by show _=_;unfold bf;rw [hh];rfl
 obtain ⟨W2,hW2⟩:∃ W2,W2=w1.alloc (.cells #[.string o.t,.string o.s] 27):=⟨_,rfl⟩;have UN:Hid (W2.ownsRow B 27 2 (.slice ad xs.length cap) xs.length (pairs xs)):=by show World.ownsRow _ _ _ _ _ _ _;rw [hW2];exact U7.out.alloc _
 have HA2:Hid (Aside w (.slice ad xs.length cap) W2 (.slice ad xs.length cap)):=by show Aside _ _ _ _;rw [hW2];exact HA1.out.trans (Aside.below ((Uf _ _).alloc (Ue _) _))
 have Y4:Hid (ag w W2):=by show Below _ _ _;rw [hW2];exact HB1.out.alloc HB1.out.size _
 have Wq:Hid (∀ j u,[Value.string o.t,.string o.s][j]?=some u->W2.cell? ((⟨w1.heap.size,0,none⟩:Addr).add j)=some u):=fun j u hu=>by
  rw [hW2]
  match j,hu with
  | 0,hu=>simp at hu;subst hu;simp [Addr.add]
  | 1,hu=>simp at hu;subst hu;simp [Addr.add]
 have hsz2:B<=W2.heap.size:=by have:=HB1.out.size;rw [hW2];simp;omega
 clear hh;go_wp2_with (at_builtin;rw [<-hW2];clear hW2;refine wpList_append_own_at _ rfl _ _ 49 rfl B 27 iO (.agg #[.string ⟨#[]⟩,.string ⟨#[]⟩]) 2 32 underlying49 YI.out.1 YI.out.2.1 YI.out.2.2.1 YI.out.2.2.2 rfl (by decide) _ xs.length (pairs xs) rfl UN.out ⟨w1.heap.size,0,none⟩ 1 1 [.string o.t,.string o.s] rfl rfl Wq.out (by simp [Value.oneCell']) (by unfold maxLen;omega) (by omega) hsz2 ?_);intro v' w3 hown hgr _ hat;have HE:Hid (w3.ownsRow B 27 2 v' (bf xs o).length (pairs (bf xs o))):=by
  show World.ownsRow _ _ _ _ _ _ _;rw [HW.out,Ul];have:pairs (xs++[o])=pairs xs++[.string o.t,.string o.s]:=by simp [pairs]
  rw [this];exact hown
 have HA3:Hid (Aside w (.slice ad xs.length cap) w3 v'):=HA2.out.trans (Aside.app hgr hat);have YG:Hid (∀ B',(∀ g,(Value.slice ad xs.length cap).ownBlock=some g->B'<=g)->B'<=w.heap.size->Below B' w w3):=fun B' hv hB'=>(Y4.out.mono hB').grown hgr (Uk hB' Y4.out.size) hv;clear hown hgr hat;go_wp2;go_ret;exact ⟨_,rfl,HE.out,HA3.out,YG.out⟩
open Go.Maps
def fO (xs:List Al)(t:Tp):List Al:=bf (bf xs ⟨t.a,t.b⟩) ⟨t.c,t.d⟩
def cz (xs:List Al)(t:Tp):List Al:=if t.s.toList==[] then bf xs ⟨t.c,t.d⟩ else xs
def eD (ts:List Tp):List Al:=ts.foldl fO []
def dh (ts:List Tp):List Al:=ts.foldl cz []
theorem AB (ts:List Tp)(t:Tp):eD (ts++[t])=fO (eD ts) t:=by simp [eD]
theorem xS (ts:List Tp)(t:Tp):dh (ts++[t])=cz (dh ts) t:=by simp [dh]
theorem oo (xs:List Al)(o:Al):(bf xs o).length<=xs.length+1:=by
 unfold bf;split
 ·omega
 simp
theorem qM (xs:List Al)(t:Tp):(fO xs t).length<=xs.length+2:=by
 unfold fO;have h1:=oo (bf xs ⟨t.a,t.b⟩) ⟨t.c,t.d⟩;have h2:=oo xs ⟨t.a,t.b⟩;omega
theorem qN (xs:List Al)(t:Tp):(cz xs t).length<=xs.length+1:=by
 unfold cz;split
 ·exact oo _ _
 omega
def LZ (t:Tp):K3:=(t.a,t.b,t.r)
def dM (ts:List Tp):List (K3×Tp):=ts.map fun t=>(LZ t,t)
theorem Jp (ts:List Tp)(t:Tp):dM (ts++[t])=dM ts++[(LZ t,t)]:=by simp [dM]
structure DatT (w:World)(D br bp:Nat)(tab:Value)(n1:Int)(E:List (K3×Tp))(xo xu:List Al)(np:Nat)(Mp:K3->Option Value)(vo vu:Value):Prop where
 gt:bp<D
 lt:D<w.heap.size
 kind:∃ cur,w.heap[D]?=some (.cells cur 168 (0,0))
 c0:w.cell? ⟨D,0,none⟩=some tab
 c1:w.cell? ⟨D,1,none⟩=some (.int .i64 n1)
 c2:w.cell? ⟨D,2,none⟩=some (.map (some br))
 c3:w.cell? ⟨D,3,none⟩=some (.map (some bp))
 c4:w.cell? ⟨D,4,none⟩=some vo
 c5:w.cell? ⟨D,5,none⟩=some vu
 told:G.Grp qw prog 223 46 6 Tp.row w bp np Mp E
 objs:w.ownsRow (bp+1) 27 2 vo xo.length (pairs xo)
 users:w.ownsRow (bp+1) 27 2 vu xu.length (pairs xu)
 apart:∀ g,vo.ownBlock=some g->vu.ownBlock≠some g
theorem dK {w:af}{base size n g:Nat}{e e':TypeId}{v:Value}{xs:List Value}{cur:Array Value}(h:w.ownsRow base e size v n xs)(hg:v.ownBlock=some g)(hc:w.heap[g]?=some (.cells cur e' (0,0))):e=e':=by
 rcases h.2 with ⟨rfl,-⟩|⟨g',cap,cur',rfl,-,hg',-⟩
 ·simp [Value.ownBlock]at hg
 have e1:g'=g:=by simpa [Value.ownBlock] using hg
 rw [e1,hc]at hg';injection hg' with hg';injection hg' with _ h2;exact h2.symm
theorem Ew {w:af}{base size n g:Nat}{e:TypeId}{v:Value}{xs:List Value}{es:Array MapEntry}{c:Nat}(h:w.ownsRow base e size v n xs)(hg:v.ownBlock=some g)(hc:w.heap[g]?=some (.map es c)):False:=by
 rcases h.2 with ⟨rfl,-⟩|⟨g',cap,cur',rfl,-,hg',-⟩
 ·simp [Value.ownBlock]at hg
 have e1:g'=g:=by simpa [Value.ownBlock] using hg
 rw [e1,hc]at hg';cases hg'
theorem d9 {w w':af}{base size n:Nat}{e:TypeId}{v:Value}{xs:List Value}(h:w.ownsRow base e size v n xs)(hb:∀ g,v.ownBlock=some g->w'.heap[g]?=w.heap[g]?):w'.ownsRow base e size v n xs:=by
 refine ⟨h.1,?_⟩;rcases h.2 with h0|⟨g,cap,cur,rfl,h1,h2,h3⟩
 ·exact .inl h0
 exact .inr ⟨g,cap,cur,rfl,h1,(hb g rfl).trans h2,h3⟩
theorem jI {w:af}{base size n g:Nat}{e:TypeId}{v:Value}{xs:List Value}(h:w.ownsRow base e size v n xs)(hg:v.ownBlock=some g):∃ cur,w.heap[g]?=some (.cells cur e (0,0)):=by
 rcases h.2 with ⟨rfl,-⟩|⟨g',cap,cur',rfl,-,hg',-⟩
 ·simp [Value.ownBlock]at hg
 have e1:g'=g:=by simpa [Value.ownBlock] using hg
 exact ⟨cur',by rw [<-e1];exact hg'⟩
theorem vI {w:af}{bp np:Nat}{Mp:K3->Option Value}{E:List (K3×Tp)}(h:G.Grp qw prog 223 46 6 Tp.row w bp np Mp E){k:K3}{v:Value}(hk:Mp k=some v):∃ n xs,w.ownsRow (bp+1) 46 6 v n xs:=by
 rcases h.row k with ⟨e,-⟩|⟨v',e,ho⟩
 ·rw [e]at hk;cases hk
 rw [e]at hk;injection hk with hk;subst hk;exact ⟨_,_,ho⟩
theorem Gs {w:af}{bp np g:Nat}{Mp:K3->Option Value}{E:List (K3×Tp)}{e:TypeId}{cur:Array Value}(h:G.Grp qw prog 223 46 6 Tp.row w bp np Mp E)(hc:w.heap[g]?=some (.cells cur e (0,0)))(hne:(46:TypeId)≠e):G.FreeB Mp g:=fun k v hk hg=>by
 obtain ⟨n,xs,ho⟩:=vI h hk;exact hne (dK ho hg hc)
theorem vJ {w w':af}{bp np:Nat}{Mp:K3->Option Value}{E:List (K3×Tp)}(h:G.Grp qw prog 223 46 6 Tp.row w bp np Mp E)(hm:w'.heap[bp]?=w.heap[bp]?)(hr:∀ k v g,Mp k=some v->v.ownBlock=some g->w'.heap[g]?=w.heap[g]?):G.Grp qw prog 223 46 6 Tp.row w' bp np Mp E where
 map:=h.map.of_block hm
 row k:=by
  rcases h.row k with e|⟨v,e,ho⟩
  ·exact .inl e
  exact .inr ⟨v,e,d9 ho fun g hg=>hr k v g e hg⟩
 apart:=h.apart
section
variable  {w w':World}{D br bp:Nat}{tab:Value}{n1:Int}{E:List (K3×Tp)}{xo xu:List Al}{np:Nat}{Mp:K3->Option Value}{vo vu:Value}
theorem DatT.below (h:DatT w D br bp tab n1 E xo xu np Mp vo vu)(hb:ag w w'):DatT w' D br bp tab n1 E xo xu np Mp vo vu where
 gt:=h.gt
 lt:=Uc h.lt hb.size
 kind:=by obtain ⟨cur,e⟩:=h.kind;exact ⟨cur,(hb.block D h.lt).trans e⟩
 c0:=(hb.cell (p:=⟨D,0,none⟩) h.lt).trans h.c0
 c1:=(hb.cell (p:=⟨D,1,none⟩) h.lt).trans h.c1
 c2:=(hb.cell (p:=⟨D,2,none⟩) h.lt).trans h.c2
 c3:=(hb.cell (p:=⟨D,3,none⟩) h.lt).trans h.c3
 c4:=(hb.cell (p:=⟨D,4,none⟩) h.lt).trans h.c4
 c5:=(hb.cell (p:=⟨D,5,none⟩) h.lt).trans h.c5
 told:=h.told.below hb
 objs:=df h.objs hb
 users:=df h.users hb
 apart:=h.apart
theorem DatT.tell (h:DatT w D br bp tab n1 E xo xu np Mp vo vu){Mp':K3->Option Value}{E':List (K3×Tp)}{np':Nat}(hg:G.Grp qw prog 223 46 6 Tp.row w' bp np' Mp' E')(hs:G.Stl w Mp w' Mp' bp):DatT w' D br bp tab n1 E' xo xu np' Mp' vo vu:=by
 have hD:w'.heap[D]?=w.heap[D]?:=by
  obtain ⟨cur,e⟩:=h.kind;exact hs.block D h.lt (by have:=h.gt;omega) (Gs h.told e (by decide))
 have hc:∀ o,w'.cell? ⟨D,o,none⟩=w.cell? ⟨D,o,none⟩:=fun o=>Uy (w:=w) (a:=⟨D,o,none⟩) hD;have hO:∀ {v:Value} {n:Nat} {xs:List Value},w.ownsRow (bp+1) 27 2 v n xs->w'.ownsRow (bp+1) 27 2 v n xs:=fun {v n xs} ho=>d9 ho fun g hg=>by
  obtain ⟨cur,e⟩:=jI ho hg;have:=ho.lt g hg;exact hs.block g this.2 (by omega) (Gs h.told e (by decide))
 exact ⟨h.gt,Uc h.lt hs.size,by obtain ⟨cur,e⟩:=h.kind;exact ⟨cur,hD.trans e⟩,(hc _).trans h.c0,(hc _).trans h.c1,(hc _).trans h.c2,(hc _).trans h.c3,(hc _).trans h.c4,(hc _).trans h.c5,hg,hO h.objs,hO h.users,h.apart⟩
theorem DatT.newO (h:DatT w D br bp tab n1 E xo xu np Mp vo vu){XZ:Value}{xo':List Al}(ho:w'.ownsRow (bp+1) 27 2 XZ xo'.length (pairs xo'))(ha:Aside w vo w' XZ):DatT (w'.setCell ⟨D,4,none⟩ XZ) D br bp tab n1 E xo' xu np Mp XZ vu:=by
 obtain ⟨cur,hk⟩:=h.kind;have X0:vo.ownBlock≠some D:=fun e=>absurd (dK h.objs e hk) (by decide);have hD:w'.heap[D]?=w.heap[D]?:=ha.block D h.lt X0;have hc:∀ o,w'.cell? ⟨D,o,none⟩=w.cell? ⟨D,o,none⟩:=fun o=>Uy (w:=w) (a:=⟨D,o,none⟩) hD;have hc2:∀ o,o≠4->(w'.setCell ⟨D,4,none⟩ XZ).cell? ⟨D,o,none⟩=w.cell? ⟨D,o,none⟩:=fun o ne=>(kL (by omega)).trans (hc o);have hDn:XZ.ownBlock≠some D:=ha.apart h.lt X0;have hne:∀ g,g≠D->(w'.setCell ⟨D,4,none⟩ XZ).heap[g]?=w'.heap[g]?:=fun g e=>heap_setCell_other w' ⟨D,4,none⟩ g XZ e;have hbp:bp<w.heap.size:=by have:=h.gt;have:=h.lt;omega
 have hrow:∀ k v g,Mp k=some v->v.ownBlock=some g->(w'.setCell ⟨D,4,none⟩ XZ).heap[g]?=w.heap[g]?:=fun k v g hm hg=>by
  obtain ⟨n,xs,hr⟩:=vI h.told hm;obtain ⟨cr,er⟩:=jI hr hg;rw [hne g (fun e=>absurd (dK hr (e ▸ hg) hk) (by decide))];exact ha.block g (hr.lt g hg).2 (fun e=>absurd (dK h.objs e er) (by decide))
 refine ⟨h.gt,by simpa using Uc h.lt ha.size,⟨_,heap_setCell_same w' D 4 cur _ XZ (hD.trans hk)⟩,(hc2 0 (by omega)).trans h.c0,(hc2 1 (by omega)).trans h.c1,(hc2 2 (by omega)).trans h.c2,(hc2 3 (by omega)).trans h.c3,Oz ((hc 4).trans h.c4),(hc2 5 (by omega)).trans h.c5,vJ h.told ?_ hrow,d9 ho fun g hg=>hne g fun e=>hDn (e ▸ hg),d9 h.users fun g hg=>?_,fun g hg hu=>?_⟩
 ·rw [hne bp (by have:=h.gt;omega)];exact ha.block bp hbp fun e=>by have:=(h.objs.lt bp e).1;omega
 ·rw [hne g (fun e=>absurd (dK h.users (e ▸ hg) hk) (by decide))];exact ha.block g (h.users.lt g hg).2 fun e=>h.apart g e hg
 rcases ha.own with e|⟨g',e,hg'⟩
 ·exact h.apart g (e ▸ hg) hu
 rw [hg]at e;injection e with e;have:=(h.users.lt g hu).2;omega
theorem DatT.newU (h:DatT w D br bp tab n1 E xo xu np Mp vo vu){X7:Value}{xu':List Al}(ho:w'.ownsRow (bp+1) 27 2 X7 xu'.length (pairs xu'))(ha:Aside w vu w' X7):DatT (w'.setCell ⟨D,5,none⟩ X7) D br bp tab n1 E xo xu' np Mp vo X7:=by
 obtain ⟨cur,hk⟩:=h.kind;have X0:vu.ownBlock≠some D:=fun e=>absurd (dK h.users e hk) (by decide);have hD:w'.heap[D]?=w.heap[D]?:=ha.block D h.lt X0;have hc:∀ o,w'.cell? ⟨D,o,none⟩=w.cell? ⟨D,o,none⟩:=fun o=>Uy (w:=w) (a:=⟨D,o,none⟩) hD;have hc2:∀ o,o≠5->(w'.setCell ⟨D,5,none⟩ X7).cell? ⟨D,o,none⟩=w.cell? ⟨D,o,none⟩:=fun o ne=>(kL (by omega)).trans (hc o);have hDn:X7.ownBlock≠some D:=ha.apart h.lt X0;have hne:∀ g,g≠D->(w'.setCell ⟨D,5,none⟩ X7).heap[g]?=w'.heap[g]?:=fun g e=>heap_setCell_other w' ⟨D,5,none⟩ g X7 e;have hbp:bp<w.heap.size:=by have:=h.gt;have:=h.lt;omega
 have hrow:∀ k v g,Mp k=some v->v.ownBlock=some g->(w'.setCell ⟨D,5,none⟩ X7).heap[g]?=w.heap[g]?:=fun k v g hm hg=>by
  obtain ⟨n,xs,hr⟩:=vI h.told hm;obtain ⟨cr,er⟩:=jI hr hg;rw [hne g (fun e=>absurd (dK hr (e ▸ hg) hk) (by decide))];exact ha.block g (hr.lt g hg).2 (fun e=>absurd (dK h.users e er) (by decide))
 refine ⟨h.gt,by simpa using Uc h.lt ha.size,⟨_,heap_setCell_same w' D 5 cur _ X7 (hD.trans hk)⟩,(hc2 0 (by omega)).trans h.c0,(hc2 1 (by omega)).trans h.c1,(hc2 2 (by omega)).trans h.c2,(hc2 3 (by omega)).trans h.c3,(hc2 4 (by omega)).trans h.c4,Oz ((hc 5).trans h.c5),vJ h.told ?_ hrow,d9 h.objs fun g hg=>?_,d9 ho fun g hg=>hne g fun e=>hDn (e ▸ hg),fun g hg hu=>?_⟩
 ·rw [hne bp (by have:=h.gt;omega)];exact ha.block bp hbp fun e=>by have:=(h.users.lt bp e).1;omega
 ·rw [hne g (fun e=>absurd (dK h.objs (e ▸ hg) hk) (by decide))];exact ha.block g (h.objs.lt g hg).2 fun e=>h.apart g hg e
 rcases ha.own with e|⟨g',e,hg'⟩
 ·exact h.apart g hg (e ▸ hu)
 rw [hu]at e;injection e with e;have:=(h.objs.lt g hg).2;omega
end
theorem OW:∃ i,prog.info? 46=some i/\i.zero=some (.agg #[.string ⟨#[]⟩,.string ⟨#[]⟩,.string ⟨#[]⟩,.string ⟨#[]⟩,.string ⟨#[]⟩,.string ⟨#[]⟩])/\i.size=6/\i.bytes=96 :=
 info_parts (P:=prog) (e:=46) (z:=.agg #[.string ⟨#[]⟩,.string ⟨#[]⟩,.string ⟨#[]⟩,.string ⟨#[]⟩,.string ⟨#[]⟩,.string ⟨#[]⟩]) (size:=6) (bytes:=96) (by kernel_rfl)
theorem Jq (u:af):(zeroValue 25).run prog u=.ok (.slice none 0 0) u:=by kernel_rfl
theorem Dh {w:af}{bp np:Nat}{Mp:K3->Option Value}{E:List (K3×Tp)}(h:G.Grp qw prog 223 46 6 Tp.row w bp np Mp E)(k:K3):w.ownsRow (bp+1) 46 6 ((Mp k).getD (.slice none 0 0)) (G.lookL E k).length (G.flatG Tp.row (G.lookL E k)):=by
 rcases h.row k with ⟨e,e2⟩|⟨v,e,ho⟩
 ·rw [e,e2];exact World.ownsRow_nil _ _ _ _
 rw [e];exact ho
theorem news_of_block {w:af}{g:Nat}{cs:Array Value}{T:TypeId}(h:w.heap[g]?=some (.cells cs T (0,0))):∀ j u,cs.toList[j]?=some u->w.cell? ((⟨g,0,none⟩:Addr).add j)=some u:=by
 intro j u hu;have e:(⟨g,0,none⟩:Addr).add j=⟨g,j,none⟩:=by
  unfold Addr.add;by_cases hj:j=0
  ·subst hj;simp
  simp [hj]
 rw [e];simp [World.cell?,h];simpa using hu
theorem uj.block {w w':af}{g:Nat}{t:Tp}(h:uj w g t)(e:w'.heap[g]?=w.heap[g]?)(hl:g<w'.heap.size):uj w' g t:=by
 obtain ⟨h0,h1,h2,h3,h4,h5,_⟩:=h;have hc:∀ o,w'.cell? ⟨g,o,none⟩=w.cell? ⟨g,o,none⟩:=fun o=>Uy (w:=w) (a:=⟨g,o,none⟩) e;exact ⟨(hc _).trans h0,(hc _).trans h1,(hc _).trans h2,(hc _).trans h3,(hc _).trans h4,(hc _).trans h5,hl⟩
theorem gJ {w:af}{g:Nat}{cs:Array Value}{T:TypeId}(h:w.heap[g]?=some (.cells cs T (0,0)))(o:Nat):w.frozen? ⟨g,o,none⟩=false:=by
 simp [World.frozen?,h]
theorem uj.aside {w w':af}{g base n:Nat}{t:Tp}{v v':Value}{xs:List Value}(h:uj w g t)(hc:∃ cur,w.heap[g]?=some (.cells cur 46 (0,0)))(ho:w.ownsRow base 27 2 v n xs)(ha:Aside w v w' v'):uj w' g t/\∃ cur,w'.heap[g]?=some (.cells cur 46 (0,0)):=by
 obtain ⟨cur,e⟩:=hc;have hl:=h.2.2.2.2.2.2;have hb:=ha.block g hl fun hg=>absurd (dK ho hg e) (by decide);exact ⟨h.block hb (Uc hl ha.size),cur,hb.trans e⟩
theorem OX (D br bp:Nat)(tab:Value)(n1:Int)(E:List (K3×Tp))(xo xu:List Al)(np:Nat)(Mp:K3->Option Value)(vo vu:Value)(t:Tp)(w:af)(hd:DatT w D br bp tab n1 E xo xu np Mp vo vu)(hnp:np<=1000)(hE:E.length<=1000)(hxo:xo.length<=500)(hxu:xu.length<=500)(ht:t.fits) :
  Calls prog 101 #[.pointer (some ⟨D,0,none⟩),.agg #[.string t.a,.string t.b,.string t.r,.string t.c,.string t.d,.string t.s]] w fun e w'=>e=.returned (.tuple #[])/\(∃ Mp' XZ X7,DatT w' D br bp tab n1 (E++[(LZ t,t)]) (fO xo t) (cz xu t) (np+1) Mp' XZ X7)/\Below bp w w':=by
 obtain ⟨iT,h0,h1,h2,h3⟩:=OW;have HIT:=aF (And.intro h0 (And.intro h1 (And.intro h2 h3)));obtain ⟨W,hW⟩:∃ W,W=(w.alloc (.cells #[.string t.a,.string t.b,.string t.r,.string t.c,.string t.d,.string t.s] 46)).alloc (.cells #[.string t.a,.string t.b,.string t.r] 223):=⟨_,rfl⟩;have UU:Hid (ag w W):=by show Below _ _ _;rw [hW];exact ((Uf _ _).alloc (Ue _) _).alloc (by simp) _
 have hWs:W.heap.size=w.heap.size+2:=by rw [hW];simp
 have HT6:Hid (uj W w.heap.size t):=by show uj _ _ _;rw [hW];refine ⟨?_,?_,?_,?_,?_,?_,?_⟩ <;> first|(simp;done)|(simp;omega)
 have HK3:Hid (W.cell? ⟨w.heap.size+1,0,none⟩=some (.string t.a)/\W.cell? ⟨w.heap.size+1,1,none⟩=some (.string t.b)/\W.cell? ⟨w.heap.size+1,2,none⟩=some (.string t.r)):=by show _/\_;rw [hW];refine ⟨?_,?_,?_⟩ <;> simp
 have HD:=aF (hd.below UU.out);have hDl:D<w.heap.size:=hd.lt;have HFB:Hid (G.FreeB Mp w.heap.size):=hd.told.fresh (Ue _);have Vg:Hid (W.heap[w.heap.size]?=some (.cells #[.string t.a,.string t.b,.string t.r,.string t.c,.string t.d,.string t.s] 46 (0,0))):=by show _=_;rw [hW,Below.heap_alloc _ _ _ (by simp)];exact heap_alloc_new w _
 have hbD:bp<D:=hd.gt;have HLL:Hid ((G.lookL E (LZ t)).length<=1000):=Uk (List.length_filterMap_le _ _) hE;obtain ⟨row0,hr0⟩:∃ r,r=(Mp (LZ t)).getD (.slice none 0 0):=⟨_,rfl⟩;obtain ⟨nn,hnn⟩:∃ n,n=(G.lookL E (LZ t)).length:=⟨_,rfl⟩;obtain ⟨xs,hxs⟩:∃ x,x=G.flatG Tp.row (G.lookL E (LZ t)):=⟨_,rfl⟩;have VO:=aF hr0;have WQ:=aF hnn;have WC:=aF hxs;have hnl:nn<=1000:=by rw [hnn];exact HLL.out
 have VE:Hid (∀ W0:World,ag W W0->W0.ownsRow (bp+1) 46 6 row0 nn xs):=fun W0 hb=>by rw [hr0,hnn,hxs];exact Dh (HD.out.told.below hb) _
 have HKEY:Hid (∃ kl,keyOf prog 223 (qw (LZ t))=some kl):=D6 _ ht.1 ht.2.1 ht.2.2.1;clear h0 h1 h2 h3 hr0 hnn hxs hd hE;obtain ⟨C2,hC2⟩:∃ C:Nat->Value,C=fun n=>(Value.pointer (some ⟨D,0,none⟩)::.pointer (some ⟨D,0,none⟩)::.pointer (some ⟨D,3,none⟩)::.map (some bp)::.agg #[.string t.a,.string t.b,.string t.r]::.agg #[.string t.a,.string t.b,.string t.r,.string t.c,.string t.d,.string t.s]::[]).getD n undef:=⟨_,rfl⟩;have Vq:Hid (C2 0=Value.pointer (some ⟨D,0,none⟩)/\C2 1=Value.pointer (some ⟨D,0,none⟩)/\C2 2=Value.pointer (some ⟨D,3,none⟩)/\C2 3=Value.map (some bp)/\C2 4=Value.agg #[.string t.a,.string t.b,.string t.r]/\C2 5=Value.agg #[.string t.a,.string t.b,.string t.r,.string t.c,.string t.d,.string t.s]):=by show _/\_;rw [hC2];exact ⟨rfl,rfl,rfl,rfl,rfl,rfl⟩
 clear hC2;go_enter func101,ntmps101;go_wp2_with fail;rw [<-hW];clear hW;refine pU 11 (fun _=>undef) (fun fq=>{ tmps:=List.toArray (Value.pointer (some ⟨D,0,none⟩)::.agg #[.string t.a,.string t.b,.string t.r,.string t.c,.string t.d,.string t.s]::undef::.pointer (some ⟨w.heap.size,0,none⟩)::.pointer (some ⟨w.heap.size+1,0,none⟩)::.pointer (some ⟨w.heap.size,0,none⟩)::.agg #[.string t.a,.string t.b]::.pointer (some ⟨w.heap.size,2,none⟩)::.string t.r::.agg #[.string t.a,.string t.b,.string t.r]::(fq 0)::(fq 1)::(fq 2)::(fq 3)::(fq 4)::(fq 8)::(fq 5)::(fq 6)::(fq 7)::(fq 9)::(fq 10)::undef::undef::undef::undef::undef::undef::undef::undef::undef::undef::undef::undef::undef::undef::undef::undef::undef::undef::undef::undef::undef::undef::undef::undef::undef::undef::undef::undef::undef::undef::undef::undef::undef::[]),defers:=[] }) (G.EI C2 #[.string t.a,.string t.b,.string t.r,.string t.c,.string t.d,.string t.s] 46 6 W bp row0 nn xs (G.Back qw prog 223 166 bp np Mp (LZ t))) (by kernel_rfl) rfl (by kernel_rfl) (by kernel_rfl) rfl (G.ei_start W) ?stepA ?finA;case stepA =>
  rintro i hi o ho l fq w' VC hI hpre;have HI:=aA hI;have UQ:Hid (∀ e∈o.after,Region.binds .any e=true->l e.on=true):=hpre;clear hI hpre;have hc:=Nj (i:=i) (by omega);clear hi
  repeat' rcases hc with rfl|hc
  ·cases ho;have hA:=HI.out.early (i:=0) (by omega) VC;clear UQ HI;refine aa rfl fun K HK=>?_;go_simp;exact HK.out _ _ ⟨Value.pointer (some ⟨D,0,none⟩),by simp [upd, *],hA.put (by omega) Vq.out.1.symm⟩
  ·cases ho;have hA:=HI.out.early (i:=1) (by omega) VC;have e0:=(hA.val 0 (by omega) (UQ.out ⟨0,.data⟩ (by simp) rfl)).trans Vq.out.1;clear UQ HI;refine aa rfl fun K HK=>?_;simp only [e0];go_simp;exact HK.out _ _ ⟨Value.pointer (some ⟨D,0,none⟩),by simp [upd, *],hA.put (by omega) Vq.out.2.1.symm⟩
  ·cases ho;have hA:=HI.out.early (i:=2) (by omega) VC;have e1:=(hA.val 1 (by omega) (UQ.out ⟨1,.data⟩ (by simp) rfl)).trans Vq.out.2.1;clear UQ HI;refine aa rfl fun K HK=>?_;simp only [e1];go_simp;exact HK.out _ _ ⟨Value.pointer (some ⟨D,3,none⟩),by simp [upd, *],hA.put (by omega) Vq.out.2.2.1.symm⟩
  ·cases ho;have hA:=HI.out.early (i:=3) (by omega) VC;have e2:=(hA.val 2 (by omega) (UQ.out ⟨2,.data⟩ (by simp) rfl)).trans Vq.out.2.2.1;have hb':=hA.bel;have d3:=(hb'.cell (p:=⟨D,3,none⟩) (by show D<_;omega)).trans HD.out.c3;clear UQ HI;refine aa rfl fun K HK=>?_;simp only [e2];go_simp;exact HK.out _ _ ⟨Value.map (some bp),by simp [upd, *],hA.put (by omega) Vq.out.2.2.2.1.symm⟩
  ·cases ho;have hA:=HI.out.early (i:=4) (by omega) VC;have hb':=hA.bel;have k0:=(hb'.cell (p:=⟨w.heap.size+1,0,none⟩) (by show w.heap.size+1<_;omega)).trans HK3.out.1;have k1:=(hb'.cell (p:=⟨w.heap.size+1,1,none⟩) (by show w.heap.size+1<_;omega)).trans HK3.out.2.1;have k2:=(hb'.cell (p:=⟨w.heap.size+1,2,none⟩) (by show w.heap.size+1<_;omega)).trans HK3.out.2.2;clear UQ HI;refine aa rfl fun K HK=>?_;go_simp;exact HK.out _ _ ⟨Value.agg #[.string t.a,.string t.b,.string t.r],by simp [upd, *],hA.put (by omega) Vq.out.2.2.2.2.1.symm⟩
  ·cases ho;have hA:=HI.out.early (i:=5) (by omega) VC;have hb':=hA.bel;obtain ⟨t0,t1,t2,t3,t4,t5,tl⟩:=HT6.out.below hb';clear UQ HI;refine aa rfl fun K HK=>?_;go_simp;exact HK.out _ _ ⟨Value.agg #[.string t.a,.string t.b,.string t.r,.string t.c,.string t.d,.string t.s],by simp [upd, *],hA.put (by omega) Vq.out.2.2.2.2.2.symm⟩
  ·cases ho;have hA:=HI.out.early (i:=6) (by omega) VC;have e5:=(hA.val 5 (by omega) (UQ.out ⟨5,.data⟩ (by simp) rfl)).trans Vq.out.2.2.2.2.2;clear UQ HI;refine aa rfl fun K HK=>?_;simp only [e5];go_simp;exact HK.out _ _ ⟨_,by simp [upd,e5],hA.lay⟩
  ·cases ho;have hA:=HI.out.early (i:=7) (by omega) VC;have e3:=(hA.val 3 (by omega) (UQ.out ⟨3,.data⟩ (by simp) rfl)).trans Vq.out.2.2.2.1;have e4:=(hA.val 4 (by omega) (UQ.out ⟨4,.data⟩ (by simp) rfl)).trans Vq.out.2.2.2.2.1;have hall:∀ k,k<=6->l k=true:=fun k hk=>by
    have hc:=Tw (i:=k) (by omega)
    repeat' rcases hc with rfl|hc
    all_goals exact UQ.out ⟨_,.phase⟩ (by simp) rfl
   have hD':=HD.out.below hA.bel;obtain ⟨kl,hkl⟩:=HKEY.out;obtain ⟨st,w1,hrun,hg,hback⟩:=hD'.told.map.entry NT NS underlying166 Jq (by unfold maxLen;omega) hkl;rw [<-VO.out]at hrun;have hrun':(Instr.mapEntry 166 (.map (some bp)) (Value.agg #[.string t.a,.string t.b,.string t.r])).run prog w'=.ok (.tuple #[row0,goInt st]) w1:=hrun;clear UQ HI;refine aa rfl fun K HK=>?_;simp only [e3,e4];go_simp;exact HK.out _ _ ⟨_,by simp [upd,e3,e4,goInt],hA.took hall hg hback⟩
  ·cases ho;have h7:=UQ.out ⟨7,.data⟩ (by simp) rfl;have hB:=HI.out.midB h7 (i:=8) (by omega) VC;obtain ⟨st,e7⟩:=HI.out.seven h7;clear UQ HI;refine aa rfl fun K HK=>?_;simp only [e7];go_simp;exact HK.out _ _ ⟨_,by simp [upd,e7,goInt],hB.first⟩
  ·cases ho;have h7:=UQ.out ⟨7,.chain⟩ (by simp) rfl;have h8:=UQ.out ⟨8,.data⟩ (by simp) rfl;have hB:=HI.out.midB h7 (i:=9) (by omega) VC;obtain ⟨W0,st,g,hm1,hm2,XE,YJ,Xp,e7,hm7,hm8,hm9⟩:=hB.mid;have e8:=hm8 h8;have hown:=(VE.out W0 hm1).kept Xp (by
    rcases h:row0.ownBlock with _|g'
    ·exact .inl rfl
    right;intro e;injection e with e;have:=((VE.out W0 hm1).lt g' h).1;omega)
   have hnew:w'.heap[g]?=some (.cells #[.string t.a,.string t.b,.string t.r,.string t.c,.string t.d,.string t.s] 46 (0,0)):=by
    have hgl:g<W0.heap.size:=by
     rcases Nat.lt_or_ge g W0.heap.size with h|h
     ·exact h
     rw [Array.getElem?_eq_none h]at YJ;cases YJ
    rw [Xp.block g hgl (fun e=>by injection e with e;omega)];exact YJ
   clear UQ HI;refine kH w' rfl rfl _ _ 25 rfl (bp+1) 46 iT _ 6 96 underlying25 HIT.out.1 HIT.out.2.1 HIT.out.2.2.1 HIT.out.2.2.2 rfl (by decide) row0 nn xs (by simp [Act.eval,e8]) hown ⟨g,0,none⟩ 1 1 [Value.string t.a,.string t.b,.string t.r,.string t.c,.string t.d,.string t.s] (by simp [Act.eval,hm2]) rfl (fun j u hu=>news_of_block hnew j u hu) (by simp [Value.oneCell']) (by unfold maxLen;omega) (by omega) (by have:=Xp.size;have:=hm1.size;omega) ?_;intro v' w2 hown2 Vd ZB;exact ⟨v',by simp [upd,Act.put],hB.app h8 Vd hown2 ZB⟩
  cases ho;have h7:=UQ.out ⟨7,.data⟩ (by simp) rfl;obtain ⟨st,e7⟩:=HI.out.seven h7;have HI2:=HI.out.second h7 e7;clear UQ HI;refine aa rfl fun K HK=>?_;simp only [e7];go_simp;exact HK.out _ _ ⟨_,by simp [upd,e7,goInt],HI2⟩
 case finA =>
  rintro o ho l fq w' hall hI;obtain rfl:=Option.some.inj ho;have hC:=hI.last hall;obtain ⟨W0,w1,st,hm1,hm2,XE,YJ,Xp,hm6,-,hm8⟩:=hC.mid;have e10:=hm8 (hall 10 (by omega));have e3:=(hC.val 3 (by omega)).trans Vq.out.2.2.2.1;obtain ⟨w3,hrun,hM3,hg3⟩:=hm6 w' (fq 9) (XE.block bp (by have:=hm2.size;have:=hm1.size;omega) (fun e=>by have:=(VE.out W0 hm1).lt bp e.symm;omega));have hst:=(HD.out.told.below hm1).step (y:=LZ t) (s:=t) hm2 (by rw [<-WQ.out,<-WC.out];exact YJ) (by rw [<-VO.out];exact XE) (by rw [<-VO.out];exact Xp) hg3 hM3;have HD3:=aF ((HD.out.below hm1).tell hst.1 hst.2);have HB3:Hid (Below bp w w3):=by
   have b0:Below bp w W0:=(UU.out.trans (hm1.mono UU.out.size)).mono (by omega);have b1:Below bp w w1:=b0.grown hm2 (by have:=hm1.size;omega) (fun i hi=>by injection hi with hi;omega);have b2:Below bp w w':=b1.grown XE (by have:=hm2.size;have:=hm1.size;omega) (fun i hi=>by have:=((VE.out W0 hm1).lt i hi).1;omega);exact b2.grown hg3 (by have:=XE.size;have:=hm2.size;have:=hm1.size;omega) (fun i hi=>by injection hi with hi;omega)
  have hz3:W.heap.size<=w3.heap.size:=by have:=hg3.size;have:=XE.size;have:=hm2.size;have:=hm1.size;omega
  have hbx3:w3.heap[w.heap.size]?=some (.cells #[.string t.a,.string t.b,.string t.r,.string t.c,.string t.d,.string t.s] 46 (0,0)):=by
   rw [hst.2.block w.heap.size (by have:=hm1.size;omega) (by omega) HFB.out,hm1.block w.heap.size (by omega)];exact Vg.out
  have HT3:Hid (uj w3 w.heap.size t/\∃ cur,w3.heap[w.heap.size]?=some (.cells cur 46 (0,0))):=⟨HT6.out.block (by rw [hbx3,Vg.out]) (by omega),_,hbx3⟩;have We:(Instr.entryStore 166 (.map (some bp)) (.int .i64 st) (fq 9)).run prog w'=.ok () w3:=hrun;obtain ⟨Mn,hMn⟩:∃ M,M=lc Mp (LZ t) (some (fq 9)):=⟨_,rfl⟩;rw [<-hMn]at HD3;refine aa rfl fun K HK=>?_;simp only [e3,e10];go_simp;refine HK.out _ _ ?_;clear hst hrun We hM3 hg3 hm1 hm2 XE YJ Xp hm6 hm8 hC hI hall ho HK K e3 e10 HD HT6 HK3 UU VE Vg Vq HKEY HFB hMn VO WQ WC hbx3;obtain ⟨y0,hy0⟩:∃ y,y=fq 0:=⟨_,rfl⟩;rw [<-hy0];obtain ⟨y1,hy1⟩:∃ y,y=fq 1:=⟨_,rfl⟩;rw [<-hy1];obtain ⟨y2,hy2⟩:∃ y,y=fq 2:=⟨_,rfl⟩;rw [<-hy2];obtain ⟨y4,hy4⟩:∃ y,y=fq 4:=⟨_,rfl⟩;rw [<-hy4];obtain ⟨y8,hy8⟩:∃ y,y=fq 8:=⟨_,rfl⟩;rw [<-hy8];obtain ⟨y5,hy5⟩:∃ y,y=fq 5:=⟨_,rfl⟩;rw [<-hy5];obtain ⟨y6,hy6⟩:∃ y,y=fq 6:=⟨_,rfl⟩;rw [<-hy6];obtain ⟨y7,hy7⟩:∃ y,y=fq 7:=⟨_,rfl⟩;rw [<-hy7];obtain ⟨y9,hy9⟩:∃ y,y=fq 9:=⟨_,rfl⟩;rw [<-hy9];clear hy0 hy1 hy2 hy4 hy8 hy5 hy6 hy7 hy9 fq l hz3;go_wp2_with fail;have hbz:bp+1<=w3.heap.size:=by have:=HD3.out.lt;have:=HD3.out.gt;omega
  have hx1:(bf xo ⟨t.a,t.b⟩).length<=501:=by have:=oo xo ⟨t.a,t.b⟩;omega
  obtain ⟨CB,hCB⟩:∃ C:Nat->Value,C=fun n=>(Value.pointer (some ⟨D,0,none⟩)::.pointer (some ⟨D,0,none⟩)::.pointer (some ⟨D,0,none⟩)::.pointer (some ⟨D,4,none⟩)::vo::.pointer (some ⟨w.heap.size,0,none⟩)::.agg #[.string t.a,.string t.b]::undef::.pointer (some ⟨D,0,none⟩)::.pointer (some ⟨D,4,none⟩)::[]).getD n undef:=⟨_,rfl⟩;have Xq:Hid (CB 0=Value.pointer (some ⟨D,0,none⟩)/\CB 1=Value.pointer (some ⟨D,0,none⟩)/\CB 2=Value.pointer (some ⟨D,0,none⟩)/\CB 3=Value.pointer (some ⟨D,4,none⟩)/\CB 4=vo/\CB 5=Value.pointer (some ⟨w.heap.size,0,none⟩)/\CB 6=Value.agg #[.string t.a,.string t.b]/\CB 7=undef/\CB 8=Value.pointer (some ⟨D,0,none⟩)/\CB 9=Value.pointer (some ⟨D,4,none⟩)):=by show _/\_;rw [hCB];exact ⟨rfl,rfl,rfl,rfl,rfl,rfl,rfl,rfl,rfl,rfl⟩
  clear hCB;refine jT 10 (fun _=>undef) (fun fr=>{ tmps:=List.toArray (Value.pointer (some ⟨D,0,none⟩)::.agg #[.string t.a,.string t.b,.string t.r,.string t.c,.string t.d,.string t.s]::undef::.pointer (some ⟨w.heap.size,0,none⟩)::.pointer (some ⟨w.heap.size+1,0,none⟩)::.pointer (some ⟨w.heap.size,0,none⟩)::.agg #[.string t.a,.string t.b]::.pointer (some ⟨w.heap.size,2,none⟩)::.string t.r::.agg #[.string t.a,.string t.b,.string t.r]::y0::y1::y2::.map (some bp)::y4::y8::y5::y6::y7::y9::.int .i64 st::(fr 0)::(fr 1)::(fr 2)::(fr 3)::(fr 4)::(fr 5)::(fr 6)::(fr 7)::(fr 8)::(fr 9)::undef::undef::undef::undef::undef::undef::undef::undef::undef::undef::undef::undef::undef::undef::undef::undef::undef::undef::undef::undef::undef::undef::undef::[]),defers:=[] }) (G.WI CB w3 (fun v' w'=>∃ w1,ag w3 w1/\w'.ownsRow (bp+1) 27 2 v' (bf xo ⟨t.a,t.b⟩).length (pairs (bf xo ⟨t.a,t.b⟩))/\Aside w1 vo w' v'/\∀ B',(∀ g,vo.ownBlock=some g->B'<=g)->B'<=w1.heap.size->Below B' w1 w')) (by kernel_rfl) rfl (by kernel_rfl) (fun o ho l f w' hI hp=>?clB) rfl (G.wi_start w3) ?xR ?finB;case clB =>
   cases ho;intro k hk;have h9:=hp ⟨9,.data⟩ (by simp) rfl;have hc:=ul (i:=k) (by omega)
   repeat' rcases hc with rfl|hc
   all_goals first|exact hI.nin h9|exact h9|exact hp ⟨_,.phase⟩ (by simp) rfl
  case xR =>
   rintro i hi o ho l fr w' VC hI hpre;have HI:Hid (G.WI CB w3 (fun v' w'=>∃ w1,ag w3 w1/\w'.ownsRow (bp+1) 27 2 v' (bf xo ⟨t.a,t.b⟩).length (pairs (bf xo ⟨t.a,t.b⟩))/\Aside w1 vo w' v'/\∀ B',(∀ g,vo.ownBlock=some g->B'<=g)->B'<=w1.heap.size->Below B' w1 w') l fr w'):=hI;have UQ:Hid (∀ e∈o.after,Region.binds .any e=true->l e.on=true):=hpre;clear hI hpre;have hc:=ul (i:=i) (by omega);clear hi
   repeat' rcases hc with rfl|hc
   ·cases ho;have hW:=HI.out;clear UQ HI;refine aa rfl fun K HK=>?_;go_simp;exact HK.out _ _ ⟨Value.pointer (some ⟨D,0,none⟩),by simp [upd, *],hW.put (by omega) (by omega) Xq.out.1.symm⟩
   ·cases ho;have hW:=HI.out;clear UQ HI;refine aa rfl fun K HK=>?_;go_simp;exact HK.out _ _ ⟨Value.pointer (some ⟨D,0,none⟩),by simp [upd, *],hW.put (by omega) (by omega) Xq.out.2.1.symm⟩
   ·cases ho;have hW:=HI.out;have e1:=(HI.out.val 1 (by omega) (by omega) (UQ.out ⟨1,.data⟩ (by simp) rfl)).trans Xq.out.2.1;clear UQ HI;refine aa rfl fun K HK=>?_;simp only [e1];go_simp;exact HK.out _ _ ⟨Value.pointer (some ⟨D,0,none⟩),by simp [upd, *],hW.put (by omega) (by omega) Xq.out.2.2.1.symm⟩
   ·cases ho;have hW:=HI.out;have e2:=(HI.out.val 2 (by omega) (by omega) (UQ.out ⟨2,.data⟩ (by simp) rfl)).trans Xq.out.2.2.1;clear UQ HI;refine aa rfl fun K HK=>?_;simp only [e2];go_simp;exact HK.out _ _ ⟨Value.pointer (some ⟨D,4,none⟩),by simp [upd, *],hW.put (by omega) (by omega) Xq.out.2.2.2.1.symm⟩
   ·cases ho;have hW:=HI.out;have e3:=(HI.out.val 3 (by omega) (by omega) (UQ.out ⟨3,.data⟩ (by simp) rfl)).trans Xq.out.2.2.2.1;have hb':=HI.out.early (.inl VC);have d4:=(hb'.cell (p:=⟨D,4,none⟩) HD3.out.lt).trans HD3.out.c4;clear UQ HI;refine aa rfl fun K HK=>?_;simp only [e3];go_simp;exact HK.out _ _ ⟨vo,by simp [upd, *],hW.put (by omega) (by omega) Xq.out.2.2.2.2.1.symm⟩
   ·cases ho;have hW:=HI.out;clear UQ HI;refine aa rfl fun K HK=>?_;go_simp;exact HK.out _ _ ⟨Value.pointer (some ⟨w.heap.size,0,none⟩),by simp [upd, *],hW.put (by omega) (by omega) Xq.out.2.2.2.2.2.1.symm⟩
   ·cases ho;have hW:=HI.out;have e5:=(HI.out.val 5 (by omega) (by omega) (UQ.out ⟨5,.data⟩ (by simp) rfl)).trans Xq.out.2.2.2.2.2.1;have hb':=HI.out.early (.inr VC);obtain ⟨t0,t1,t2,t3,t4,t5,tl⟩:=HT3.out.1.below hb';clear UQ HI;refine aa rfl fun K HK=>?_;simp only [e5];go_simp;exact HK.out _ _ ⟨Value.agg #[.string t.a,.string t.b],by simp [upd, *],hW.put (by omega) (by omega) Xq.out.2.2.2.2.2.2.1.symm⟩
   ·cases ho;have hW:=HI.out;have e4:=(HI.out.val 4 (by omega) (by omega) (UQ.out ⟨4,.data⟩ (by simp) rfl)).trans Xq.out.2.2.2.2.1;have e6:=(HI.out.val 6 (by omega) (by omega) (UQ.out ⟨6,.data⟩ (by simp) rfl)).trans Xq.out.2.2.2.2.2.2.1;have h4:=UQ.out ⟨4,.data⟩ (by simp) rfl;have h6:=UQ.out ⟨6,.data⟩ (by simp) rfl;have hb':=HI.out.before VC;have hown:=df HD3.out.objs hb';clear UQ HI;refine aa rfl fun K HK=>?_;simp only [e4,e6];go_simp;refine (mi (bp+1) vo xo ⟨t.a,t.b⟩ w' (by omega) (Uk hbz hb'.size) hown).mono ?_;rintro e w2 ⟨v',rfl,hown2,has,hbl⟩;exact HK.out _ _ ⟨v',by simp [upd,e4,e6],hW.call h4 h6 ⟨w',hb',hown2,has,hbl⟩⟩
   ·cases ho;have hW:=HI.out;have e0:=(HI.out.val 0 (by omega) (by omega) (UQ.out ⟨0,.data⟩ (by simp) rfl)).trans Xq.out.1;clear UQ HI;refine aa rfl fun K HK=>?_;simp only [e0];go_simp;exact HK.out _ _ ⟨Value.pointer (some ⟨D,0,none⟩),by simp [upd, *],hW.put (by omega) (by omega) Xq.out.2.2.2.2.2.2.2.2.1.symm⟩
   cases ho;have hW:=HI.out;have e8:=(HI.out.val 8 (by omega) (by omega) (UQ.out ⟨8,.data⟩ (by simp) rfl)).trans Xq.out.2.2.2.2.2.2.2.2.1;have h8:=UQ.out ⟨8,.data⟩ (by simp) rfl;clear UQ HI;refine aa rfl fun K HK=>?_;simp only [e8];go_simp;exact HK.out _ _ ⟨Value.pointer (some ⟨D,4,none⟩),by simp [upd, *],hW.put (by omega) (fun _=>h8) Xq.out.2.2.2.2.2.2.2.2.2.symm⟩
  case finB =>
   rintro o ho l fr w' hall hI;obtain rfl:=Option.some.inj ho;obtain ⟨hval,w1,hb1,hown,has,hbl⟩:=hI.last hall;have e9:=(hval 9 (by omega) (by omega)).trans Xq.out.2.2.2.2.2.2.2.2.2;have Wd:=HD3.out.below hb1;have hDn:=Wd.newO hown has;have YK:=(HT3.out.1.below hb1).aside (by obtain ⟨cur,e⟩:=HT3.out.2;exact ⟨cur,(hb1.block _ HT3.out.1.2.2.2.2.2.2).trans e⟩) Wd.objs has;obtain ⟨cur,hkd⟩:=Wd.kind;have X0:vo.ownBlock≠some D:=fun e=>absurd (dK Wd.objs e hkd) (by decide);have X8:=(has.block D Wd.lt X0).trans hkd;have fz:=fun o=>gJ X8 o;have d4:=(Uy (w:=w1) (a:=⟨D,4,none⟩) (has.block D Wd.lt X0)).trans Wd.c4;obtain ⟨adn,cpn,e7,-⟩:=kC hown;rw [e7]at hown has hDn;obtain ⟨w4,hwn⟩:∃ x,x=w'.setCell ⟨D,4,none⟩ (Value.slice adn (bf xo ⟨t.a,t.b⟩).length cpn):=⟨_,rfl⟩;rw [<-hwn]at hDn;have Y5:=aF hDn;have ZC:Hid (uj w4 w.heap.size t/\∃ cur,w4.heap[w.heap.size]?=some (.cells cur 46 (0,0))):=by
    have hh:w4.heap[w.heap.size]?=w'.heap[w.heap.size]?:=by rw [hwn];exact heap_setCell_other w' ⟨D,4,none⟩ w.heap.size _ (by show w.heap.size≠D;omega)
    obtain ⟨cr,ecr⟩:=YK.2;exact ⟨YK.1.block hh (by rw [hwn];simpa using YK.1.2.2.2.2.2.2),cr,hh.trans ecr⟩
   have HB3n:Hid (Below bp w w4):=by
    have b1:Below bp w w1:=HB3.out.trans (hb1.mono (by omega));have b2:Below bp w w':=b1.trans (hbl bp (fun g hg=>by have:=(Wd.objs.lt g hg).1;omega) (by have:=hb1.size;omega));show Below _ _ _;rw [hwn];exact b2.setCell (by show bp<=D;omega) _
   have hsn:w3.heap.size<=w4.heap.size:=by rw [hwn];have:=hb1.size;have:=has.size;simp;omega
   have Y6:bp+1<=w4.heap.size:=by omega
   clear hval;refine aa rfl fun K HK=>?_;simp only [e9,e7];go_simp;rw [<-hwn];refine HK.out _ _ ?_;obtain ⟨ZE,hvo1⟩:∃ v,v=Value.slice adn (bf xo ⟨t.a,t.b⟩).length cpn:=⟨_,rfl⟩;rw [<-hvo1]at Y5 ⊢;clear hb1 hown has hbl Wd hDn YK hkd X8 X0 fz d4 HK K hI hall ho hwn e9 e7 hvo1 hsn hbz HD3 HT3 HB3 Xq;obtain ⟨zB0,hz0⟩:∃ y,y=fr 0:=⟨_,rfl⟩;rw [<-hz0];obtain ⟨zB1,hz1⟩:∃ y,y=fr 1:=⟨_,rfl⟩;rw [<-hz1];obtain ⟨zB2,hz2⟩:∃ y,y=fr 2:=⟨_,rfl⟩;rw [<-hz2];obtain ⟨zB3,hz3⟩:∃ y,y=fr 3:=⟨_,rfl⟩;rw [<-hz3];obtain ⟨zB4,XF⟩:∃ y,y=fr 4:=⟨_,rfl⟩;rw [<-XF];obtain ⟨zB5,hz5⟩:∃ y,y=fr 5:=⟨_,rfl⟩;rw [<-hz5];obtain ⟨zB6,hz6⟩:∃ y,y=fr 6:=⟨_,rfl⟩;rw [<-hz6];obtain ⟨zB8,hz8⟩:∃ y,y=fr 8:=⟨_,rfl⟩;rw [<-hz8];clear hz0 hz1 hz2 hz3 XF hz5 hz6 hz8 fr l
   skip
   have hbz:=Y6;clear Y6;go_wp2_with fail;obtain ⟨CC,hCC⟩:∃ C:Nat->Value,C=fun n=>(Value.pointer (some ⟨D,0,none⟩)::.pointer (some ⟨D,0,none⟩)::.pointer (some ⟨D,0,none⟩)::.pointer (some ⟨D,4,none⟩)::ZE::.pointer (some ⟨w.heap.size,3,none⟩)::.agg #[.string t.c,.string t.d]::undef::.pointer (some ⟨D,0,none⟩)::.pointer (some ⟨D,4,none⟩)::[]).getD n undef:=⟨_,rfl⟩;have VT:Hid (CC 0=Value.pointer (some ⟨D,0,none⟩)/\CC 1=Value.pointer (some ⟨D,0,none⟩)/\CC 2=Value.pointer (some ⟨D,0,none⟩)/\CC 3=Value.pointer (some ⟨D,4,none⟩)/\CC 4=ZE/\CC 5=Value.pointer (some ⟨w.heap.size,3,none⟩)/\CC 6=Value.agg #[.string t.c,.string t.d]/\CC 7=undef/\CC 8=Value.pointer (some ⟨D,0,none⟩)/\CC 9=Value.pointer (some ⟨D,4,none⟩)):=by show _/\_;rw [hCC];exact ⟨rfl,rfl,rfl,rfl,rfl,rfl,rfl,rfl,rfl,rfl⟩
   clear hCC;refine jT 10 (fun _=>undef) (fun fs=>{ tmps:=List.toArray (Value.pointer (some ⟨D,0,none⟩)::.agg #[.string t.a,.string t.b,.string t.r,.string t.c,.string t.d,.string t.s]::undef::.pointer (some ⟨w.heap.size,0,none⟩)::.pointer (some ⟨w.heap.size+1,0,none⟩)::.pointer (some ⟨w.heap.size,0,none⟩)::.agg #[.string t.a,.string t.b]::.pointer (some ⟨w.heap.size,2,none⟩)::.string t.r::.agg #[.string t.a,.string t.b,.string t.r]::y0::y1::y2::.map (some bp)::y4::y8::y5::y6::y7::y9::.int .i64 st::zB0::zB1::zB2::zB3::zB4::zB5::zB6::ZE::zB8::.pointer (some ⟨D,4,none⟩)::(fs 0)::(fs 1)::(fs 2)::(fs 3)::(fs 4)::(fs 5)::(fs 6)::(fs 7)::(fs 8)::(fs 9)::undef::undef::undef::undef::undef::undef::undef::undef::undef::undef::undef::undef::undef::[]),defers:=[] }) (G.WI CC w4 (fun v' w'=>∃ w1,ag w4 w1/\w'.ownsRow (bp+1) 27 2 v' (bf (bf xo ⟨t.a,t.b⟩) ⟨t.c,t.d⟩).length (pairs (bf (bf xo ⟨t.a,t.b⟩) ⟨t.c,t.d⟩))/\Aside w1 ZE w' v'/\∀ B',(∀ g,ZE.ownBlock=some g->B'<=g)->B'<=w1.heap.size->Below B' w1 w')) (by kernel_rfl) rfl (by kernel_rfl) (fun o ho l f w' hI hp=>?clC) rfl (G.wi_start w4) ?stepC ?finC;case clC =>
    cases ho;intro k hk;have h9:=hp ⟨9,.data⟩ (by simp) rfl;have hc:=ul (i:=k) (by omega)
    repeat' rcases hc with rfl|hc
    all_goals first|exact hI.nin h9|exact h9|exact hp ⟨_,.phase⟩ (by simp) rfl
   case stepC =>
    rintro i hi o ho l fs w' VC hI hpre;have HI:Hid (G.WI CC w4 (fun v' w'=>∃ w1,ag w4 w1/\w'.ownsRow (bp+1) 27 2 v' (bf (bf xo ⟨t.a,t.b⟩) ⟨t.c,t.d⟩).length (pairs (bf (bf xo ⟨t.a,t.b⟩) ⟨t.c,t.d⟩))/\Aside w1 ZE w' v'/\∀ B',(∀ g,ZE.ownBlock=some g->B'<=g)->B'<=w1.heap.size->Below B' w1 w') l fs w'):=hI;have UQ:Hid (∀ e∈o.after,Region.binds .any e=true->l e.on=true):=hpre;clear hI hpre;have hc:=ul (i:=i) (by omega);clear hi
    repeat' rcases hc with rfl|hc
    ·cases ho;have hW:=HI.out;clear UQ HI;refine aa rfl fun K HK=>?_;go_simp;exact HK.out _ _ ⟨Value.pointer (some ⟨D,0,none⟩),by simp [upd, *],hW.put (by omega) (by omega) VT.out.1.symm⟩
    ·cases ho;have hW:=HI.out;clear UQ HI;refine aa rfl fun K HK=>?_;go_simp;exact HK.out _ _ ⟨Value.pointer (some ⟨D,0,none⟩),by simp [upd, *],hW.put (by omega) (by omega) VT.out.2.1.symm⟩
    ·cases ho;have hW:=HI.out;have e1:=(HI.out.val 1 (by omega) (by omega) (UQ.out ⟨1,.data⟩ (by simp) rfl)).trans VT.out.2.1;clear UQ HI;refine aa rfl fun K HK=>?_;simp only [e1];go_simp;exact HK.out _ _ ⟨Value.pointer (some ⟨D,0,none⟩),by simp [upd, *],hW.put (by omega) (by omega) VT.out.2.2.1.symm⟩
    ·cases ho;have hW:=HI.out;have e2:=(HI.out.val 2 (by omega) (by omega) (UQ.out ⟨2,.data⟩ (by simp) rfl)).trans VT.out.2.2.1;clear UQ HI;refine aa rfl fun K HK=>?_;simp only [e2];go_simp;exact HK.out _ _ ⟨Value.pointer (some ⟨D,4,none⟩),by simp [upd, *],hW.put (by omega) (by omega) VT.out.2.2.2.1.symm⟩
    ·cases ho;have hW:=HI.out;have e3:=(HI.out.val 3 (by omega) (by omega) (UQ.out ⟨3,.data⟩ (by simp) rfl)).trans VT.out.2.2.2.1;have hb':=HI.out.early (.inl VC);have d4:=(hb'.cell (p:=⟨D,4,none⟩) Y5.out.lt).trans Y5.out.c4;clear UQ HI;refine aa rfl fun K HK=>?_;simp only [e3];go_simp;exact HK.out _ _ ⟨ZE,by simp [upd, *],hW.put (by omega) (by omega) VT.out.2.2.2.2.1.symm⟩
    ·cases ho;have hW:=HI.out;clear UQ HI;refine aa rfl fun K HK=>?_;go_simp;exact HK.out _ _ ⟨Value.pointer (some ⟨w.heap.size,3,none⟩),by simp [upd, *],hW.put (by omega) (by omega) VT.out.2.2.2.2.2.1.symm⟩
    ·cases ho;have hW:=HI.out;have e5:=(HI.out.val 5 (by omega) (by omega) (UQ.out ⟨5,.data⟩ (by simp) rfl)).trans VT.out.2.2.2.2.2.1;have hb':=HI.out.early (.inr VC);obtain ⟨t0,t1,t2,t3,t4,t5,tl⟩:=ZC.out.1.below hb';clear UQ HI;refine aa rfl fun K HK=>?_;simp only [e5];go_simp;exact HK.out _ _ ⟨Value.agg #[.string t.c,.string t.d],by simp [upd, *],hW.put (by omega) (by omega) VT.out.2.2.2.2.2.2.1.symm⟩
    ·cases ho;have hW:=HI.out;have e4:=(HI.out.val 4 (by omega) (by omega) (UQ.out ⟨4,.data⟩ (by simp) rfl)).trans VT.out.2.2.2.2.1;have e6:=(HI.out.val 6 (by omega) (by omega) (UQ.out ⟨6,.data⟩ (by simp) rfl)).trans VT.out.2.2.2.2.2.2.1;have h4:=UQ.out ⟨4,.data⟩ (by simp) rfl;have h6:=UQ.out ⟨6,.data⟩ (by simp) rfl;have hb':=HI.out.before VC;have hown:=df Y5.out.objs hb';clear UQ HI;refine aa rfl fun K HK=>?_;simp only [e4,e6];go_simp;refine (mi (bp+1) ZE (bf xo ⟨t.a,t.b⟩) ⟨t.c,t.d⟩ w' (by omega) (Uk hbz hb'.size) hown).mono ?_;rintro e w2 ⟨v',rfl,hown2,has,hbl⟩;exact HK.out _ _ ⟨v',by simp [upd,e4,e6],hW.call h4 h6 ⟨w',hb',hown2,has,hbl⟩⟩
    ·cases ho;have hW:=HI.out;have e0:=(HI.out.val 0 (by omega) (by omega) (UQ.out ⟨0,.data⟩ (by simp) rfl)).trans VT.out.1;clear UQ HI;refine aa rfl fun K HK=>?_;simp only [e0];go_simp;exact HK.out _ _ ⟨Value.pointer (some ⟨D,0,none⟩),by simp [upd, *],hW.put (by omega) (by omega) VT.out.2.2.2.2.2.2.2.2.1.symm⟩
    cases ho;have hW:=HI.out;have e8:=(HI.out.val 8 (by omega) (by omega) (UQ.out ⟨8,.data⟩ (by simp) rfl)).trans VT.out.2.2.2.2.2.2.2.2.1;have h8:=UQ.out ⟨8,.data⟩ (by simp) rfl;clear UQ HI;refine aa rfl fun K HK=>?_;simp only [e8];go_simp;exact HK.out _ _ ⟨Value.pointer (some ⟨D,4,none⟩),by simp [upd, *],hW.put (by omega) (fun _=>h8) VT.out.2.2.2.2.2.2.2.2.2.symm⟩
   case finC =>
    rintro o ho l fs w' hall hI;obtain rfl:=Option.some.inj ho;obtain ⟨hval,w1,hb1,hown,has,hbl⟩:=hI.last hall;have e9:=(hval 9 (by omega) (by omega)).trans VT.out.2.2.2.2.2.2.2.2.2;have Wd:=Y5.out.below hb1;have hDn:=Wd.newO hown has;have YK:=(ZC.out.1.below hb1).aside (by obtain ⟨cur,e⟩:=ZC.out.2;exact ⟨cur,(hb1.block _ ZC.out.1.2.2.2.2.2.2).trans e⟩) Wd.objs has;obtain ⟨cur,hkd⟩:=Wd.kind;have X0:ZE.ownBlock≠some D:=fun e=>absurd (dK Wd.objs e hkd) (by decide);have X8:=(has.block D Wd.lt X0).trans hkd;have fz:=fun o=>gJ X8 o;have d4:=(Uy (w:=w1) (a:=⟨D,4,none⟩) (has.block D Wd.lt X0)).trans Wd.c4;obtain ⟨adn,cpn,e7,-⟩:=kC hown;rw [e7]at hown has hDn;obtain ⟨w5,hwn⟩:∃ x,x=w'.setCell ⟨D,4,none⟩ (Value.slice adn (bf (bf xo ⟨t.a,t.b⟩) ⟨t.c,t.d⟩).length cpn):=⟨_,rfl⟩;rw [<-hwn]at hDn;have WP:=aF hDn;have Xe:Hid (uj w5 w.heap.size t/\∃ cur,w5.heap[w.heap.size]?=some (.cells cur 46 (0,0))):=by
     have hh:w5.heap[w.heap.size]?=w'.heap[w.heap.size]?:=by rw [hwn];exact heap_setCell_other w' ⟨D,4,none⟩ w.heap.size _ (by show w.heap.size≠D;omega)
     obtain ⟨cr,ecr⟩:=YK.2;exact ⟨YK.1.block hh (by rw [hwn];simpa using YK.1.2.2.2.2.2.2),cr,hh.trans ecr⟩
    have ZF:Hid (Below bp w w5):=by
     have b1:Below bp w w1:=HB3n.out.trans (hb1.mono (by omega));have b2:Below bp w w':=b1.trans (hbl bp (fun g hg=>by have:=(Wd.objs.lt g hg).1;omega) (by have:=hb1.size;omega));show Below _ _ _;rw [hwn];exact b2.setCell (by show bp<=D;omega) _
    have hsn:w4.heap.size<=w5.heap.size:=by rw [hwn];have:=hb1.size;have:=has.size;simp;omega
    have Y6:bp+1<=w5.heap.size:=by omega
    clear hval;refine aa rfl fun K HK=>?_;simp only [e9,e7];go_simp;rw [<-hwn];refine HK.out _ _ ?_;obtain ⟨vo2,hvo2⟩:∃ v,v=Value.slice adn (bf (bf xo ⟨t.a,t.b⟩) ⟨t.c,t.d⟩).length cpn:=⟨_,rfl⟩;rw [<-hvo2]at WP ⊢;clear hb1 hown has hbl Wd hDn YK hkd X8 X0 fz d4 HK K hI hall ho hwn e9 e7 hvo2 hsn hbz Y5 ZC HB3n VT;obtain ⟨zC0,hz0⟩:∃ y,y=fs 0:=⟨_,rfl⟩;rw [<-hz0];obtain ⟨zC1,hz1⟩:∃ y,y=fs 1:=⟨_,rfl⟩;rw [<-hz1];obtain ⟨zC2,hz2⟩:∃ y,y=fs 2:=⟨_,rfl⟩;rw [<-hz2];obtain ⟨zC3,hz3⟩:∃ y,y=fs 3:=⟨_,rfl⟩;rw [<-hz3];obtain ⟨zC4,XF⟩:∃ y,y=fs 4:=⟨_,rfl⟩;rw [<-XF];obtain ⟨zC5,hz5⟩:∃ y,y=fs 5:=⟨_,rfl⟩;rw [<-hz5];obtain ⟨zC6,hz6⟩:∃ y,y=fs 6:=⟨_,rfl⟩;rw [<-hz6];obtain ⟨zC8,hz8⟩:∃ y,y=fs 8:=⟨_,rfl⟩;rw [<-hz8];clear hz0 hz1 hz2 hz3 XF hz5 hz6 hz8 fs l
    skip
    have hbz:=Y6;clear Y6;obtain ⟨t0,t1,t2,t3,t4,t5,tl⟩:=Xe.out.1;cases hs:(t.s.toList==([]:List UInt8));case false=>
     have HU:Hid (cz xu t=xu):=by show _=_;unfold cz;rw [hs];rfl
     go_wp2
     go_end0
     exact ⟨rfl,⟨_,_,_,by rw [HU.out];exact WP.out⟩,ZF.out⟩
    have HU:Hid (cz xu t=bf xu ⟨t.c,t.d⟩):=by show _=_;unfold cz;rw [hs];rfl
    clear t0 t1 t2 t3 t4 tl;go_wp2_with fail;clear t5 hs;obtain ⟨CD,hCD⟩:∃ C:Nat->Value,C=fun n=>(Value.pointer (some ⟨D,0,none⟩)::.pointer (some ⟨D,0,none⟩)::.pointer (some ⟨D,0,none⟩)::.pointer (some ⟨D,5,none⟩)::vu::.pointer (some ⟨w.heap.size,3,none⟩)::.agg #[.string t.c,.string t.d]::undef::.pointer (some ⟨D,0,none⟩)::.pointer (some ⟨D,5,none⟩)::[]).getD n undef:=⟨_,rfl⟩;have Xr:Hid (CD 0=Value.pointer (some ⟨D,0,none⟩)/\CD 1=Value.pointer (some ⟨D,0,none⟩)/\CD 2=Value.pointer (some ⟨D,0,none⟩)/\CD 3=Value.pointer (some ⟨D,5,none⟩)/\CD 4=vu/\CD 5=Value.pointer (some ⟨w.heap.size,3,none⟩)/\CD 6=Value.agg #[.string t.c,.string t.d]/\CD 7=undef/\CD 8=Value.pointer (some ⟨D,0,none⟩)/\CD 9=Value.pointer (some ⟨D,5,none⟩)):=by show _/\_;rw [hCD];exact ⟨rfl,rfl,rfl,rfl,rfl,rfl,rfl,rfl,rfl,rfl⟩
    clear hCD;refine jT 10 (fun _=>undef) (fun ft=>{ tmps:=List.toArray (Value.pointer (some ⟨D,0,none⟩)::.agg #[.string t.a,.string t.b,.string t.r,.string t.c,.string t.d,.string t.s]::undef::.pointer (some ⟨w.heap.size,0,none⟩)::.pointer (some ⟨w.heap.size+1,0,none⟩)::.pointer (some ⟨w.heap.size,0,none⟩)::.agg #[.string t.a,.string t.b]::.pointer (some ⟨w.heap.size,2,none⟩)::.string t.r::.agg #[.string t.a,.string t.b,.string t.r]::y0::y1::y2::.map (some bp)::y4::y8::y5::y6::y7::y9::.int .i64 st::zB0::zB1::zB2::zB3::zB4::zB5::zB6::ZE::zB8::.pointer (some ⟨D,4,none⟩)::zC0::zC1::zC2::zC3::zC4::zC5::zC6::vo2::zC8::.pointer (some ⟨D,4,none⟩)::.pointer (some ⟨w.heap.size,5,none⟩)::.string t.s::.bool true::(ft 0)::(ft 1)::(ft 2)::(ft 3)::(ft 4)::(ft 5)::(ft 6)::(ft 7)::(ft 8)::(ft 9)::[]),defers:=[] }) (G.WI CD w5 (fun v' w'=>∃ w1,ag w5 w1/\w'.ownsRow (bp+1) 27 2 v' (bf xu ⟨t.c,t.d⟩).length (pairs (bf xu ⟨t.c,t.d⟩))/\Aside w1 vu w' v'/\∀ B',(∀ g,vu.ownBlock=some g->B'<=g)->B'<=w1.heap.size->Below B' w1 w')) (by kernel_rfl) rfl (by kernel_rfl) (fun o ho l f w' hI hp=>?clD) rfl (G.wi_start w5) ?stepD ?finD;case clD =>
     cases ho;intro k hk;have h9:=hp ⟨9,.data⟩ (by simp) rfl;have hc:=ul (i:=k) (by omega)
     repeat' rcases hc with rfl|hc
     all_goals first|exact hI.nin h9|exact h9|exact hp ⟨_,.phase⟩ (by simp) rfl
    case stepD =>
     rintro i hi o ho l ft w' VC hI hpre;have HI:Hid (G.WI CD w5 (fun v' w'=>∃ w1,ag w5 w1/\w'.ownsRow (bp+1) 27 2 v' (bf xu ⟨t.c,t.d⟩).length (pairs (bf xu ⟨t.c,t.d⟩))/\Aside w1 vu w' v'/\∀ B',(∀ g,vu.ownBlock=some g->B'<=g)->B'<=w1.heap.size->Below B' w1 w') l ft w'):=hI;have UQ:Hid (∀ e∈o.after,Region.binds .any e=true->l e.on=true):=hpre;clear hI hpre;have hc:=ul (i:=i) (by omega);clear hi
     repeat' rcases hc with rfl|hc
     ·cases ho;have hW:=HI.out;clear UQ HI;refine aa rfl fun K HK=>?_;go_simp;exact HK.out _ _ ⟨Value.pointer (some ⟨D,0,none⟩),by simp [upd, *],hW.put (by omega) (by omega) Xr.out.1.symm⟩
     ·cases ho;have hW:=HI.out;clear UQ HI;refine aa rfl fun K HK=>?_;go_simp;exact HK.out _ _ ⟨Value.pointer (some ⟨D,0,none⟩),by simp [upd, *],hW.put (by omega) (by omega) Xr.out.2.1.symm⟩
     ·cases ho;have hW:=HI.out;have e1:=(HI.out.val 1 (by omega) (by omega) (UQ.out ⟨1,.data⟩ (by simp) rfl)).trans Xr.out.2.1;clear UQ HI;refine aa rfl fun K HK=>?_;simp only [e1];go_simp;exact HK.out _ _ ⟨Value.pointer (some ⟨D,0,none⟩),by simp [upd, *],hW.put (by omega) (by omega) Xr.out.2.2.1.symm⟩
     ·cases ho;have hW:=HI.out;have e2:=(HI.out.val 2 (by omega) (by omega) (UQ.out ⟨2,.data⟩ (by simp) rfl)).trans Xr.out.2.2.1;clear UQ HI;refine aa rfl fun K HK=>?_;simp only [e2];go_simp;exact HK.out _ _ ⟨Value.pointer (some ⟨D,5,none⟩),by simp [upd, *],hW.put (by omega) (by omega) Xr.out.2.2.2.1.symm⟩
     ·cases ho;have hW:=HI.out;have e3:=(HI.out.val 3 (by omega) (by omega) (UQ.out ⟨3,.data⟩ (by simp) rfl)).trans Xr.out.2.2.2.1;have hb':=HI.out.early (.inl VC);have d4:=(hb'.cell (p:=⟨D,5,none⟩) WP.out.lt).trans WP.out.c5;clear UQ HI;refine aa rfl fun K HK=>?_;simp only [e3];go_simp;exact HK.out _ _ ⟨vu,by simp [upd, *],hW.put (by omega) (by omega) Xr.out.2.2.2.2.1.symm⟩
     ·cases ho;have hW:=HI.out;clear UQ HI;refine aa rfl fun K HK=>?_;go_simp;exact HK.out _ _ ⟨Value.pointer (some ⟨w.heap.size,3,none⟩),by simp [upd, *],hW.put (by omega) (by omega) Xr.out.2.2.2.2.2.1.symm⟩
     ·cases ho;have hW:=HI.out;have e5:=(HI.out.val 5 (by omega) (by omega) (UQ.out ⟨5,.data⟩ (by simp) rfl)).trans Xr.out.2.2.2.2.2.1;have hb':=HI.out.early (.inr VC);obtain ⟨t0,t1,t2,t3,t4,t5,tl⟩:=Xe.out.1.below hb';clear UQ HI;refine aa rfl fun K HK=>?_;simp only [e5];go_simp;exact HK.out _ _ ⟨Value.agg #[.string t.c,.string t.d],by simp [upd, *],hW.put (by omega) (by omega) Xr.out.2.2.2.2.2.2.1.symm⟩
     ·cases ho;have hW:=HI.out;have e4:=(HI.out.val 4 (by omega) (by omega) (UQ.out ⟨4,.data⟩ (by simp) rfl)).trans Xr.out.2.2.2.2.1;have e6:=(HI.out.val 6 (by omega) (by omega) (UQ.out ⟨6,.data⟩ (by simp) rfl)).trans Xr.out.2.2.2.2.2.2.1;have h4:=UQ.out ⟨4,.data⟩ (by simp) rfl;have h6:=UQ.out ⟨6,.data⟩ (by simp) rfl;have hb':=HI.out.before VC;have hown:=df WP.out.users hb';clear UQ HI;refine aa rfl fun K HK=>?_;simp only [e4,e6];go_simp;refine (mi (bp+1) vu xu ⟨t.c,t.d⟩ w' (by omega) (Uk hbz hb'.size) hown).mono ?_;rintro e w2 ⟨v',rfl,hown2,has,hbl⟩;exact HK.out _ _ ⟨v',by simp [upd,e4,e6],hW.call h4 h6 ⟨w',hb',hown2,has,hbl⟩⟩
     ·cases ho;have hW:=HI.out;have e0:=(HI.out.val 0 (by omega) (by omega) (UQ.out ⟨0,.data⟩ (by simp) rfl)).trans Xr.out.1;clear UQ HI;refine aa rfl fun K HK=>?_;simp only [e0];go_simp;exact HK.out _ _ ⟨Value.pointer (some ⟨D,0,none⟩),by simp [upd, *],hW.put (by omega) (by omega) Xr.out.2.2.2.2.2.2.2.2.1.symm⟩
     cases ho;have hW:=HI.out;have e8:=(HI.out.val 8 (by omega) (by omega) (UQ.out ⟨8,.data⟩ (by simp) rfl)).trans Xr.out.2.2.2.2.2.2.2.2.1;have h8:=UQ.out ⟨8,.data⟩ (by simp) rfl;clear UQ HI;refine aa rfl fun K HK=>?_;simp only [e8];go_simp;exact HK.out _ _ ⟨Value.pointer (some ⟨D,5,none⟩),by simp [upd, *],hW.put (by omega) (fun _=>h8) Xr.out.2.2.2.2.2.2.2.2.2.symm⟩
    case finD =>
     rintro o ho l ft w' hall hI;cases ho;obtain ⟨hval,w1,hb1,hown,has,hbl⟩:=hI.last hall;have e9:=(hval 9 (by omega) (by omega)).trans Xr.out.2.2.2.2.2.2.2.2.2;have Wd:=WP.out.below hb1;have hDn:=Wd.newU hown has;have YK:=(Xe.out.1.below hb1).aside (by obtain ⟨cur,e⟩:=Xe.out.2;exact ⟨cur,(hb1.block _ Xe.out.1.2.2.2.2.2.2).trans e⟩) Wd.users has;obtain ⟨cur,hkd⟩:=Wd.kind;have X0:vu.ownBlock≠some D:=fun e=>absurd (dK Wd.users e hkd) (by decide);have X8:=(has.block D Wd.lt X0).trans hkd;have fz:=fun o=>gJ X8 o;have d4:=(Uy (w:=w1) (a:=⟨D,5,none⟩) (has.block D Wd.lt X0)).trans Wd.c5;obtain ⟨adn,cpn,e7,-⟩:=kC hown;rw [e7]at hown has hDn;obtain ⟨w6,hwn⟩:∃ x,x=w'.setCell ⟨D,5,none⟩ (Value.slice adn (bf xu ⟨t.c,t.d⟩).length cpn):=⟨_,rfl⟩;rw [<-hwn]at hDn;have ZG:=aF hDn;have HT3nnn:Hid (uj w6 w.heap.size t/\∃ cur,w6.heap[w.heap.size]?=some (.cells cur 46 (0,0))):=by
      have hh:w6.heap[w.heap.size]?=w'.heap[w.heap.size]?:=by rw [hwn];exact heap_setCell_other w' ⟨D,5,none⟩ w.heap.size _ (by show w.heap.size≠D;omega)
      obtain ⟨cr,ecr⟩:=YK.2;exact ⟨YK.1.block hh (by rw [hwn];simpa using YK.1.2.2.2.2.2.2),cr,hh.trans ecr⟩
     have HB3nnn:Hid (Below bp w w6):=by
      have b1:Below bp w w1:=ZF.out.trans (hb1.mono (by omega));have b2:Below bp w w':=b1.trans (hbl bp (fun g hg=>by have:=(Wd.users.lt g hg).1;omega) (by have:=hb1.size;omega));show Below _ _ _;rw [hwn];exact b2.setCell (by show bp<=D;omega) _
     have hsn:w5.heap.size<=w6.heap.size:=by rw [hwn];have:=hb1.size;have:=has.size;simp;omega
     have Y6:bp+1<=w6.heap.size:=by omega
     clear hval;refine aa rfl fun K HK=>?_;simp only [e9,e7];go_simp;rw [<-hwn];refine HK.out _ _ ?_;obtain ⟨vu2,hvu2⟩:∃ v,v=Value.slice adn (bf xu ⟨t.c,t.d⟩).length cpn:=⟨_,rfl⟩;rw [<-hvu2]at ZG ⊢;clear hb1 hown has hbl Wd hDn YK hkd X8 X0 fz d4 HK K hI hall hwn e9 e7 hvu2 hsn hbz WP Xe ZF Xr;obtain ⟨zD0,hz0⟩:∃ y,y=ft 0:=⟨_,rfl⟩;rw [<-hz0];obtain ⟨zD1,hz1⟩:∃ y,y=ft 1:=⟨_,rfl⟩;rw [<-hz1];obtain ⟨zD2,hz2⟩:∃ y,y=ft 2:=⟨_,rfl⟩;rw [<-hz2];obtain ⟨zD3,hz3⟩:∃ y,y=ft 3:=⟨_,rfl⟩;rw [<-hz3];obtain ⟨zD4,XF⟩:∃ y,y=ft 4:=⟨_,rfl⟩;rw [<-XF];obtain ⟨zD5,hz5⟩:∃ y,y=ft 5:=⟨_,rfl⟩;rw [<-hz5];obtain ⟨zD6,hz6⟩:∃ y,y=ft 6:=⟨_,rfl⟩;rw [<-hz6];obtain ⟨zD8,hz8⟩:∃ y,y=ft 8:=⟨_,rfl⟩;rw [<-hz8];clear hz0 hz1 hz2 hz3 XF hz5 hz6 hz8 ft l
     skip
     go_wp2
     go_end0
     exact ⟨rfl,⟨_,_,_,by rw [HU.out];exact ZG.out⟩,HB3nnn.out⟩
def fJ (u:Bool)(ts:List Tp):List Al:=if u then dh ts else eD ts
def iP (u:Bool)(xs:List Al)(t:Tp):Nat->List Al
 | 0=>xs
 | 1=>if u then xs else bf xs ⟨t.a,t.b⟩
 | _=>if u then cz xs t else fO xs t
theorem Gt (u:Bool){ts:List Tp}{k:Nat}(h:k<ts.length):fJ u (ts.take (k+1))=iP u (fJ u (ts.take k)) ts[k] 2:=by
 rw [Uh h];cases u
 ·exact AB _ _
 exact xS _ _
theorem Jr (u:Bool)(ts:List Tp):(fJ u ts).length<=2*ts.length:=by
 cases u
 ·have key:∀ (ts:List Tp) (xs:List Al),(ts.foldl fO xs).length<=xs.length+2*ts.length:=by
   intro ts
   induction ts with
   | nil=>intro xs;simp
   | cons t ts ih=>intro xs;have h1:=ih (fO xs t);have h2:=qM xs t;simp only [List.foldl_cons,List.length_cons];omega
  have:=key ts [];simpa [fJ,eD] using this
 have key:∀ (ts:List Tp) (xs:List Al),(ts.foldl cz xs).length<=xs.length+ts.length:=by
  intro ts
  induction ts with
  | nil=>intro xs;simp
  | cons t ts ih=>intro xs;have h1:=ih (cz xs t);have h2:=qN xs t;simp only [List.foldl_cons,List.length_cons];omega
 have:=key ts [];simp [fJ,dh]at this ⊢;omega
theorem OY (u:Bool)(xs:List Al)(t:Tp)(q:Nat):(iP u xs t q).length<=xs.length+2:=by
 match q with
 | 0=>simp [iP]
 | 1=>have:=oo xs ⟨t.a,t.b⟩;cases u <;> simp [iP];omega
 | q+2=>have h1:=qN xs t;have h2:=qM xs t;cases u <;> simp [iP] <;> omega
theorem Js {xs:List Al}{o:Al}{k:Nat}(h:k<xs.length):mM (xs.take (k+1)) o=(mM (xs.take k) o || uk xs[k].t xs[k].s o.t o.s):=by
 unfold mM;rw [Uh h,List.any_append];simp [jR,uk]
theorem RX (w:af)(o:Al):∀ j u,[Value.string o.t,.string o.s][j]?=some u->(w.alloc (.cells #[.string o.t,.string o.s] 27)).cell? ((⟨w.heap.size,0,none⟩:Addr).add j)=some u:=fun j u hu=>by
 match j,hu with
 | 0,hu=>simp at hu;subst hu;simp [Addr.add]
 | 1,hu=>simp at hu;subst hu;simp [Addr.add]
theorem jM.at0 {w:af}{ad:Option Addr}{xs:List Al}(h:jM w ad xs){k:Nat}(hk:k<xs.length):∃ b off,ad=some ⟨b,off,none⟩/\R8 w b (off+k*2) xs[k]/\b<w.heap.size:=by
 rcases h with h|⟨b',off',e,hb,hr⟩
 ·rw [h]at hk;simp at hk
 exact ⟨b',off',e,hr k hk,hb⟩
theorem sF (ad:Option Addr)(cap:Nat)(ts:List Tp)(u:Bool)(w:af)(hlt:ts.length<=40)(hst:Sl w ad ts) :
  Calls prog 95 #[.slice ad ts.length cap,.bool u] w fun e w'=>(∃ v,e=.returned v/\w'.ownsRow w.heap.size 27 2 v (fJ u ts).length (pairs (fJ u ts)))/\ag w w':=by
 obtain ⟨iO,h0,h1,h2,h3⟩:=AA;have YI:=aF (And.intro h0 (And.intro h1 (And.intro h2 h3)));have HST:=aF hst;obtain ⟨W0,hW0⟩:∃ W0,W0=w.alloc (.cells #[] 27):=⟨_,rfl⟩;have HB0:=rV hW0;have Vv:Hid (W0.ownsRow w.heap.size 27 2 (.slice (some ⟨w.heap.size,0,none⟩) 0 0) (fJ u (ts.take 0)).length (pairs (fJ u (ts.take 0)))):=by
  have e:fJ u (ts.take 0)=[]:=by cases u <;> rfl
  show World.ownsRow _ _ _ _ _ _ _;rw [hW0,e];exact World.ownsRow_lit w #[] 0 (Ue _) (by unfold maxLen;omega) (by simp)
 clear hst h0 h1 h2 h3;go_enter func95,ntmps95;go_wp2_with fail;rw [<-hW0];clear hW0;go_loopw [5,6] (fun v i wr=>∃ k:Nat,k<=ts.length/\i=.int .i64 k/\Hid (wr.ownsRow w.heap.size 27 2 v (fJ u (ts.take k)).length (pairs (fJ u (ts.take k))))/\Hid (ag w wr)) (fun _ i _=>ts.length-(intOf i).toNat);case atStart=>exact ⟨0,Ui _,rfl,Vv,HB0⟩
 clear Vv HB0;obtain ⟨k,hk,rfl,HOW,UU⟩:=hrel;by_cases hlt2:k<ts.length
 ·have ZH:=aF (Gt u hlt2);obtain ⟨x,hx⟩:∃ x,x=ts[k]:=⟨_,rfl⟩;obtain ⟨xs,hxs⟩:∃ xs,xs=fJ u (ts.take k):=⟨_,rfl⟩;have hxl:xs.length<=80:=by have:=Jr u (ts.take k);rw [UF]at this;rw [hxs];omega
  rw [<-hx,<-hxs]at ZH;rw [<-hxs]at HOW;have HX:=aF hx;have hi1:=bF k;have hi2:(k:Int)<(ts.length:Int):=by omega
  clear hxs hx;go_wp2;go_loopw [5,7] (fun v i w2=>∃ q:Nat,q<=2/\i=.int .i64 q/\Hid (w2.ownsRow w.heap.size 27 2 v (iP u xs x q).length (pairs (iP u xs x q)))/\Hid (ag w w2)) (fun _ i _=>2-(intOf i).toNat);case atStart=>exact ⟨0,by omega,rfl,HOW,UU⟩
  obtain ⟨w2,rfl⟩:∃ w2,w2=wr:=⟨_,rfl⟩;obtain ⟨q,hq,rfl,UN,HB2⟩:=hrel;have hi1:=bF k;have hi2:(k:Int)<(ts.length:Int):=by omega
  have hsl:=OY u xs x q;obtain ⟨b,off,UT,⟨t0,t1,t2,t3,t4,t5⟩,hb⟩:=Sl.at0 (HST.out.below HB2.out) hlt2;rw [<-HX.out]at t0 t1 t2 t3 t4 t5;subst UT;by_cases hq2:q<2
  ·have hc:q=0\/q=1:=by omega
   rcases hc with rfl|rfl
   case' inl =>
    cases u;case true =>
     have HE:Hid (iP true xs x 1=iP true xs x 0):=rfl;have HR:Hid ((w2.alloc (.cells #[.string x.a,.string x.b] 27)).ownsRow w.heap.size 27 2 u5 (iP true xs x 1).length (pairs (iP true xs x 1))):=by show World.ownsRow _ _ _ _ _ _ _;rw [HE.out];exact UN.out.alloc _
     have VZ:Hid (ag w (w2.alloc (.cells #[.string x.a,.string x.b] 27))):=HB2.out.alloc HB2.out.size _;go_wp2;exact ⟨⟨1,by omega,rfl,HR,VZ⟩,by decide⟩
    obtain ⟨o,ho⟩:∃ o:Al,o=⟨x.a,x.b⟩:=⟨_,rfl⟩;have XM:Hid (iP false xs x (0+1)=bf (iP false xs x 0) o):=by show _=_;rw [ho];rfl
    obtain ⟨ys,hys⟩:∃ ys,ys=iP false xs x 0:=⟨_,rfl⟩;rw [<-hys]at XM UN hsl;obtain ⟨ns,hns⟩:∃ ns,ns=iP false xs x (0+1):=⟨_,rfl⟩;have Vm:Hid (∀ (W:World) (v:Value),W.ownsRow w.heap.size 27 2 v ns.length (pairs ns)->W.ownsRow w.heap.size 27 2 v (iP false xs x (0+1)).length (pairs (iP false xs x (0+1)))):=fun W v h=>by rw [<-hns];exact h
    rw [<-hns]at XM;clear hns;clear hys;have hx1:x.a=o.t:=by rw [ho]
    have hx2:x.b=o.s:=by rw [ho]
    clear ho;obtain ⟨Wv,Wh,rfl,hsO⟩:=kC UN.out;have HSO:=aF hsO;obtain ⟨W1,hW1⟩:∃ W1,W1=w2.alloc (.cells #[.string o.t,.string o.s] 27):=⟨_,rfl⟩;have V4:=rV hW1;have hz1:w2.heap.size<W1.heap.size:=by rw [hW1];simp
    have d0:W1.cell? ⟨w2.heap.size,0,none⟩=some (.string o.t):=by rw [hW1];simp
    have d1:W1.cell? ⟨w2.heap.size,1,none⟩=some (.string o.s):=by rw [hW1];simp
    clear hsO;go_wp2_with fail;rw [<-hW1];clear hW1 t0 t1 t2 t3 t4 t5 hx1 hx2
   case' inr =>
    cases u
    case' true =>
     cases hz:x.s.toList.isEmpty;case false =>
      have hs2:(x.s.toList==[])=false:=by rw [pF];exact hz
      have HE:Hid (iP true xs x 2=iP true xs x 1):=by show cz xs x=xs;unfold cz;rw [hs2];rfl
      have HR:Hid ((w2.alloc (.cells #[.string x.c,.string x.d] 27)).ownsRow w.heap.size 27 2 u5 (iP true xs x 2).length (pairs (iP true xs x 2))):=by show World.ownsRow _ _ _ _ _ _ _;rw [HE.out];exact UN.out.alloc _
      have VZ:Hid (ag w (w2.alloc (.cells #[.string x.c,.string x.d] 27))):=HB2.out.alloc HB2.out.size _;go_wp2;exact ⟨⟨2,by omega,rfl,HR,VZ⟩,by decide⟩
     have hs2:(x.s.toList==[])=true:=by rw [pF];exact hz
     obtain ⟨o,ho⟩:∃ o:Al,o=⟨x.c,x.d⟩:=⟨_,rfl⟩;have XM:Hid (iP true xs x (1+1)=bf (iP true xs x 1) o):=by show _=_;rw [ho];show cz xs x=_;unfold cz;rw [hs2];rfl
     obtain ⟨ys,hys⟩:∃ ys,ys=iP true xs x 1:=⟨_,rfl⟩;rw [<-hys]at XM UN hsl;obtain ⟨ns,hns⟩:∃ ns,ns=iP true xs x (1+1):=⟨_,rfl⟩;have Vm:Hid (∀ (W:World) (v:Value),W.ownsRow w.heap.size 27 2 v ns.length (pairs ns)->W.ownsRow w.heap.size 27 2 v (iP true xs x (1+1)).length (pairs (iP true xs x (1+1)))):=fun W v h=>by rw [<-hns];exact h
     rw [<-hns]at XM;clear hns;clear hys;have hx1:x.c=o.t:=by rw [ho]
     have hx2:x.d=o.s:=by rw [ho]
     clear ho;obtain ⟨Wv,Wh,rfl,hsO⟩:=kC UN.out;have HSO:=aF hsO;obtain ⟨W1,hW1⟩:∃ W1,W1=w2.alloc (.cells #[.string o.t,.string o.s] 27):=⟨_,rfl⟩;have V4:=rV hW1;have hz1:w2.heap.size<W1.heap.size:=by rw [hW1];simp
     have d0:W1.cell? ⟨w2.heap.size,0,none⟩=some (.string o.t):=by rw [hW1];simp
     have d1:W1.cell? ⟨w2.heap.size,1,none⟩=some (.string o.s):=by rw [hW1];simp
     clear hsO;go_wp2_with fail;rw [<-hW1];clear hW1 t0 t1 t2 t3 t4 t5 hx1 hx2
    case' false =>
     obtain ⟨o,ho⟩:∃ o:Al,o=⟨x.c,x.d⟩:=⟨_,rfl⟩;have XM:Hid (iP false xs x (1+1)=bf (iP false xs x 1) o):=by show _=_;rw [ho];rfl
     obtain ⟨ys,hys⟩:∃ ys,ys=iP false xs x 1:=⟨_,rfl⟩;rw [<-hys]at XM UN hsl;obtain ⟨ns,hns⟩:∃ ns,ns=iP false xs x (1+1):=⟨_,rfl⟩;have Vm:Hid (∀ (W:World) (v:Value),W.ownsRow w.heap.size 27 2 v ns.length (pairs ns)->W.ownsRow w.heap.size 27 2 v (iP false xs x (1+1)).length (pairs (iP false xs x (1+1)))):=fun W v h=>by rw [<-hns];exact h
     rw [<-hns]at XM;clear hns;clear hys;have hx1:x.c=o.t:=by rw [ho]
     have hx2:x.d=o.s:=by rw [ho]
     clear ho;obtain ⟨Wv,Wh,rfl,hsO⟩:=kC UN.out;have HSO:=aF hsO;obtain ⟨W1,hW1⟩:∃ W1,W1=w2.alloc (.cells #[.string o.t,.string o.s] 27):=⟨_,rfl⟩;have V4:=rV hW1;have hz1:w2.heap.size<W1.heap.size:=by rw [hW1];simp
     have d0:W1.cell? ⟨w2.heap.size,0,none⟩=some (.string o.t):=by rw [hW1];simp
     have d1:W1.cell? ⟨w2.heap.size,1,none⟩=some (.string o.s):=by rw [hW1];simp
     clear hsO;go_wp2_with fail;rw [<-hW1];clear hW1 t0 t1 t2 t3 t4 t5 hx1 hx2
   all_goals
    go_loopw [9,10] (fun ov j w3=>∃ (m:Nat) (bb:Bool),m<=ys.length/\ov=.bool bb/\j=.int .i64 m/\Hid (bb=mM (ys.take m) o)/\Hid (ag W1 w3)) (fun _ j _=>ys.length-(intOf j).toNat);case atStart=>exact ⟨0,false,Ui _,rfl,rfl,rfl,Uf _ _⟩
    obtain ⟨m,bb,hm,rfl,rfl,Wm,HB3⟩:=hrel;have HBx:Hid (ag w2 wr):=V4.out.trans (HB3.out.mono V4.out.size);have HBw:Hid (ag w wr):=HB2.out.trans (HBx.out.mono HB2.out.size);have HOx:=aF (df UN.out HBx.out);have c0:=mK HB3.out hz1 d0;have c1:=mK HB3.out hz1 d1;have hz3:w2.heap.size<wr.heap.size:=Uc hz1 HB3.out.size;by_cases hlm:m<ys.length
    ·obtain ⟨bO,Vp,XX,⟨s0,s1⟩,hbO⟩:=jM.at0 (HSO.out.below HBx.out) hlm;have hm1:=bF m;have hm2:(m:Int)<(ys.length:Int):=by omega
     have HTK:=aF (Js (o:=o) hlm);cases bb;case true=>
      have Yw:Hid (true=mM (ys.take (m+1)) o):=by show _=_;rw [HTK.out,<-Wm.out];rfl
      clear s0 s1 c0 c1;go_wp2_with fail;go_quiet (fail);go_wp2;go_roundw;case rel=>exact ⟨m+1,true,by omega,rfl,by go_num,Yw,below_drewN HB3.out _⟩
      simp [intOf] <;> omega
     cases hv:uk ys[m].t ys[m].s o.t o.s;case true=>
      have heq:=iq _ _ _ _ hv;have Yw:Hid (true=mM (ys.take (m+1)) o):=by show _=_;rw [HTK.out,hv];simp
      clear hv;go_wp2_with fail;go_quiet (fail);go_wp2;go_roundw;case rel=>exact ⟨m+1,true,by omega,rfl,by go_num,Yw,below_drewN HB3.out _⟩
      simp [intOf] <;> omega
     have heq:=iq _ _ _ _ hv;have Yw:Hid (false=mM (ys.take (m+1)) o):=by show _=_;rw [HTK.out,hv,<-Wm.out];rfl
     clear hv;go_wp2_with fail;go_quiet (fail);go_wp2;go_roundw;case rel=>exact ⟨m+1,false,by omega,rfl,by go_num,Yw,below_drewN HB3.out _⟩
     simp [intOf] <;> omega
    have U2:Hid (bb=mM ys o):=by show _=_;rw [Wm.out,List.take_of_length_le (by omega)]
    cases bb;case true=>
     have HR:Hid (wr.ownsRow w.heap.size 27 2 (.slice Wv ys.length Wh) (ns).length (pairs (ns))):=by
      show World.ownsRow _ _ _ _ _ _ _;rw [XM.out];unfold bf;rw [<-U2.out];exact HOx.out
     clear U2 c0 c1;go_wp2;have HR2:=aF (Vm.out _ _ HR.out)
     first|exact ⟨⟨0+1,by omega,rfl,HR2,HBw⟩,by decide⟩|exact ⟨⟨1+1,by omega,rfl,HR2,HBw⟩,by decide⟩
    have HWE:Hid (bf ys o=ys++[o]):=by show _=_;unfold bf;rw [<-U2.out];rfl
    obtain ⟨W4,Wi⟩:∃ W4,W4=wr.alloc (.cells #[.string o.t,.string o.s] 27):=⟨_,rfl⟩;have U4:Hid (W4.ownsRow w.heap.size 27 2 (.slice Wv ys.length Wh) ys.length (pairs ys)):=by show World.ownsRow _ _ _ _ _ _ _;rw [Wi];exact HOx.out.alloc _
    have HN4:Hid (∀ j u,[Value.string o.t,.string o.s][j]?=some u->W4.cell? ((⟨wr.heap.size,0,none⟩:Addr).add j)=some u):=by rw [Wi];exact RX wr o
    have Xt:Hid (ag w W4):=by show Below _ _ _;rw [Wi];exact HBw.out.alloc HBw.out.size _
    have hsz4:w.heap.size<=W4.heap.size:=Xt.out.size;clear U2;go_wp2_with (at_builtin;rw [<-Wi];clear Wi;refine wpList_append_own_at _ rfl _ _ 49 rfl w.heap.size 27 iO (.agg #[.string ⟨#[]⟩,.string ⟨#[]⟩]) 2 32 underlying49 YI.out.1 YI.out.2.1 YI.out.2.2.1 YI.out.2.2.2 rfl (by decide) _ ys.length (pairs ys) rfl U4.out ⟨wr.heap.size,0,none⟩ 1 1 [.string o.t,.string o.s] rfl rfl HN4.out (by simp [Value.oneCell']) (by unfold maxLen;omega) (by omega) hsz4 ?_);intro v' w5 hown hgr _ _;have HR:Hid (w5.ownsRow w.heap.size 27 2 v' (ns).length (pairs (ns))):=by
     show World.ownsRow _ _ _ _ _ _ _;rw [XM.out,HWE.out,Ul];have:pairs (ys++[o])=pairs ys++[.string o.t,.string o.s]:=by simp [pairs]
     rw [this];exact hown
    have VZ:Hid (ag w w5):=Xt.out.grown hgr Xt.out.size (fun g hg=>(U4.out.lt g hg).1);clear hown hgr c0 c1;go_wp2;have HR2:=aF (Vm.out _ _ HR.out)
    first|exact ⟨⟨0+1,by omega,rfl,HR2,VZ⟩,by decide⟩|exact ⟨⟨1+1,by omega,rfl,HR2,VZ⟩,by decide⟩
  have U9:Hid (w2.ownsRow w.heap.size 27 2 u5 (fJ u (ts.take (k+1))).length (pairs (fJ u (ts.take (k+1))))):=by
   have e:q=2:=by omega
   have h2:=UN.out;rw [e]at h2;show World.ownsRow _ _ _ _ _ _ _;rw [ZH.out];exact h2
  go_wp2;go_roundw;case rel=>exact ⟨k+1,by omega,by go_num,U9,HB2⟩
  simp [intOf] <;> omega
 have HE:Hid (fJ u (ts.take k)=fJ u ts):=by show _=_;rw [List.take_of_length_le (by omega)]
 have U9:Hid (wr.ownsRow w.heap.size 27 2 u5 (fJ u ts).length (pairs (fJ u ts))):=by show World.ownsRow _ _ _ _ _ _ _;rw [<-HE.out];exact HOW.out
 go_wp2;go_ret;exact ⟨⟨_,rfl,U9.out⟩,UU.out⟩
end Go.Proofs.YtajkkeikihhejaaGreat
