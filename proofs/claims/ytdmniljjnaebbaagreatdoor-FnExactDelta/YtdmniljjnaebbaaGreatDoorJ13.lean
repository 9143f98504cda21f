/- Contracts of the library's search in a slice of objects, as the program calls it; an object put behind a list that lacks it. -/
import Derived.Test.YtdmniljjnaebbaaGreatDoorSq
import Derived.Test.YtdmniljjnaebbaaGreatDoorJ9
import Derived.Test.YtdmniljjnaebbaaGreatDoorJ12
open Go.Proofs.Tryz
set_option maxHeartbeats 80000000
namespace Go.Proofs.YtdmniljjnaebbaaGreatDoor
set_option maxRecDepth 100000
set_option linter.unusedVariables false
open Go.ChangeShapes Go.WideShapes Go.ChangeAt Go.RowKit
open Pl
theorem Ev {x y:Al}:jy x y=true ↔ x=y:=by
 unfold jy;simp only [Sn,beq_iff_eq];constructor
 ·rintro ⟨h0,h1⟩;obtain ⟨xa,xb⟩:=x;obtain ⟨ya,yb⟩:=y;simp only at h0 h1;rw [iL h0,iL h1]
 rintro rfl; simp
theorem Bn (x y:Al):jy x y=jy y x:=by
 rw [Bool.eq_iff_iff,Ev,Ev];exact ⟨Eq.symm,Eq.symm⟩
theorem MR (x y:Al) {v:Bool} (h:jy x y=v) (w:af) :
  (binOp .eql 40 (.agg #[.string x.t,.string x.s]) (.agg #[.string y.t,.string y.s])).run prog w=.ok (.bool v) w:=by
 subst h;go_simp;unfold jy
 (repeat' split) <;> simp_all
def mh (xs:List Al) (o:Al):Bool:=xs.any fun x=>jy x o
theorem Ke {xs:List Al} {o:Al} {k:Nat} (h:k < xs.length):mh (xs.take (k + 1)) o=(mh (xs.take k) o || jy xs[k] o):=by
 rw [Sk h];unfold mh;rw [List.any_append];simp only [List.any_cons,List.any_nil,Bool.or_false]
theorem MS {xs:List Al} {o:Al} {k:Nat} (h:k < xs.length) (he:jy xs[k] o=true):mh xs o=true:=SY.2 ⟨xs[k],Sd h,he⟩
theorem GZ (ad:Option Addr) (cap:Nat) (ts:List Al) (t:Al) (w:af) (hlen:ts.length≤1048576) (hs:gP w ad ts) :
  Calls prog 198 #[.slice ad ts.length cap,.agg #[.string t.t,.string t.s]] w fun e w'=>(∃ r:Int,e=.returned (.int .i64 r)∧decide (0≤r)=mh ts t)∧aa w w':=by
 obtain ⟨W,hW⟩:∃ W,W=w.alloc (.cells #[.string t.t,.string t.s] 40):=⟨_,rfl⟩;have HB0:Hid (aa w W):=by show Below _ _ _; rw [hW]; exact (Si w.heap.size w).alloc (Sj _) _
 have hz:w.heap.size < W.heap.size:=by rw [hW]; simp
 have b0:W.cell? ⟨w.heap.size,0,none⟩=some (.string t.t):=by rw [hW]; simp
 have b1:W.cell? ⟨w.heap.size,1,none⟩=some (.string t.s):=by rw [hW]; simp
 have HS:=ay (hs.below HB0.out);clear hs;go_enter func198,ntmps198;go_wp2_with fail;rw [← hW];clear hW;go_loopw [8] (fun i wr=>∃ k:Nat,k≤ts.length∧i=.int .i64 k∧Hid (mh (ts.take k) t=false)∧aa W wr) (fun i _=>ts.length - (intOf i).toNat);case atStart=>exact ⟨0,Sm _,rfl,rfl,Si _ _⟩
 obtain ⟨k,hk,rfl,HP,hB⟩:=hrel;have a0:=aO hB hz b0;have a1:=aO hB hz b1;by_cases hlt:k < ts.length
 ·rcases HS.out.below hB with hnil | ⟨b,off,rfl,hb,hr⟩
  ·rw [hnil] at hlt; simp at hlt
  obtain ⟨t0,t1⟩:=hr k hlt;have hk1:=bH k;have hk2:(k:Int) < (ts.length:Int):=by omega
  clear hr;cases hq:jy t ts[k];case true=>
   have HE:=MR t ts[k] hq;have HN:Hid (mh ts t=true):=MS hlt (by rw [Bn]; exact hq);go_wp2_with fail;go_quiet (fail);go_wp2;go_ret;exact ⟨⟨_,rfl,by rw [HN.out]; simp⟩,HB0.out.trans (below_drewN (hB.mono HB0.out.size) _)⟩
  have HE:=MR t ts[k] hq;have Tu:Hid (mh (ts.take (k + 1)) t=false):=by show _=_; rw [Ke hlt,HP.out,Bn,hq]; rfl
  go_wp2_with fail;go_quiet (fail);go_wp2;go_roundw;case rel=>exact ⟨k + 1,by omega,by go_num,Tu,below_drewN hB _⟩
  simp [intOf] <;> omega
 obtain rfl:k=ts.length:=by omega
 have HN:Hid (mh ts t=false):=by have:=HP.out; rw [Su] at this; exact this
 go_wp2;go_ret;exact ⟨⟨-1,rfl,by rw [HN.out]; rfl⟩,HB0.out.trans (hB.mono HB0.out.size)⟩
theorem zY (ad:Option Addr) (cap:Nat) (ts:List Al) (t:Al) (w:af) (hlen:ts.length≤1048576) (hs:gP w ad ts) :
  Calls prog 173 #[.slice ad ts.length cap,.agg #[.string t.t,.string t.s]] w fun e w'=>e=.returned (.bool (mh ts t))∧aa w w':=by
 have HB0:Hid (aa w (w.alloc (.cells #[.string t.t,.string t.s] 40))):=(Si w.heap.size w).alloc (Sj _) _;have HS:=au hs;clear hs;go_enter func173,ntmps173;go_wp2_with fail;refine (GZ ad cap ts t _ hlen (HS.out.below HB0.out)).mono ?_;rintro e w1 ⟨⟨r,rfl,hr⟩,hb1⟩;have HR:=au hr;have HB1:=au (HB0.out.trans (hb1.mono HB0.out.size));clear hr hb1;go_wp2;go_ret;exact ⟨ah HR.out,HB1.out⟩
def aZ (xs:List Al) (o:Al):List Al:=if mh xs o then xs else xs ++ [o]
theorem yM:∃ i,prog.info? 40=some i∧i.zero=some (.agg #[.string ⟨#[]⟩,.string ⟨#[]⟩])∧i.size=2∧i.bytes=32 :=
 info_parts (P:=prog) (e:=40) (z:=.agg #[.string ⟨#[]⟩,.string ⟨#[]⟩]) (size:=2) (bytes:=32) (by kernel_rfl)
theorem jG {w:af} {base:Nat} {v:Value} {xs:List Al} (h:w.ownsRow base 40 2 v xs.length (pairs xs)):∃ ad cap,v=.slice ad xs.length cap∧gP w ad xs:=by
 rcases h.2 with ⟨rfl,h0⟩ | ⟨g,cap,cur,rfl,hbg,hg,hnc,-⟩
 ·exact ⟨none,0,by rw [h0],.inl (SA.1 h0)⟩
 refine ⟨_,cap,rfl,.inr ⟨g,0,rfl,(h.lt g rfl).2,fun i hi=>?_⟩⟩;obtain ⟨h0,h1⟩:=xW xs i hi;have hl:=lY xs;refine ⟨?_,?_⟩
 ·rw [h.cellAt (0 + i * 2) (by omega),SG]; exact h0
 rw [h.cellAt (0 + i * 2 + 1) (by omega),SG]; exact h1
theorem kI (B:Nat) (v:Value) (xs:List Al) (o:Al) (w:af) (hlen:xs.length≤1000) (hB:B≤w.heap.size) (hown:w.ownsRow B 40 2 v xs.length (pairs xs)) :
  Calls prog 131 #[v,.agg #[.string o.t,.string o.s]] w fun e w'=>∃ v',e=.returned v'∧w'.ownsRow B 40 2 v' (aZ xs o).length (pairs (aZ xs o))∧Aside w v w' v'∧∀ B',(∀ g,v.ownBlock=some g→B'≤g)→B'≤w.heap.size→Below B' w w':=by
 obtain ⟨iO,h0,h1,h2,h3⟩:=yM;have Xd:=au (And.intro h0 (And.intro h1 (And.intro h2 h3)));obtain ⟨ad,cap,rfl,hsl⟩:=jG hown;obtain ⟨W,hW⟩:∃ W,W=w.alloc (.cells #[.string o.t,.string o.s] 40):=⟨_,rfl⟩;have HB0:Hid (aa w W):=by show Below _ _ _; rw [hW]; exact (Si w.heap.size w).alloc (Sj _) _
 have hz:w.heap.size < W.heap.size:=by rw [hW]; simp
 have b0:W.cell? ⟨w.heap.size,0,none⟩=some (.string o.t):=by rw [hW]; simp
 have b1:W.cell? ⟨w.heap.size,1,none⟩=some (.string o.s):=by rw [hW]; simp
 have Uj:=au hsl;have HO:=au hown;clear hsl hown h0 h1 h2 h3;go_enter func131,ntmps131;go_wp2_with fail;rw [← hW];clear hW;refine (zY ad cap xs o _ (by omega) (Uj.out.below HB0.out)).mono ?_;rintro e w1 ⟨rfl,hb1⟩;have HB1:=au (HB0.out.trans (hb1.mono HB0.out.size));have c0:=aO hb1 hz b0;have c1:=aO hb1 hz b1;have TM:=au (aB HO.out HB1.out);have HA1:Hid (Aside w (.slice ad xs.length cap) w1 (.slice ad xs.length cap)):=Aside.below HB1.out;clear hb1 b0 b1;cases hh:mh xs o;case true=>
  have HW:Hid (aZ xs o=xs):=by show _=_; unfold aZ; rw [hh]; rfl
  go_wp2;go_ret;exact ⟨_,rfl,by rw [HW.out]; exact TM.out,HA1.out,fun B' _ hB'=>HB1.out.mono hB'⟩
 have HW:Hid (aZ xs o=xs ++ [o]):=by show _=_; unfold aZ; rw [hh]; rfl
 obtain ⟨W2,hW2⟩:∃ W2,W2=w1.alloc (.cells #[.string o.t,.string o.s] 40):=⟨_,rfl⟩;have Tj:Hid (W2.ownsRow B 40 2 (.slice ad xs.length cap) xs.length (pairs xs)):=by show World.ownsRow _ _ _ _ _ _ _; rw [hW2]; exact TM.out.alloc _
 have HA2:Hid (Aside w (.slice ad xs.length cap) W2 (.slice ad xs.length cap)):=by show Aside _ _ _ _; rw [hW2]; exact HA1.out.trans (Aside.below ((Si _ _).alloc (Sj _) _))
 have Xr:Hid (aa w W2):=by show Below _ _ _; rw [hW2]; exact HB1.out.alloc HB1.out.size _
 have UZ:Hid (∀ j u,[Value.string o.t,.string o.s][j]?=some u→W2.cell? ((⟨w1.heap.size,0,none⟩:Addr).add j)=some u):=fun j u hu=>by
  rw [hW2]
  match j,hu with
  | 0,hu=>simp at hu; subst hu; simp [Addr.add]
  | 1,hu=>simp at hu; subst hu; simp [Addr.add]
 have hsz2:B≤W2.heap.size:=by have:=HB1.out.size; rw [hW2]; simp; omega
 clear hh;go_wp2_with (at_builtin; rw [← hW2]; clear hW2; refine wpList_append_own_at _ rfl _ _ 139 rfl B 40 iO (.agg #[.string ⟨#[]⟩,.string ⟨#[]⟩]) 2 32 underlying139 Xd.out.1 Xd.out.2.1 Xd.out.2.2.1 Xd.out.2.2.2 rfl (by decide) _ xs.length (pairs xs) rfl Tj.out ⟨w1.heap.size,0,none⟩ 1 1 [.string o.t,.string o.s] rfl rfl UZ.out (by simp [Value.oneCell']) (by unfold maxLen; omega) (by omega) hsz2 ?_);intro v' w3 hown hgr _ hat;have HE:Hid (w3.ownsRow B 40 2 v' (aZ xs o).length (pairs (aZ xs o))):=by
  show World.ownsRow _ _ _ _ _ _ _;rw [HW.out,Sr];have:pairs (xs ++ [o])=pairs xs ++ [.string o.t,.string o.s]:=by simp [pairs]
  rw [this]; exact hown
 have HA3:Hid (Aside w (.slice ad xs.length cap) w3 v'):=HA2.out.trans (Aside.app hgr hat);have Zg:Hid (∀ B',(∀ g,(Value.slice ad xs.length cap).ownBlock=some g→B'≤g)→B'≤w.heap.size→Below B' w w3):=fun B' hv hB'=>(Xr.out.mono hB').grown hgr (Sq hB' Xr.out.size) hv;clear hown hgr hat;go_wp2;go_ret;exact ⟨_,rfl,HE.out,HA3.out,Zg.out⟩
open Go.Maps
def gp (xs:List Al) (t:Tp):List Al:=aZ (aZ xs ⟨t.a,t.b⟩) ⟨t.c,t.d⟩
def cZ (xs:List Al) (t:Tp):List Al:=if t.s.toList == [] then aZ xs ⟨t.c,t.d⟩ else xs
def fG (ts:List Tp):List Al:=ts.foldl gp []
def dA (ts:List Tp):List Al:=ts.foldl cZ []
theorem yN (ts:List Tp) (t:Tp):fG (ts ++ [t])=gp (fG ts) t:=by simp [fG]
theorem vN (ts:List Tp) (t:Tp):dA (ts ++ [t])=cZ (dA ts) t:=by simp [dA]
theorem mi (xs:List Al) (o:Al):(aZ xs o).length≤xs.length + 1:=by
 unfold aZ; split
 ·omega
 simp
theorem pq (xs:List Al) (t:Tp):(gp xs t).length≤xs.length + 2:=by
 unfold gp;have h1:=mi (aZ xs ⟨t.a,t.b⟩) ⟨t.c,t.d⟩;have h2:=mi xs ⟨t.a,t.b⟩;omega
theorem pu (xs:List Al) (t:Tp):(cZ xs t).length≤xs.length + 1:=by
 unfold cZ; split
 ·exact mi _ _
 omega
def Kg (t:Tp):K3:=(t.a,t.b,t.r)
def dm (ts:List Tp):List (K3 × Tp):=ts.map fun t=>(Kg t,t)
theorem G5 (ts:List Tp) (t:Tp):dm (ts ++ [t])=dm ts ++ [(Kg t,t)]:=by simp [dm]
structure DatT (w:World) (D br bp:Nat) (tab:Value) (n1:Int) (E:List (K3 × Tp)) (xo xu:List Al) (np:Nat) (Mp:K3→Option Value) (vo vu:Value):Prop where
 gt:bp < D
 lt:D < w.heap.size
 kind:∃ cur,w.heap[D]?=some (.cells cur 152 (0,0))
 c0:w.cell? ⟨D,0,none⟩=some tab
 c1:w.cell? ⟨D,1,none⟩=some (.int .i64 n1)
 c2:w.cell? ⟨D,2,none⟩=some (.map (some br))
 c3:w.cell? ⟨D,3,none⟩=some (.map (some bp))
 c4:w.cell? ⟨D,4,none⟩=some vo
 c5:w.cell? ⟨D,5,none⟩=some vu
 told:G.Grp oM prog 233 42 6 Tp.row w bp np Mp E
 objs:w.ownsRow (bp + 1) 40 2 vo xo.length (pairs xo)
 users:w.ownsRow (bp + 1) 40 2 vu xu.length (pairs xu)
 apart:∀ g,vo.ownBlock=some g→vu.ownBlock ≠ some g
theorem dh {w:af} {base size n g:Nat} {e e':TypeId} {v:Value} {xs:List Value} {cur:Array Value} (h:w.ownsRow base e size v n xs) (hg:v.ownBlock=some g) (hc:w.heap[g]?=some (.cells cur e' (0,0))):e=e':=by
 rcases h.2 with ⟨rfl,-⟩ | ⟨g',cap,cur',rfl,-,hg',-⟩
 ·simp [Value.ownBlock] at hg
 have e1:g'=g:=by simpa [Value.ownBlock] using hg
 rw [e1,hc] at hg';injection hg' with hg';injection hg' with _ h2;exact h2.symm
theorem CQ {w:af} {base size n g:Nat} {e:TypeId} {v:Value} {xs:List Value} {es:Array MapEntry} {c:Nat} (h:w.ownsRow base e size v n xs) (hg:v.ownBlock=some g) (hc:w.heap[g]?=some (.map es c)):False:=by
 rcases h.2 with ⟨rfl,-⟩ | ⟨g',cap,cur',rfl,-,hg',-⟩
 ·simp [Value.ownBlock] at hg
 have e1:g'=g:=by simpa [Value.ownBlock] using hg
 rw [e1,hc] at hg';cases hg'
theorem dw {w w':af} {base size n:Nat} {e:TypeId} {v:Value} {xs:List Value} (h:w.ownsRow base e size v n xs) (hb:∀ g,v.ownBlock=some g→w'.heap[g]?=w.heap[g]?):w'.ownsRow base e size v n xs:=by
 refine ⟨h.1,?_⟩;rcases h.2 with h0 | ⟨g,cap,cur,rfl,h1,h2,h3⟩
 ·exact .inl h0
 exact .inr ⟨g,cap,cur,rfl,h1,(hb g rfl).trans h2,h3⟩
theorem iV {w:af} {base size n g:Nat} {e:TypeId} {v:Value} {xs:List Value} (h:w.ownsRow base e size v n xs) (hg:v.ownBlock=some g):∃ cur,w.heap[g]?=some (.cells cur e (0,0)):=by
 rcases h.2 with ⟨rfl,-⟩ | ⟨g',cap,cur',rfl,-,hg',-⟩
 ·simp [Value.ownBlock] at hg
 have e1:g'=g:=by simpa [Value.ownBlock] using hg
 exact ⟨cur',by rw [← e1]; exact hg'⟩
theorem su {w:af} {bp np:Nat} {Mp:K3→Option Value} {E:List (K3 × Tp)} (h:G.Grp oM prog 233 42 6 Tp.row w bp np Mp E) {k:K3} {v:Value} (hk:Mp k=some v):∃ n xs,w.ownsRow (bp + 1) 42 6 v n xs:=by
 rcases h.row k with ⟨e,-⟩ | ⟨v',e,ho⟩
 ·rw [e] at hk; cases hk
 rw [e] at hk; injection hk with hk; subst hk; exact ⟨_,_,ho⟩
theorem Ew {w:af} {bp np g:Nat} {Mp:K3→Option Value} {E:List (K3 × Tp)} {e:TypeId} {cur:Array Value} (h:G.Grp oM prog 233 42 6 Tp.row w bp np Mp E) (hc:w.heap[g]?=some (.cells cur e (0,0))) (hne:(42:TypeId) ≠ e):G.FreeB Mp g:=fun k v hk hg=>by
 obtain ⟨n,xs,ho⟩:=su h hk;exact hne (dh ho hg hc)
theorem sw {w w':af} {bp np:Nat} {Mp:K3→Option Value} {E:List (K3 × Tp)} (h:G.Grp oM prog 233 42 6 Tp.row w bp np Mp E) (hm:w'.heap[bp]?=w.heap[bp]?) (hr:∀ k v g,Mp k=some v→v.ownBlock=some g→w'.heap[g]?=w.heap[g]?):G.Grp oM prog 233 42 6 Tp.row w' bp np Mp E where
 map:=h.map.of_block hm
 row k:=by
  rcases h.row k with e | ⟨v,e,ho⟩
  ·exact .inl e
  exact .inr ⟨v,e,dw ho fun g hg=>hr k v g e hg⟩
 apart:=h.apart
section
variable {w w':World} {D br bp:Nat} {tab:Value} {n1:Int} {E:List (K3 × Tp)} {xo xu:List Al} {np:Nat} {Mp:K3→Option Value} {vo vu:Value}
theorem DatT.below (h:DatT w D br bp tab n1 E xo xu np Mp vo vu) (hb:aa w w'):DatT w' D br bp tab n1 E xo xu np Mp vo vu where
 gt:=h.gt
 lt:=Sg h.lt hb.size
 kind:=by obtain ⟨cur,e⟩:=h.kind; exact ⟨cur,(hb.block D h.lt).trans e⟩
 c0:=(hb.cell (p:=⟨D,0,none⟩) h.lt).trans h.c0
 c1:=(hb.cell (p:=⟨D,1,none⟩) h.lt).trans h.c1
 c2:=(hb.cell (p:=⟨D,2,none⟩) h.lt).trans h.c2
 c3:=(hb.cell (p:=⟨D,3,none⟩) h.lt).trans h.c3
 c4:=(hb.cell (p:=⟨D,4,none⟩) h.lt).trans h.c4
 c5:=(hb.cell (p:=⟨D,5,none⟩) h.lt).trans h.c5
 told:=h.told.below hb
 objs:=aB h.objs hb
 users:=aB h.users hb
 apart:=h.apart
theorem DatT.tell (h:DatT w D br bp tab n1 E xo xu np Mp vo vu) {Mp':K3→Option Value} {E':List (K3 × Tp)} {np':Nat} (hg:G.Grp oM prog 233 42 6 Tp.row w' bp np' Mp' E') (hs:G.Stl w Mp w' Mp' bp):DatT w' D br bp tab n1 E' xo xu np' Mp' vo vu:=by
 have hD:w'.heap[D]?=w.heap[D]?:=by
  obtain ⟨cur,e⟩:=h.kind;exact hs.block D h.lt (by have:=h.gt; omega) (Ew h.told e (by decide))
 have hc:∀ o,w'.cell? ⟨D,o,none⟩=w.cell? ⟨D,o,none⟩:=fun o=>SI (w:=w) (a:=⟨D,o,none⟩) hD;have hO:∀ {v:Value} {n:Nat} {xs:List Value},w.ownsRow (bp + 1) 40 2 v n xs→w'.ownsRow (bp + 1) 40 2 v n xs:=fun {v n xs} ho=>dw ho fun g hg=>by
  obtain ⟨cur,e⟩:=iV ho hg;have:=ho.lt g hg;exact hs.block g this.2 (by omega) (Ew h.told e (by decide))
 exact ⟨h.gt,Sg h.lt hs.size,by obtain ⟨cur,e⟩:=h.kind; exact ⟨cur,hD.trans e⟩,(hc _).trans h.c0,(hc _).trans h.c1,(hc _).trans h.c2,(hc _).trans h.c3,(hc _).trans h.c4,(hc _).trans h.c5,hg,hO h.objs,hO h.users,h.apart⟩
theorem DatT.newO (h:DatT w D br bp tab n1 E xo xu np Mp vo vu) {We:Value} {xo':List Al} (ho:w'.ownsRow (bp + 1) 40 2 We xo'.length (pairs xo')) (ha:Aside w vo w' We):DatT (w'.setCell ⟨D,4,none⟩ We) D br bp tab n1 E xo' xu np Mp We vu:=by
 obtain ⟨cur,hk⟩:=h.kind;have Wh:vo.ownBlock ≠ some D:=fun e=>absurd (dh h.objs e hk) (by decide);have hD:w'.heap[D]?=w.heap[D]?:=ha.block D h.lt Wh;have hc:∀ o,w'.cell? ⟨D,o,none⟩=w.cell? ⟨D,o,none⟩:=fun o=>SI (w:=w) (a:=⟨D,o,none⟩) hD;have hc2:∀ o,o ≠ 4→(w'.setCell ⟨D,4,none⟩ We).cell? ⟨D,o,none⟩=w.cell? ⟨D,o,none⟩:=fun o ne=>(jN (by omega)).trans (hc o);have hDn:We.ownBlock ≠ some D:=ha.apart h.lt Wh;have hne:∀ g,g ≠ D→(w'.setCell ⟨D,4,none⟩ We).heap[g]?=w'.heap[g]?:=fun g e=>heap_setCell_other w' ⟨D,4,none⟩ g We e;have hbp:bp < w.heap.size:=by have:=h.gt; have:=h.lt; omega
 have hrow:∀ k v g,Mp k=some v→v.ownBlock=some g→(w'.setCell ⟨D,4,none⟩ We).heap[g]?=w.heap[g]?:=fun k v g hm hg=>by
  obtain ⟨n,xs,hr⟩:=su h.told hm;obtain ⟨cr,er⟩:=iV hr hg;rw [hne g (fun e=>absurd (dh hr (e ▸ hg) hk) (by decide))];exact ha.block g (hr.lt g hg).2 (fun e=>absurd (dh h.objs e er) (by decide))
 refine ⟨h.gt,by simpa using Sg h.lt ha.size,⟨_,heap_setCell_same w' D 4 cur _ We (hD.trans hk)⟩,(hc2 0 (by omega)).trans h.c0,(hc2 1 (by omega)).trans h.c1,(hc2 2 (by omega)).trans h.c2,(hc2 3 (by omega)).trans h.c3,JQ ((hc 4).trans h.c4),(hc2 5 (by omega)).trans h.c5,sw h.told ?_ hrow,dw ho fun g hg=>hne g fun e=>hDn (e ▸ hg),dw h.users fun g hg=>?_,fun g hg hu=>?_⟩
 ·rw [hne bp (by have:=h.gt; omega)];exact ha.block bp hbp fun e=>by have:=(h.objs.lt bp e).1; omega
 ·rw [hne g (fun e=>absurd (dh h.users (e ▸ hg) hk) (by decide))];exact ha.block g (h.users.lt g hg).2 fun e=>h.apart g e hg
 rcases ha.own with e | ⟨g',e,hg'⟩
 ·exact h.apart g (e ▸ hg) hu
 rw [hg] at e; injection e with e;have:=(h.users.lt g hu).2;omega
theorem DatT.newU (h:DatT w D br bp tab n1 E xo xu np Mp vo vu) {Wi:Value} {xu':List Al} (ho:w'.ownsRow (bp + 1) 40 2 Wi xu'.length (pairs xu')) (ha:Aside w vu w' Wi):DatT (w'.setCell ⟨D,5,none⟩ Wi) D br bp tab n1 E xo xu' np Mp vo Wi:=by
 obtain ⟨cur,hk⟩:=h.kind;have Wh:vu.ownBlock ≠ some D:=fun e=>absurd (dh h.users e hk) (by decide);have hD:w'.heap[D]?=w.heap[D]?:=ha.block D h.lt Wh;have hc:∀ o,w'.cell? ⟨D,o,none⟩=w.cell? ⟨D,o,none⟩:=fun o=>SI (w:=w) (a:=⟨D,o,none⟩) hD;have hc2:∀ o,o ≠ 5→(w'.setCell ⟨D,5,none⟩ Wi).cell? ⟨D,o,none⟩=w.cell? ⟨D,o,none⟩:=fun o ne=>(jN (by omega)).trans (hc o);have hDn:Wi.ownBlock ≠ some D:=ha.apart h.lt Wh;have hne:∀ g,g ≠ D→(w'.setCell ⟨D,5,none⟩ Wi).heap[g]?=w'.heap[g]?:=fun g e=>heap_setCell_other w' ⟨D,5,none⟩ g Wi e;have hbp:bp < w.heap.size:=by have:=h.gt; have:=h.lt; omega
 have hrow:∀ k v g,Mp k=some v→v.ownBlock=some g→(w'.setCell ⟨D,5,none⟩ Wi).heap[g]?=w.heap[g]?:=fun k v g hm hg=>by
  obtain ⟨n,xs,hr⟩:=su h.told hm;obtain ⟨cr,er⟩:=iV hr hg;rw [hne g (fun e=>absurd (dh hr (e ▸ hg) hk) (by decide))];exact ha.block g (hr.lt g hg).2 (fun e=>absurd (dh h.users e er) (by decide))
 refine ⟨h.gt,by simpa using Sg h.lt ha.size,⟨_,heap_setCell_same w' D 5 cur _ Wi (hD.trans hk)⟩,(hc2 0 (by omega)).trans h.c0,(hc2 1 (by omega)).trans h.c1,(hc2 2 (by omega)).trans h.c2,(hc2 3 (by omega)).trans h.c3,(hc2 4 (by omega)).trans h.c4,JQ ((hc 5).trans h.c5),sw h.told ?_ hrow,dw h.objs fun g hg=>?_,dw ho fun g hg=>hne g fun e=>hDn (e ▸ hg),fun g hg hu=>?_⟩
 ·rw [hne bp (by have:=h.gt; omega)];exact ha.block bp hbp fun e=>by have:=(h.users.lt bp e).1; omega
 ·rw [hne g (fun e=>absurd (dh h.objs (e ▸ hg) hk) (by decide))];exact ha.block g (h.objs.lt g hg).2 fun e=>h.apart g hg e
 rcases ha.own with e | ⟨g',e,hg'⟩
 ·exact h.apart g hg (e ▸ hu)
 rw [hu] at e; injection e with e;have:=(h.objs.lt g hg).2;omega
end
theorem MU:∃ i,prog.info? 42=some i∧i.zero=some (.agg #[.string ⟨#[]⟩,.string ⟨#[]⟩,.string ⟨#[]⟩,.string ⟨#[]⟩,.string ⟨#[]⟩,.string ⟨#[]⟩])∧i.size=6∧i.bytes=96 :=
 info_parts (P:=prog) (e:=42) (z:=.agg #[.string ⟨#[]⟩,.string ⟨#[]⟩,.string ⟨#[]⟩,.string ⟨#[]⟩,.string ⟨#[]⟩,.string ⟨#[]⟩]) (size:=6) (bytes:=96) (by kernel_rfl)
theorem G6 (u:af):(zeroValue 38).run prog u=.ok (.slice none 0 0) u:=by kernel_rfl
theorem Bo {w:af} {bp np:Nat} {Mp:K3→Option Value} {E:List (K3 × Tp)} (h:G.Grp oM prog 233 42 6 Tp.row w bp np Mp E) (k:K3):w.ownsRow (bp + 1) 42 6 ((Mp k).getD (.slice none 0 0)) (G.lookL E k).length (G.flatG Tp.row (G.lookL E k)):=by
 rcases h.row k with ⟨e,e2⟩ | ⟨v,e,ho⟩
 ·rw [e,e2]; exact World.ownsRow_nil _ _ _ _
 rw [e]; exact ho
theorem news_of_block {w:af} {g:Nat} {cs:Array Value} {T:TypeId} (h:w.heap[g]?=some (.cells cs T (0,0))):∀ j u,cs.toList[j]?=some u→w.cell? ((⟨g,0,none⟩:Addr).add j)=some u:=by
 intro j u hu;have e:(⟨g,0,none⟩:Addr).add j=⟨g,j,none⟩:=by
  unfold Addr.add;by_cases hj:j=0
  ·subst hj; simp
  simp [hj]
 rw [e];simp [World.cell?,h];simpa using hu
theorem qj.block {w w':af} {g:Nat} {t:Tp} (h:qj w g t) (e:w'.heap[g]?=w.heap[g]?) (hl:g < w'.heap.size):qj w' g t:=by
 obtain ⟨h0,h1,h2,h3,h4,h5,_⟩:=h;have hc:∀ o,w'.cell? ⟨g,o,none⟩=w.cell? ⟨g,o,none⟩:=fun o=>SI (w:=w) (a:=⟨g,o,none⟩) e;exact ⟨(hc _).trans h0,(hc _).trans h1,(hc _).trans h2,(hc _).trans h3,(hc _).trans h4,(hc _).trans h5,hl⟩
theorem fH {w:af} {g:Nat} {cs:Array Value} {T:TypeId} (h:w.heap[g]?=some (.cells cs T (0,0))) (o:Nat):w.frozen? ⟨g,o,none⟩=false:=by
 simp [World.frozen?,h]
theorem qj.aside {w w':af} {g base n:Nat} {t:Tp} {v v':Value} {xs:List Value} (h:qj w g t) (hc:∃ cur,w.heap[g]?=some (.cells cur 42 (0,0))) (ho:w.ownsRow base 40 2 v n xs) (ha:Aside w v w' v'):qj w' g t∧∃ cur,w'.heap[g]?=some (.cells cur 42 (0,0)):=by
 obtain ⟨cur,e⟩:=hc;have hl:=h.2.2.2.2.2.2;have hb:=ha.block g hl fun hg=>absurd (dh ho hg e) (by decide);exact ⟨h.block hb (Sg hl ha.size),cur,hb.trans e⟩
theorem MV (D br bp:Nat) (tab:Value) (n1:Int) (E:List (K3 × Tp)) (xo xu:List Al) (np:Nat) (Mp:K3→Option Value) (vo vu:Value) (t:Tp) (w:af) (hd:DatT w D br bp tab n1 E xo xu np Mp vo vu) (hnp:np≤1000) (hE:E.length≤1000) (hxo:xo.length≤500) (hxu:xu.length≤500) (ht:t.fits) :
  Calls prog 95 #[.pointer (some ⟨D,0,none⟩),.agg #[.string t.a,.string t.b,.string t.r,.string t.c,.string t.d,.string t.s]] w fun e w'=>e=.returned (.tuple #[])∧(∃ Mp' We Wi,DatT w' D br bp tab n1 (E ++ [(Kg t,t)]) (gp xo t) (cZ xu t) (np + 1) Mp' We Wi)∧Below bp w w':=by
 obtain ⟨iT,h0,h1,h2,h3⟩:=MU;have HIT:=au (And.intro h0 (And.intro h1 (And.intro h2 h3)));obtain ⟨W,hW⟩:∃ W,W=(w.alloc (.cells #[.string t.a,.string t.b,.string t.r,.string t.c,.string t.d,.string t.s] 42)).alloc (.cells #[.string t.a,.string t.b,.string t.r] 233):=⟨_,rfl⟩;have Tt:Hid (aa w W):=by show Below _ _ _; rw [hW]; exact ((Si _ _).alloc (Sj _) _).alloc (by simp) _
 have hWs:W.heap.size=w.heap.size + 2:=by rw [hW]; simp
 have HT6:Hid (qj W w.heap.size t):=by show qj _ _ _; rw [hW]; refine ⟨?_,?_,?_,?_,?_,?_,?_⟩ <;> first | (simp; done) | (simp; omega)
 have Zb:Hid (W.cell? ⟨w.heap.size + 1,0,none⟩=some (.string t.a)∧W.cell? ⟨w.heap.size + 1,1,none⟩=some (.string t.b)∧W.cell? ⟨w.heap.size + 1,2,none⟩=some (.string t.r)):=by show _∧_; rw [hW]; refine ⟨?_,?_,?_⟩ <;> simp
 have HD:=au (hd.below Tt.out);have hDl:D < w.heap.size:=hd.lt;have HFB:Hid (G.FreeB Mp w.heap.size):=hd.told.fresh (Sj _);have TH:Hid (W.heap[w.heap.size]?=some (.cells #[.string t.a,.string t.b,.string t.r,.string t.c,.string t.d,.string t.s] 42 (0,0))):=by show _=_; rw [hW,Below.heap_alloc _ _ _ (by simp)]; exact heap_alloc_new w _
 have hbD:bp < D:=hd.gt;have Xn:Hid ((G.lookL E (Kg t)).length≤1000):=Sq (List.length_filterMap_le _ _) hE;obtain ⟨row0,hr0⟩:∃ r,r=(Mp (Kg t)).getD (.slice none 0 0):=⟨_,rfl⟩;obtain ⟨nn,hnn⟩:∃ n,n=(G.lookL E (Kg t)).length:=⟨_,rfl⟩;obtain ⟨xs,hxs⟩:∃ x,x=G.flatG Tp.row (G.lookL E (Kg t)):=⟨_,rfl⟩;have XQ:=au hr0;have Vh:=au hnn;have Wd:=au hxs;have hnl:nn≤1000:=by rw [hnn]; exact Xn.out
 have Ur:Hid (∀ W0:World,aa W W0→W0.ownsRow (bp + 1) 42 6 row0 nn xs):=fun W0 hb=>by rw [hr0,hnn,hxs]; exact Bo (HD.out.told.below hb) _
 have HKEY:Hid (∃ kl,keyOf prog 233 (oM (Kg t))=some kl):=Ci _ ht.1 ht.2.1 ht.2.2.1;clear h0 h1 h2 h3 hr0 hnn hxs hd hE;obtain ⟨C2,hC2⟩:∃ C:Nat→Value,C=fun n=>(Value.pointer (some ⟨D,0,none⟩)::.pointer (some ⟨D,0,none⟩)::.pointer (some ⟨D,3,none⟩)::.map (some bp)::.agg #[.string t.a,.string t.b,.string t.r]::.agg #[.string t.a,.string t.b,.string t.r,.string t.c,.string t.d,.string t.s]::[]).getD n undef:=⟨_,rfl⟩;have Tx:Hid (C2 0=Value.pointer (some ⟨D,0,none⟩)∧C2 1=Value.pointer (some ⟨D,0,none⟩)∧C2 2=Value.pointer (some ⟨D,3,none⟩)∧C2 3=Value.map (some bp)∧C2 4=Value.agg #[.string t.a,.string t.b,.string t.r]∧C2 5=Value.agg #[.string t.a,.string t.b,.string t.r,.string t.c,.string t.d,.string t.s]):=by show _∧_; rw [hC2]; exact ⟨rfl,rfl,rfl,rfl,rfl,rfl⟩
 clear hC2;go_enter func95,ntmps95;go_wp2_with fail;rw [← hW];clear hW;refine om 11 (fun _=>undef) (fun fq=>{ tmps:=List.toArray (Value.pointer (some ⟨D,0,none⟩)::.agg #[.string t.a,.string t.b,.string t.r,.string t.c,.string t.d,.string t.s]::undef::.pointer (some ⟨w.heap.size,0,none⟩)::.pointer (some ⟨w.heap.size + 1,0,none⟩)::.pointer (some ⟨w.heap.size,0,none⟩)::.agg #[.string t.a,.string t.b]::.pointer (some ⟨w.heap.size,2,none⟩)::.string t.r::.agg #[.string t.a,.string t.b,.string t.r]::(fq 0)::(fq 1)::(fq 2)::(fq 3)::(fq 4)::(fq 8)::(fq 5)::(fq 6)::(fq 7)::(fq 9)::(fq 10)::undef::undef::undef::undef::undef::undef::undef::undef::undef::undef::undef::undef::undef::undef::undef::undef::undef::undef::undef::undef::undef::undef::undef::undef::undef::undef::undef::undef::undef::undef::undef::undef::undef::[]),defers:=[] }) (G.EI C2 #[.string t.a,.string t.b,.string t.r,.string t.c,.string t.d,.string t.s] 42 6 W bp row0 nn xs (G.Back oM prog 233 150 bp np Mp (Kg t))) (by kernel_rfl) rfl (by kernel_rfl) (by kernel_rfl) rfl (G.ei_start W) ?stepA ?finA;case stepA =>
  rintro i hi o ho l fq w' Ul hI hpre;have HI:=ay hI;have Tk:Hid (∀ e ∈ o.after,Region.binds .any e=true→l e.on=true):=hpre;clear hI hpre;have hc:=IW (i:=i) (by omega);clear hi
  repeat' rcases hc with rfl | hc
  ·cases ho;have hA:=HI.out.early (i:=0) (by omega) Ul;clear Tk HI;refine ae rfl fun K HK=>?_;go_simp;exact HK.out _ _ ⟨Value.pointer (some ⟨D,0,none⟩),by simp [upd, *],hA.put (by omega) Tx.out.1.symm⟩
  ·cases ho;have hA:=HI.out.early (i:=1) (by omega) Ul;have e0:=(hA.val 0 (by omega) (Tk.out ⟨0,.data⟩ (by simp) rfl)).trans Tx.out.1;clear Tk HI;refine ae rfl fun K HK=>?_;simp only [e0];go_simp;exact HK.out _ _ ⟨Value.pointer (some ⟨D,0,none⟩),by simp [upd, *],hA.put (by omega) Tx.out.2.1.symm⟩
  ·cases ho;have hA:=HI.out.early (i:=2) (by omega) Ul;have e1:=(hA.val 1 (by omega) (Tk.out ⟨1,.data⟩ (by simp) rfl)).trans Tx.out.2.1;clear Tk HI;refine ae rfl fun K HK=>?_;simp only [e1];go_simp;exact HK.out _ _ ⟨Value.pointer (some ⟨D,3,none⟩),by simp [upd, *],hA.put (by omega) Tx.out.2.2.1.symm⟩
  ·cases ho;have hA:=HI.out.early (i:=3) (by omega) Ul;have e2:=(hA.val 2 (by omega) (Tk.out ⟨2,.data⟩ (by simp) rfl)).trans Tx.out.2.2.1;have hb':=hA.bel;have d3:=(hb'.cell (p:=⟨D,3,none⟩) (by show D < _; omega)).trans HD.out.c3;clear Tk HI;refine ae rfl fun K HK=>?_;simp only [e2];go_simp;exact HK.out _ _ ⟨Value.map (some bp),by simp [upd, *],hA.put (by omega) Tx.out.2.2.2.1.symm⟩
  ·cases ho;have hA:=HI.out.early (i:=4) (by omega) Ul;have hb':=hA.bel;have k0:=(hb'.cell (p:=⟨w.heap.size + 1,0,none⟩) (by show w.heap.size + 1 < _; omega)).trans Zb.out.1;have k1:=(hb'.cell (p:=⟨w.heap.size + 1,1,none⟩) (by show w.heap.size + 1 < _; omega)).trans Zb.out.2.1;have k2:=(hb'.cell (p:=⟨w.heap.size + 1,2,none⟩) (by show w.heap.size + 1 < _; omega)).trans Zb.out.2.2;clear Tk HI;refine ae rfl fun K HK=>?_;go_simp;exact HK.out _ _ ⟨Value.agg #[.string t.a,.string t.b,.string t.r],by simp [upd, *],hA.put (by omega) Tx.out.2.2.2.2.1.symm⟩
  ·cases ho;have hA:=HI.out.early (i:=5) (by omega) Ul;have hb':=hA.bel;obtain ⟨t0,t1,t2,t3,t4,t5,tl⟩:=HT6.out.below hb';clear Tk HI;refine ae rfl fun K HK=>?_;go_simp;exact HK.out _ _ ⟨Value.agg #[.string t.a,.string t.b,.string t.r,.string t.c,.string t.d,.string t.s],by simp [upd, *],hA.put (by omega) Tx.out.2.2.2.2.2.symm⟩
  ·cases ho;have hA:=HI.out.early (i:=6) (by omega) Ul;have e5:=(hA.val 5 (by omega) (Tk.out ⟨5,.data⟩ (by simp) rfl)).trans Tx.out.2.2.2.2.2;clear Tk HI;refine ae rfl fun K HK=>?_;simp only [e5];go_simp;exact HK.out _ _ ⟨_,by simp [upd,e5],hA.lay⟩
  ·cases ho;have hA:=HI.out.early (i:=7) (by omega) Ul;have e3:=(hA.val 3 (by omega) (Tk.out ⟨3,.data⟩ (by simp) rfl)).trans Tx.out.2.2.2.1;have e4:=(hA.val 4 (by omega) (Tk.out ⟨4,.data⟩ (by simp) rfl)).trans Tx.out.2.2.2.2.1;have hall:∀ k,k≤6→l k=true:=fun k hk=>by
    have hc:=Rm (i:=k) (by omega)
    repeat' rcases hc with rfl | hc
    all_goals exact Tk.out ⟨_,.phase⟩ (by simp) rfl
   have hD':=HD.out.below hA.bel;obtain ⟨kl,hkl⟩:=HKEY.out;obtain ⟨st,w1,hrun,hg,hback⟩:=hD'.told.map.entry Ma L9 underlying150 G6 (by unfold maxLen; omega) hkl;rw [← XQ.out] at hrun;have hrun':(Instr.mapEntry 150 (.map (some bp)) (Value.agg #[.string t.a,.string t.b,.string t.r])).run prog w'=.ok (.tuple #[row0,goInt st]) w1:=hrun;clear Tk HI;refine ae rfl fun K HK=>?_;simp only [e3,e4];go_simp;exact HK.out _ _ ⟨_,by simp [upd,e3,e4,goInt],hA.took hall hg hback⟩
  ·cases ho;have h7:=Tk.out ⟨7,.data⟩ (by simp) rfl;have hB:=HI.out.midB h7 (i:=8) (by omega) Ul;obtain ⟨st,e7⟩:=HI.out.seven h7;clear Tk HI;refine ae rfl fun K HK=>?_;simp only [e7];go_simp;exact HK.out _ _ ⟨_,by simp [upd,e7,goInt],hB.first⟩
  ·cases ho;have h7:=Tk.out ⟨7,.chain⟩ (by simp) rfl;have h8:=Tk.out ⟨8,.data⟩ (by simp) rfl;have hB:=HI.out.midB h7 (i:=9) (by omega) Ul;obtain ⟨W0,st,g,hm1,hm2,Wj,Xt,VB,e7,hm7,XR,hm9⟩:=hB.mid;have e8:=XR h8;have hown:=(Ur.out W0 hm1).kept VB (by
    rcases h:row0.ownBlock with _ | g'
    ·exact .inl rfl
    right; intro e; injection e with e; have:=((Ur.out W0 hm1).lt g' h).1; omega)
   have hnew:w'.heap[g]?=some (.cells #[.string t.a,.string t.b,.string t.r,.string t.c,.string t.d,.string t.s] 42 (0,0)):=by
    have hgl:g < W0.heap.size:=by
     rcases Nat.lt_or_ge g W0.heap.size with h | h
     ·exact h
     rw [Array.getElem?_eq_none h] at Xt; cases Xt
    rw [VB.block g hgl (fun e=>by injection e with e; omega)]; exact Xt
   clear Tk HI;refine ol w' rfl rfl _ _ 38 rfl (bp + 1) 42 iT _ 6 96 underlying38 HIT.out.1 HIT.out.2.1 HIT.out.2.2.1 HIT.out.2.2.2 rfl (by decide) row0 nn xs (by simp [Act.eval,e8]) hown ⟨g,0,none⟩ 1 1 [Value.string t.a,.string t.b,.string t.r,.string t.c,.string t.d,.string t.s] (by simp [Act.eval,hm2]) rfl (fun j u hu=>news_of_block hnew j u hu) (by simp [Value.oneCell']) (by unfold maxLen; omega) (by omega) (by have:=VB.size; have:=hm1.size; omega) ?_;intro v' w2 hown2 TC Yc;exact ⟨v',by simp [upd,Act.put],hB.app h8 TC hown2 Yc⟩
  cases ho;have h7:=Tk.out ⟨7,.data⟩ (by simp) rfl;obtain ⟨st,e7⟩:=HI.out.seven h7;have HI2:=HI.out.second h7 e7;clear Tk HI;refine ae rfl fun K HK=>?_;simp only [e7];go_simp;exact HK.out _ _ ⟨_,by simp [upd,e7,goInt],HI2⟩
 case finA =>
  rintro o ho l fq w' hall hI;obtain rfl:=Option.some.inj ho;have hC:=hI.last hall;obtain ⟨W0,w1,st,hm1,hm2,Wj,Xt,VB,hm6,-,XR⟩:=hC.mid;have e10:=XR (hall 10 (by omega));have e3:=(hC.val 3 (by omega)).trans Tx.out.2.2.2.1;obtain ⟨w3,hrun,hM3,hg3⟩:=hm6 w' (fq 9) (Wj.block bp (by have:=hm2.size; have:=hm1.size; omega) (fun e=>by have:=(Ur.out W0 hm1).lt bp e.symm; omega));have hst:=(HD.out.told.below hm1).step (y:=Kg t) (s:=t) hm2 (by rw [← Vh.out,← Wd.out]; exact Xt) (by rw [← XQ.out]; exact Wj) (by rw [← XQ.out]; exact VB) hg3 hM3;have HD3:=au ((HD.out.below hm1).tell hst.1 hst.2);have HB3:Hid (Below bp w w3):=by
   have b0:Below bp w W0:=(Tt.out.trans (hm1.mono Tt.out.size)).mono (by omega);have b1:Below bp w w1:=b0.grown hm2 (by have:=hm1.size; omega) (fun i hi=>by injection hi with hi; omega);have b2:Below bp w w':=b1.grown Wj (by have:=hm2.size; have:=hm1.size; omega) (fun i hi=>by have:=((Ur.out W0 hm1).lt i hi).1; omega);exact b2.grown hg3 (by have:=Wj.size; have:=hm2.size; have:=hm1.size; omega) (fun i hi=>by injection hi with hi; omega)
  have hz3:W.heap.size≤w3.heap.size:=by have:=hg3.size; have:=Wj.size; have:=hm2.size; have:=hm1.size; omega
  have hbx3:w3.heap[w.heap.size]?=some (.cells #[.string t.a,.string t.b,.string t.r,.string t.c,.string t.d,.string t.s] 42 (0,0)):=by
   rw [hst.2.block w.heap.size (by have:=hm1.size; omega) (by omega) HFB.out,hm1.block w.heap.size (by omega)]; exact TH.out
  have HT3:Hid (qj w3 w.heap.size t∧∃ cur,w3.heap[w.heap.size]?=some (.cells cur 42 (0,0))):=⟨HT6.out.block (by rw [hbx3,TH.out]) (by omega),_,hbx3⟩;have UB:(Instr.entryStore 150 (.map (some bp)) (.int .i64 st) (fq 9)).run prog w'=.ok () w3:=hrun;obtain ⟨Mn,ZE⟩:∃ M,M=jV Mp (Kg t) (some (fq 9)):=⟨_,rfl⟩;rw [← ZE] at HD3;refine ae rfl fun K HK=>?_;simp only [e3,e10];go_simp;refine HK.out _ _ ?_;clear hst hrun UB hM3 hg3 hm1 hm2 Wj Xt VB hm6 XR hC hI hall ho HK K e3 e10 HD HT6 Zb Tt Ur TH Tx HKEY HFB ZE XQ Vh Wd hbx3;obtain ⟨y0,hy0⟩:∃ y,y=fq 0:=⟨_,rfl⟩;rw [← hy0];obtain ⟨y1,hy1⟩:∃ y,y=fq 1:=⟨_,rfl⟩;rw [← hy1];obtain ⟨y2,hy2⟩:∃ y,y=fq 2:=⟨_,rfl⟩;rw [← hy2];obtain ⟨y4,hy4⟩:∃ y,y=fq 4:=⟨_,rfl⟩;rw [← hy4];obtain ⟨y8,hy8⟩:∃ y,y=fq 8:=⟨_,rfl⟩;rw [← hy8];obtain ⟨y5,hy5⟩:∃ y,y=fq 5:=⟨_,rfl⟩;rw [← hy5];obtain ⟨y6,hy6⟩:∃ y,y=fq 6:=⟨_,rfl⟩;rw [← hy6];obtain ⟨y7,hy7⟩:∃ y,y=fq 7:=⟨_,rfl⟩;rw [← hy7];obtain ⟨y9,hy9⟩:∃ y,y=fq 9:=⟨_,rfl⟩;rw [← hy9];clear hy0 hy1 hy2 hy4 hy8 hy5 hy6 hy7 hy9 fq l hz3;go_wp2_with fail;have hbz:bp + 1≤w3.heap.size:=by have:=HD3.out.lt; have:=HD3.out.gt; omega
  have hx1:(aZ xo ⟨t.a,t.b⟩).length≤501:=by have:=mi xo ⟨t.a,t.b⟩; omega
  obtain ⟨CB,hCB⟩:∃ C:Nat→Value,C=fun n=>(Value.pointer (some ⟨D,0,none⟩)::.pointer (some ⟨D,0,none⟩)::.pointer (some ⟨D,0,none⟩)::.pointer (some ⟨D,4,none⟩)::vo::.pointer (some ⟨w.heap.size,0,none⟩)::.agg #[.string t.a,.string t.b]::undef::.pointer (some ⟨D,0,none⟩)::.pointer (some ⟨D,4,none⟩)::[]).getD n undef:=⟨_,rfl⟩;have VC:Hid (CB 0=Value.pointer (some ⟨D,0,none⟩)∧CB 1=Value.pointer (some ⟨D,0,none⟩)∧CB 2=Value.pointer (some ⟨D,0,none⟩)∧CB 3=Value.pointer (some ⟨D,4,none⟩)∧CB 4=vo∧CB 5=Value.pointer (some ⟨w.heap.size,0,none⟩)∧CB 6=Value.agg #[.string t.a,.string t.b]∧CB 7=undef∧CB 8=Value.pointer (some ⟨D,0,none⟩)∧CB 9=Value.pointer (some ⟨D,4,none⟩)):=by show _∧_; rw [hCB]; exact ⟨rfl,rfl,rfl,rfl,rfl,rfl,rfl,rfl,rfl,rfl⟩
  clear hCB;refine jg 10 (fun _=>undef) (fun fr=>{ tmps:=List.toArray (Value.pointer (some ⟨D,0,none⟩)::.agg #[.string t.a,.string t.b,.string t.r,.string t.c,.string t.d,.string t.s]::undef::.pointer (some ⟨w.heap.size,0,none⟩)::.pointer (some ⟨w.heap.size + 1,0,none⟩)::.pointer (some ⟨w.heap.size,0,none⟩)::.agg #[.string t.a,.string t.b]::.pointer (some ⟨w.heap.size,2,none⟩)::.string t.r::.agg #[.string t.a,.string t.b,.string t.r]::y0::y1::y2::.map (some bp)::y4::y8::y5::y6::y7::y9::.int .i64 st::(fr 0)::(fr 1)::(fr 2)::(fr 3)::(fr 4)::(fr 5)::(fr 6)::(fr 7)::(fr 8)::(fr 9)::undef::undef::undef::undef::undef::undef::undef::undef::undef::undef::undef::undef::undef::undef::undef::undef::undef::undef::undef::undef::undef::undef::undef::[]),defers:=[] }) (G.WI CB w3 (fun v' w'=>∃ w1,aa w3 w1∧w'.ownsRow (bp + 1) 40 2 v' (aZ xo ⟨t.a,t.b⟩).length (pairs (aZ xo ⟨t.a,t.b⟩))∧Aside w1 vo w' v'∧∀ B',(∀ g,vo.ownBlock=some g→B'≤g)→B'≤w1.heap.size→Below B' w1 w')) (by kernel_rfl) rfl (by kernel_rfl) (fun o ho l f w' hI hp=>?clB) rfl (G.wi_start w3) ?vO ?finB;case clB =>
   cases ho;intro k hk;have h9:=hp ⟨9,.data⟩ (by simp) rfl;have hc:=Aw (i:=k) (by omega)
   repeat' rcases hc with rfl | hc
   all_goals first | exact hI.nin h9 | exact h9 | exact hp ⟨_,.phase⟩ (by simp) rfl
  case vO =>
   rintro i hi o ho l fr w' Ul hI hpre;have HI:Hid (G.WI CB w3 (fun v' w'=>∃ w1,aa w3 w1∧w'.ownsRow (bp + 1) 40 2 v' (aZ xo ⟨t.a,t.b⟩).length (pairs (aZ xo ⟨t.a,t.b⟩))∧Aside w1 vo w' v'∧∀ B',(∀ g,vo.ownBlock=some g→B'≤g)→B'≤w1.heap.size→Below B' w1 w') l fr w'):=hI;have Tk:Hid (∀ e ∈ o.after,Region.binds .any e=true→l e.on=true):=hpre;clear hI hpre;have hc:=Aw (i:=i) (by omega);clear hi
   repeat' rcases hc with rfl | hc
   ·cases ho;have hW:=HI.out;clear Tk HI;refine ae rfl fun K HK=>?_;go_simp;exact HK.out _ _ ⟨Value.pointer (some ⟨D,0,none⟩),by simp [upd, *],hW.put (by omega) (by omega) VC.out.1.symm⟩
   ·cases ho;have hW:=HI.out;clear Tk HI;refine ae rfl fun K HK=>?_;go_simp;exact HK.out _ _ ⟨Value.pointer (some ⟨D,0,none⟩),by simp [upd, *],hW.put (by omega) (by omega) VC.out.2.1.symm⟩
   ·cases ho;have hW:=HI.out;have e1:=(HI.out.val 1 (by omega) (by omega) (Tk.out ⟨1,.data⟩ (by simp) rfl)).trans VC.out.2.1;clear Tk HI;refine ae rfl fun K HK=>?_;simp only [e1];go_simp;exact HK.out _ _ ⟨Value.pointer (some ⟨D,0,none⟩),by simp [upd, *],hW.put (by omega) (by omega) VC.out.2.2.1.symm⟩
   ·cases ho;have hW:=HI.out;have e2:=(HI.out.val 2 (by omega) (by omega) (Tk.out ⟨2,.data⟩ (by simp) rfl)).trans VC.out.2.2.1;clear Tk HI;refine ae rfl fun K HK=>?_;simp only [e2];go_simp;exact HK.out _ _ ⟨Value.pointer (some ⟨D,4,none⟩),by simp [upd, *],hW.put (by omega) (by omega) VC.out.2.2.2.1.symm⟩
   ·cases ho;have hW:=HI.out;have e3:=(HI.out.val 3 (by omega) (by omega) (Tk.out ⟨3,.data⟩ (by simp) rfl)).trans VC.out.2.2.2.1;have hb':=HI.out.early (.inl Ul);have d4:=(hb'.cell (p:=⟨D,4,none⟩) HD3.out.lt).trans HD3.out.c4;clear Tk HI;refine ae rfl fun K HK=>?_;simp only [e3];go_simp;exact HK.out _ _ ⟨vo,by simp [upd, *],hW.put (by omega) (by omega) VC.out.2.2.2.2.1.symm⟩
   ·cases ho;have hW:=HI.out;clear Tk HI;refine ae rfl fun K HK=>?_;go_simp;exact HK.out _ _ ⟨Value.pointer (some ⟨w.heap.size,0,none⟩),by simp [upd, *],hW.put (by omega) (by omega) VC.out.2.2.2.2.2.1.symm⟩
   ·cases ho;have hW:=HI.out;have e5:=(HI.out.val 5 (by omega) (by omega) (Tk.out ⟨5,.data⟩ (by simp) rfl)).trans VC.out.2.2.2.2.2.1;have hb':=HI.out.early (.inr Ul);obtain ⟨t0,t1,t2,t3,t4,t5,tl⟩:=HT3.out.1.below hb';clear Tk HI;refine ae rfl fun K HK=>?_;simp only [e5];go_simp;exact HK.out _ _ ⟨Value.agg #[.string t.a,.string t.b],by simp [upd, *],hW.put (by omega) (by omega) VC.out.2.2.2.2.2.2.1.symm⟩
   ·cases ho;have hW:=HI.out;have e4:=(HI.out.val 4 (by omega) (by omega) (Tk.out ⟨4,.data⟩ (by simp) rfl)).trans VC.out.2.2.2.2.1;have e6:=(HI.out.val 6 (by omega) (by omega) (Tk.out ⟨6,.data⟩ (by simp) rfl)).trans VC.out.2.2.2.2.2.2.1;have h4:=Tk.out ⟨4,.data⟩ (by simp) rfl;have h6:=Tk.out ⟨6,.data⟩ (by simp) rfl;have hb':=HI.out.before Ul;have hown:=aB HD3.out.objs hb';clear Tk HI;refine ae rfl fun K HK=>?_;simp only [e4,e6];go_simp;refine (kI (bp + 1) vo xo ⟨t.a,t.b⟩ w' (by omega) (Sq hbz hb'.size) hown).mono ?_;rintro e w2 ⟨v',rfl,hown2,has,hbl⟩;exact HK.out _ _ ⟨v',by simp [upd,e4,e6],hW.call h4 h6 ⟨w',hb',hown2,has,hbl⟩⟩
   ·cases ho;have hW:=HI.out;have e0:=(HI.out.val 0 (by omega) (by omega) (Tk.out ⟨0,.data⟩ (by simp) rfl)).trans VC.out.1;clear Tk HI;refine ae rfl fun K HK=>?_;simp only [e0];go_simp;exact HK.out _ _ ⟨Value.pointer (some ⟨D,0,none⟩),by simp [upd, *],hW.put (by omega) (by omega) VC.out.2.2.2.2.2.2.2.2.1.symm⟩
   cases ho;have hW:=HI.out;have e8:=(HI.out.val 8 (by omega) (by omega) (Tk.out ⟨8,.data⟩ (by simp) rfl)).trans VC.out.2.2.2.2.2.2.2.2.1;have h8:=Tk.out ⟨8,.data⟩ (by simp) rfl;clear Tk HI;refine ae rfl fun K HK=>?_;simp only [e8];go_simp;exact HK.out _ _ ⟨Value.pointer (some ⟨D,4,none⟩),by simp [upd, *],hW.put (by omega) (fun _=>h8) VC.out.2.2.2.2.2.2.2.2.2.symm⟩
  case finB =>
   rintro o ho l fr w' hall hI;obtain rfl:=Option.some.inj ho;obtain ⟨hval,w1,hb1,hown,has,hbl⟩:=hI.last hall;have e9:=(hval 9 (by omega) (by omega)).trans VC.out.2.2.2.2.2.2.2.2.2;have Uz:=HD3.out.below hb1;have hDn:=Uz.newO hown has;have Xe:=(HT3.out.1.below hb1).aside (by obtain ⟨cur,e⟩:=HT3.out.2; exact ⟨cur,(hb1.block _ HT3.out.1.2.2.2.2.2.2).trans e⟩) Uz.objs has;obtain ⟨cur,hkd⟩:=Uz.kind;have Wh:vo.ownBlock ≠ some D:=fun e=>absurd (dh Uz.objs e hkd) (by decide);have Wl:=(has.block D Uz.lt Wh).trans hkd;have fz:=fun o=>fH Wl o;have d4:=(SI (w:=w1) (a:=⟨D,4,none⟩) (has.block D Uz.lt Wh)).trans Uz.c4;obtain ⟨adn,cpn,e7,-⟩:=jG hown;rw [e7] at hown has hDn;obtain ⟨w4,hwn⟩:∃ x,x=w'.setCell ⟨D,4,none⟩ (Value.slice adn (aZ xo ⟨t.a,t.b⟩).length cpn):=⟨_,rfl⟩;rw [← hwn] at hDn;have Xu:=au hDn;have Yd:Hid (qj w4 w.heap.size t∧∃ cur,w4.heap[w.heap.size]?=some (.cells cur 42 (0,0))):=by
    have hh:w4.heap[w.heap.size]?=w'.heap[w.heap.size]?:=by rw [hwn]; exact heap_setCell_other w' ⟨D,4,none⟩ w.heap.size _ (by show w.heap.size ≠ D; omega)
    obtain ⟨cr,ecr⟩:=Xe.2;exact ⟨Xe.1.block hh (by rw [hwn]; simpa using Xe.1.2.2.2.2.2.2),cr,hh.trans ecr⟩
   have HB3n:Hid (Below bp w w4):=by
    have b1:Below bp w w1:=HB3.out.trans (hb1.mono (by omega));have b2:Below bp w w':=b1.trans (hbl bp (fun g hg=>by have:=(Uz.objs.lt g hg).1; omega) (by have:=hb1.size; omega));show Below _ _ _; rw [hwn]; exact b2.setCell (by show bp≤D; omega) _
   have hsn:w3.heap.size≤w4.heap.size:=by rw [hwn]; have:=hb1.size; have:=has.size; simp; omega
   have Xv:bp + 1≤w4.heap.size:=by omega
   clear hval;refine ae rfl fun K HK=>?_;simp only [e9,e7];go_simp;rw [← hwn];refine HK.out _ _ ?_;obtain ⟨Ye,hvo1⟩:∃ v,v=Value.slice adn (aZ xo ⟨t.a,t.b⟩).length cpn:=⟨_,rfl⟩;rw [← hvo1] at Xu ⊢;clear hb1 hown has hbl Uz hDn Xe hkd Wl Wh fz d4 HK K hI hall ho hwn e9 e7 hvo1 hsn hbz HD3 HT3 HB3 VC;obtain ⟨zB0,hz0⟩:∃ y,y=fr 0:=⟨_,rfl⟩;rw [← hz0];obtain ⟨zB1,hz1⟩:∃ y,y=fr 1:=⟨_,rfl⟩;rw [← hz1];obtain ⟨zB2,hz2⟩:∃ y,y=fr 2:=⟨_,rfl⟩;rw [← hz2];obtain ⟨zB3,hz3⟩:∃ y,y=fr 3:=⟨_,rfl⟩;rw [← hz3];obtain ⟨zB4,Wx⟩:∃ y,y=fr 4:=⟨_,rfl⟩;rw [← Wx];obtain ⟨zB5,hz5⟩:∃ y,y=fr 5:=⟨_,rfl⟩;rw [← hz5];obtain ⟨zB6,hz6⟩:∃ y,y=fr 6:=⟨_,rfl⟩;rw [← hz6];obtain ⟨zB8,hz8⟩:∃ y,y=fr 8:=⟨_,rfl⟩;rw [← hz8];clear hz0 hz1 hz2 hz3 Wx hz5 hz6 hz8 fr l
   skip
   have hbz:=Xv;clear Xv;go_wp2_with fail;obtain ⟨CC,hCC⟩:∃ C:Nat→Value,C=fun n=>(Value.pointer (some ⟨D,0,none⟩)::.pointer (some ⟨D,0,none⟩)::.pointer (some ⟨D,0,none⟩)::.pointer (some ⟨D,4,none⟩)::Ye::.pointer (some ⟨w.heap.size,3,none⟩)::.agg #[.string t.c,.string t.d]::undef::.pointer (some ⟨D,0,none⟩)::.pointer (some ⟨D,4,none⟩)::[]).getD n undef:=⟨_,rfl⟩;have Uo:Hid (CC 0=Value.pointer (some ⟨D,0,none⟩)∧CC 1=Value.pointer (some ⟨D,0,none⟩)∧CC 2=Value.pointer (some ⟨D,0,none⟩)∧CC 3=Value.pointer (some ⟨D,4,none⟩)∧CC 4=Ye∧CC 5=Value.pointer (some ⟨w.heap.size,3,none⟩)∧CC 6=Value.agg #[.string t.c,.string t.d]∧CC 7=undef∧CC 8=Value.pointer (some ⟨D,0,none⟩)∧CC 9=Value.pointer (some ⟨D,4,none⟩)):=by show _∧_; rw [hCC]; exact ⟨rfl,rfl,rfl,rfl,rfl,rfl,rfl,rfl,rfl,rfl⟩
   clear hCC;refine jg 10 (fun _=>undef) (fun fs=>{ tmps:=List.toArray (Value.pointer (some ⟨D,0,none⟩)::.agg #[.string t.a,.string t.b,.string t.r,.string t.c,.string t.d,.string t.s]::undef::.pointer (some ⟨w.heap.size,0,none⟩)::.pointer (some ⟨w.heap.size + 1,0,none⟩)::.pointer (some ⟨w.heap.size,0,none⟩)::.agg #[.string t.a,.string t.b]::.pointer (some ⟨w.heap.size,2,none⟩)::.string t.r::.agg #[.string t.a,.string t.b,.string t.r]::y0::y1::y2::.map (some bp)::y4::y8::y5::y6::y7::y9::.int .i64 st::zB0::zB1::zB2::zB3::zB4::zB5::zB6::Ye::zB8::.pointer (some ⟨D,4,none⟩)::(fs 0)::(fs 1)::(fs 2)::(fs 3)::(fs 4)::(fs 5)::(fs 6)::(fs 7)::(fs 8)::(fs 9)::undef::undef::undef::undef::undef::undef::undef::undef::undef::undef::undef::undef::undef::[]),defers:=[] }) (G.WI CC w4 (fun v' w'=>∃ w1,aa w4 w1∧w'.ownsRow (bp + 1) 40 2 v' (aZ (aZ xo ⟨t.a,t.b⟩) ⟨t.c,t.d⟩).length (pairs (aZ (aZ xo ⟨t.a,t.b⟩) ⟨t.c,t.d⟩))∧Aside w1 Ye w' v'∧∀ B',(∀ g,Ye.ownBlock=some g→B'≤g)→B'≤w1.heap.size→Below B' w1 w')) (by kernel_rfl) rfl (by kernel_rfl) (fun o ho l f w' hI hp=>?clC) rfl (G.wi_start w4) ?stepC ?finC;case clC =>
    cases ho;intro k hk;have h9:=hp ⟨9,.data⟩ (by simp) rfl;have hc:=Aw (i:=k) (by omega)
    repeat' rcases hc with rfl | hc
    all_goals first | exact hI.nin h9 | exact h9 | exact hp ⟨_,.phase⟩ (by simp) rfl
   case stepC =>
    rintro i hi o ho l fs w' Ul hI hpre;have HI:Hid (G.WI CC w4 (fun v' w'=>∃ w1,aa w4 w1∧w'.ownsRow (bp + 1) 40 2 v' (aZ (aZ xo ⟨t.a,t.b⟩) ⟨t.c,t.d⟩).length (pairs (aZ (aZ xo ⟨t.a,t.b⟩) ⟨t.c,t.d⟩))∧Aside w1 Ye w' v'∧∀ B',(∀ g,Ye.ownBlock=some g→B'≤g)→B'≤w1.heap.size→Below B' w1 w') l fs w'):=hI;have Tk:Hid (∀ e ∈ o.after,Region.binds .any e=true→l e.on=true):=hpre;clear hI hpre;have hc:=Aw (i:=i) (by omega);clear hi
    repeat' rcases hc with rfl | hc
    ·cases ho;have hW:=HI.out;clear Tk HI;refine ae rfl fun K HK=>?_;go_simp;exact HK.out _ _ ⟨Value.pointer (some ⟨D,0,none⟩),by simp [upd, *],hW.put (by omega) (by omega) Uo.out.1.symm⟩
    ·cases ho;have hW:=HI.out;clear Tk HI;refine ae rfl fun K HK=>?_;go_simp;exact HK.out _ _ ⟨Value.pointer (some ⟨D,0,none⟩),by simp [upd, *],hW.put (by omega) (by omega) Uo.out.2.1.symm⟩
    ·cases ho;have hW:=HI.out;have e1:=(HI.out.val 1 (by omega) (by omega) (Tk.out ⟨1,.data⟩ (by simp) rfl)).trans Uo.out.2.1;clear Tk HI;refine ae rfl fun K HK=>?_;simp only [e1];go_simp;exact HK.out _ _ ⟨Value.pointer (some ⟨D,0,none⟩),by simp [upd, *],hW.put (by omega) (by omega) Uo.out.2.2.1.symm⟩
    ·cases ho;have hW:=HI.out;have e2:=(HI.out.val 2 (by omega) (by omega) (Tk.out ⟨2,.data⟩ (by simp) rfl)).trans Uo.out.2.2.1;clear Tk HI;refine ae rfl fun K HK=>?_;simp only [e2];go_simp;exact HK.out _ _ ⟨Value.pointer (some ⟨D,4,none⟩),by simp [upd, *],hW.put (by omega) (by omega) Uo.out.2.2.2.1.symm⟩
    ·cases ho;have hW:=HI.out;have e3:=(HI.out.val 3 (by omega) (by omega) (Tk.out ⟨3,.data⟩ (by simp) rfl)).trans Uo.out.2.2.2.1;have hb':=HI.out.early (.inl Ul);have d4:=(hb'.cell (p:=⟨D,4,none⟩) Xu.out.lt).trans Xu.out.c4;clear Tk HI;refine ae rfl fun K HK=>?_;simp only [e3];go_simp;exact HK.out _ _ ⟨Ye,by simp [upd, *],hW.put (by omega) (by omega) Uo.out.2.2.2.2.1.symm⟩
    ·cases ho;have hW:=HI.out;clear Tk HI;refine ae rfl fun K HK=>?_;go_simp;exact HK.out _ _ ⟨Value.pointer (some ⟨w.heap.size,3,none⟩),by simp [upd, *],hW.put (by omega) (by omega) Uo.out.2.2.2.2.2.1.symm⟩
    ·cases ho;have hW:=HI.out;have e5:=(HI.out.val 5 (by omega) (by omega) (Tk.out ⟨5,.data⟩ (by simp) rfl)).trans Uo.out.2.2.2.2.2.1;have hb':=HI.out.early (.inr Ul);obtain ⟨t0,t1,t2,t3,t4,t5,tl⟩:=Yd.out.1.below hb';clear Tk HI;refine ae rfl fun K HK=>?_;simp only [e5];go_simp;exact HK.out _ _ ⟨Value.agg #[.string t.c,.string t.d],by simp [upd, *],hW.put (by omega) (by omega) Uo.out.2.2.2.2.2.2.1.symm⟩
    ·cases ho;have hW:=HI.out;have e4:=(HI.out.val 4 (by omega) (by omega) (Tk.out ⟨4,.data⟩ (by simp) rfl)).trans Uo.out.2.2.2.2.1;have e6:=(HI.out.val 6 (by omega) (by omega) (Tk.out ⟨6,.data⟩ (by simp) rfl)).trans Uo.out.2.2.2.2.2.2.1;have h4:=Tk.out ⟨4,.data⟩ (by simp) rfl;have h6:=Tk.out ⟨6,.data⟩ (by simp) rfl;have hb':=HI.out.before Ul;have hown:=aB Xu.out.objs hb';clear Tk HI;refine ae rfl fun K HK=>?_;simp only [e4,e6];go_simp;refine (kI (bp + 1) Ye (aZ xo ⟨t.a,t.b⟩) ⟨t.c,t.d⟩ w' (by omega) (Sq hbz hb'.size) hown).mono ?_;rintro e w2 ⟨v',rfl,hown2,has,hbl⟩;exact HK.out _ _ ⟨v',by simp [upd,e4,e6],hW.call h4 h6 ⟨w',hb',hown2,has,hbl⟩⟩
    ·cases ho;have hW:=HI.out;have e0:=(HI.out.val 0 (by omega) (by omega) (Tk.out ⟨0,.data⟩ (by simp) rfl)).trans Uo.out.1;clear Tk HI;refine ae rfl fun K HK=>?_;simp only [e0];go_simp;exact HK.out _ _ ⟨Value.pointer (some ⟨D,0,none⟩),by simp [upd, *],hW.put (by omega) (by omega) Uo.out.2.2.2.2.2.2.2.2.1.symm⟩
    cases ho;have hW:=HI.out;have e8:=(HI.out.val 8 (by omega) (by omega) (Tk.out ⟨8,.data⟩ (by simp) rfl)).trans Uo.out.2.2.2.2.2.2.2.2.1;have h8:=Tk.out ⟨8,.data⟩ (by simp) rfl;clear Tk HI;refine ae rfl fun K HK=>?_;simp only [e8];go_simp;exact HK.out _ _ ⟨Value.pointer (some ⟨D,4,none⟩),by simp [upd, *],hW.put (by omega) (fun _=>h8) Uo.out.2.2.2.2.2.2.2.2.2.symm⟩
   case finC =>
    rintro o ho l fs w' hall hI;obtain rfl:=Option.some.inj ho;obtain ⟨hval,w1,hb1,hown,has,hbl⟩:=hI.last hall;have e9:=(hval 9 (by omega) (by omega)).trans Uo.out.2.2.2.2.2.2.2.2.2;have Uz:=Xu.out.below hb1;have hDn:=Uz.newO hown has;have Xe:=(Yd.out.1.below hb1).aside (by obtain ⟨cur,e⟩:=Yd.out.2; exact ⟨cur,(hb1.block _ Yd.out.1.2.2.2.2.2.2).trans e⟩) Uz.objs has;obtain ⟨cur,hkd⟩:=Uz.kind;have Wh:Ye.ownBlock ≠ some D:=fun e=>absurd (dh Uz.objs e hkd) (by decide);have Wl:=(has.block D Uz.lt Wh).trans hkd;have fz:=fun o=>fH Wl o;have d4:=(SI (w:=w1) (a:=⟨D,4,none⟩) (has.block D Uz.lt Wh)).trans Uz.c4;obtain ⟨adn,cpn,e7,-⟩:=jG hown;rw [e7] at hown has hDn;obtain ⟨w5,hwn⟩:∃ x,x=w'.setCell ⟨D,4,none⟩ (Value.slice adn (aZ (aZ xo ⟨t.a,t.b⟩) ⟨t.c,t.d⟩).length cpn):=⟨_,rfl⟩;rw [← hwn] at hDn;have U9:=au hDn;have Vo:Hid (qj w5 w.heap.size t∧∃ cur,w5.heap[w.heap.size]?=some (.cells cur 42 (0,0))):=by
     have hh:w5.heap[w.heap.size]?=w'.heap[w.heap.size]?:=by rw [hwn]; exact heap_setCell_other w' ⟨D,4,none⟩ w.heap.size _ (by show w.heap.size ≠ D; omega)
     obtain ⟨cr,ecr⟩:=Xe.2;exact ⟨Xe.1.block hh (by rw [hwn]; simpa using Xe.1.2.2.2.2.2.2),cr,hh.trans ecr⟩
    have Yf:Hid (Below bp w w5):=by
     have b1:Below bp w w1:=HB3n.out.trans (hb1.mono (by omega));have b2:Below bp w w':=b1.trans (hbl bp (fun g hg=>by have:=(Uz.objs.lt g hg).1; omega) (by have:=hb1.size; omega));show Below _ _ _; rw [hwn]; exact b2.setCell (by show bp≤D; omega) _
    have hsn:w4.heap.size≤w5.heap.size:=by rw [hwn]; have:=hb1.size; have:=has.size; simp; omega
    have Xv:bp + 1≤w5.heap.size:=by omega
    clear hval;refine ae rfl fun K HK=>?_;simp only [e9,e7];go_simp;rw [← hwn];refine HK.out _ _ ?_;obtain ⟨vo2,hvo2⟩:∃ v,v=Value.slice adn (aZ (aZ xo ⟨t.a,t.b⟩) ⟨t.c,t.d⟩).length cpn:=⟨_,rfl⟩;rw [← hvo2] at U9 ⊢;clear hb1 hown has hbl Uz hDn Xe hkd Wl Wh fz d4 HK K hI hall ho hwn e9 e7 hvo2 hsn hbz Xu Yd HB3n Uo;obtain ⟨zC0,hz0⟩:∃ y,y=fs 0:=⟨_,rfl⟩;rw [← hz0];obtain ⟨zC1,hz1⟩:∃ y,y=fs 1:=⟨_,rfl⟩;rw [← hz1];obtain ⟨zC2,hz2⟩:∃ y,y=fs 2:=⟨_,rfl⟩;rw [← hz2];obtain ⟨zC3,hz3⟩:∃ y,y=fs 3:=⟨_,rfl⟩;rw [← hz3];obtain ⟨zC4,Wx⟩:∃ y,y=fs 4:=⟨_,rfl⟩;rw [← Wx];obtain ⟨zC5,hz5⟩:∃ y,y=fs 5:=⟨_,rfl⟩;rw [← hz5];obtain ⟨zC6,hz6⟩:∃ y,y=fs 6:=⟨_,rfl⟩;rw [← hz6];obtain ⟨zC8,hz8⟩:∃ y,y=fs 8:=⟨_,rfl⟩;rw [← hz8];clear hz0 hz1 hz2 hz3 Wx hz5 hz6 hz8 fs l
    skip
    have hbz:=Xv;clear Xv;obtain ⟨t0,t1,t2,t3,t4,t5,tl⟩:=Vo.out.1;cases hs:(t.s.toList == ([]:List UInt8));case false=>
     have HU:Hid (cZ xu t=xu):=by show _=_; unfold cZ; rw [hs]; rfl
     go_wp2
     go_end0
     exact ⟨rfl,⟨_,_,_,by rw [HU.out]; exact U9.out⟩,Yf.out⟩
    have HU:Hid (cZ xu t=aZ xu ⟨t.c,t.d⟩):=by show _=_; unfold cZ; rw [hs]; rfl
    clear t0 t1 t2 t3 t4 tl;go_wp2_with fail;clear t5 hs;obtain ⟨CD,hCD⟩:∃ C:Nat→Value,C=fun n=>(Value.pointer (some ⟨D,0,none⟩)::.pointer (some ⟨D,0,none⟩)::.pointer (some ⟨D,0,none⟩)::.pointer (some ⟨D,5,none⟩)::vu::.pointer (some ⟨w.heap.size,3,none⟩)::.agg #[.string t.c,.string t.d]::undef::.pointer (some ⟨D,0,none⟩)::.pointer (some ⟨D,5,none⟩)::[]).getD n undef:=⟨_,rfl⟩;have Vb:Hid (CD 0=Value.pointer (some ⟨D,0,none⟩)∧CD 1=Value.pointer (some ⟨D,0,none⟩)∧CD 2=Value.pointer (some ⟨D,0,none⟩)∧CD 3=Value.pointer (some ⟨D,5,none⟩)∧CD 4=vu∧CD 5=Value.pointer (some ⟨w.heap.size,3,none⟩)∧CD 6=Value.agg #[.string t.c,.string t.d]∧CD 7=undef∧CD 8=Value.pointer (some ⟨D,0,none⟩)∧CD 9=Value.pointer (some ⟨D,5,none⟩)):=by show _∧_; rw [hCD]; exact ⟨rfl,rfl,rfl,rfl,rfl,rfl,rfl,rfl,rfl,rfl⟩
    clear hCD;refine jg 10 (fun _=>undef) (fun ft=>{ tmps:=List.toArray (Value.pointer (some ⟨D,0,none⟩)::.agg #[.string t.a,.string t.b,.string t.r,.string t.c,.string t.d,.string t.s]::undef::.pointer (some ⟨w.heap.size,0,none⟩)::.pointer (some ⟨w.heap.size + 1,0,none⟩)::.pointer (some ⟨w.heap.size,0,none⟩)::.agg #[.string t.a,.string t.b]::.pointer (some ⟨w.heap.size,2,none⟩)::.string t.r::.agg #[.string t.a,.string t.b,.string t.r]::y0::y1::y2::.map (some bp)::y4::y8::y5::y6::y7::y9::.int .i64 st::zB0::zB1::zB2::zB3::zB4::zB5::zB6::Ye::zB8::.pointer (some ⟨D,4,none⟩)::zC0::zC1::zC2::zC3::zC4::zC5::zC6::vo2::zC8::.pointer (some ⟨D,4,none⟩)::.pointer (some ⟨w.heap.size,5,none⟩)::.string t.s::.bool true::(ft 0)::(ft 1)::(ft 2)::(ft 3)::(ft 4)::(ft 5)::(ft 6)::(ft 7)::(ft 8)::(ft 9)::[]),defers:=[] }) (G.WI CD w5 (fun v' w'=>∃ w1,aa w5 w1∧w'.ownsRow (bp + 1) 40 2 v' (aZ xu ⟨t.c,t.d⟩).length (pairs (aZ xu ⟨t.c,t.d⟩))∧Aside w1 vu w' v'∧∀ B',(∀ g,vu.ownBlock=some g→B'≤g)→B'≤w1.heap.size→Below B' w1 w')) (by kernel_rfl) rfl (by kernel_rfl) (fun o ho l f w' hI hp=>?clD) rfl (G.wi_start w5) ?stepD ?finD;case clD =>
     cases ho;intro k hk;have h9:=hp ⟨9,.data⟩ (by simp) rfl;have hc:=Aw (i:=k) (by omega)
     repeat' rcases hc with rfl | hc
     all_goals first | exact hI.nin h9 | exact h9 | exact hp ⟨_,.phase⟩ (by simp) rfl
    case stepD =>
     rintro i hi o ho l ft w' Ul hI hpre;have HI:Hid (G.WI CD w5 (fun v' w'=>∃ w1,aa w5 w1∧w'.ownsRow (bp + 1) 40 2 v' (aZ xu ⟨t.c,t.d⟩).length (pairs (aZ xu ⟨t.c,t.d⟩))∧Aside w1 vu w' v'∧∀ B',(∀ g,vu.ownBlock=some g→B'≤g)→B'≤w1.heap.size→Below B' w1 w') l ft w'):=hI;have Tk:Hid (∀ e ∈ o.after,Region.binds .any e=true→l e.on=true):=hpre;clear hI hpre;have hc:=Aw (i:=i) (by omega);clear hi
     repeat' rcases hc with rfl | hc
     ·cases ho;have hW:=HI.out;clear Tk HI;refine ae rfl fun K HK=>?_;go_simp;exact HK.out _ _ ⟨Value.pointer (some ⟨D,0,none⟩),by simp [upd, *],hW.put (by omega) (by omega) Vb.out.1.symm⟩
     ·cases ho;have hW:=HI.out;clear Tk HI;refine ae rfl fun K HK=>?_;go_simp;exact HK.out _ _ ⟨Value.pointer (some ⟨D,0,none⟩),by simp [upd, *],hW.put (by omega) (by omega) Vb.out.2.1.symm⟩
     ·cases ho;have hW:=HI.out;have e1:=(HI.out.val 1 (by omega) (by omega) (Tk.out ⟨1,.data⟩ (by simp) rfl)).trans Vb.out.2.1;clear Tk HI;refine ae rfl fun K HK=>?_;simp only [e1];go_simp;exact HK.out _ _ ⟨Value.pointer (some ⟨D,0,none⟩),by simp [upd, *],hW.put (by omega) (by omega) Vb.out.2.2.1.symm⟩
     ·cases ho;have hW:=HI.out;have e2:=(HI.out.val 2 (by omega) (by omega) (Tk.out ⟨2,.data⟩ (by simp) rfl)).trans Vb.out.2.2.1;clear Tk HI;refine ae rfl fun K HK=>?_;simp only [e2];go_simp;exact HK.out _ _ ⟨Value.pointer (some ⟨D,5,none⟩),by simp [upd, *],hW.put (by omega) (by omega) Vb.out.2.2.2.1.symm⟩
     ·cases ho;have hW:=HI.out;have e3:=(HI.out.val 3 (by omega) (by omega) (Tk.out ⟨3,.data⟩ (by simp) rfl)).trans Vb.out.2.2.2.1;have hb':=HI.out.early (.inl Ul);have d4:=(hb'.cell (p:=⟨D,5,none⟩) U9.out.lt).trans U9.out.c5;clear Tk HI;refine ae rfl fun K HK=>?_;simp only [e3];go_simp;exact HK.out _ _ ⟨vu,by simp [upd, *],hW.put (by omega) (by omega) Vb.out.2.2.2.2.1.symm⟩
     ·cases ho;have hW:=HI.out;clear Tk HI;refine ae rfl fun K HK=>?_;go_simp;exact HK.out _ _ ⟨Value.pointer (some ⟨w.heap.size,3,none⟩),by simp [upd, *],hW.put (by omega) (by omega) Vb.out.2.2.2.2.2.1.symm⟩
     ·cases ho;have hW:=HI.out;have e5:=(HI.out.val 5 (by omega) (by omega) (Tk.out ⟨5,.data⟩ (by simp) rfl)).trans Vb.out.2.2.2.2.2.1;have hb':=HI.out.early (.inr Ul);obtain ⟨t0,t1,t2,t3,t4,t5,tl⟩:=Vo.out.1.below hb';clear Tk HI;refine ae rfl fun K HK=>?_;simp only [e5];go_simp;exact HK.out _ _ ⟨Value.agg #[.string t.c,.string t.d],by simp [upd, *],hW.put (by omega) (by omega) Vb.out.2.2.2.2.2.2.1.symm⟩
     ·cases ho;have hW:=HI.out;have e4:=(HI.out.val 4 (by omega) (by omega) (Tk.out ⟨4,.data⟩ (by simp) rfl)).trans Vb.out.2.2.2.2.1;have e6:=(HI.out.val 6 (by omega) (by omega) (Tk.out ⟨6,.data⟩ (by simp) rfl)).trans Vb.out.2.2.2.2.2.2.1;have h4:=Tk.out ⟨4,.data⟩ (by simp) rfl;have h6:=Tk.out ⟨6,.data⟩ (by simp) rfl;have hb':=HI.out.before Ul;have hown:=aB U9.out.users hb';clear Tk HI;refine ae rfl fun K HK=>?_;simp only [e4,e6];go_simp;refine (kI (bp + 1) vu xu ⟨t.c,t.d⟩ w' (by omega) (Sq hbz hb'.size) hown).mono ?_;rintro e w2 ⟨v',rfl,hown2,has,hbl⟩;exact HK.out _ _ ⟨v',by simp [upd,e4,e6],hW.call h4 h6 ⟨w',hb',hown2,has,hbl⟩⟩
     ·cases ho;have hW:=HI.out;have e0:=(HI.out.val 0 (by omega) (by omega) (Tk.out ⟨0,.data⟩ (by simp) rfl)).trans Vb.out.1;clear Tk HI;refine ae rfl fun K HK=>?_;simp only [e0];go_simp;exact HK.out _ _ ⟨Value.pointer (some ⟨D,0,none⟩),by simp [upd, *],hW.put (by omega) (by omega) Vb.out.2.2.2.2.2.2.2.2.1.symm⟩
     cases ho;have hW:=HI.out;have e8:=(HI.out.val 8 (by omega) (by omega) (Tk.out ⟨8,.data⟩ (by simp) rfl)).trans Vb.out.2.2.2.2.2.2.2.2.1;have h8:=Tk.out ⟨8,.data⟩ (by simp) rfl;clear Tk HI;refine ae rfl fun K HK=>?_;simp only [e8];go_simp;exact HK.out _ _ ⟨Value.pointer (some ⟨D,5,none⟩),by simp [upd, *],hW.put (by omega) (fun _=>h8) Vb.out.2.2.2.2.2.2.2.2.2.symm⟩
    case finD =>
     rintro o ho l ft w' hall hI;cases ho;obtain ⟨hval,w1,hb1,hown,has,hbl⟩:=hI.last hall;have e9:=(hval 9 (by omega) (by omega)).trans Vb.out.2.2.2.2.2.2.2.2.2;have Uz:=U9.out.below hb1;have hDn:=Uz.newU hown has;have Xe:=(Vo.out.1.below hb1).aside (by obtain ⟨cur,e⟩:=Vo.out.2; exact ⟨cur,(hb1.block _ Vo.out.1.2.2.2.2.2.2).trans e⟩) Uz.users has;obtain ⟨cur,hkd⟩:=Uz.kind;have Wh:vu.ownBlock ≠ some D:=fun e=>absurd (dh Uz.users e hkd) (by decide);have Wl:=(has.block D Uz.lt Wh).trans hkd;have fz:=fun o=>fH Wl o;have d4:=(SI (w:=w1) (a:=⟨D,5,none⟩) (has.block D Uz.lt Wh)).trans Uz.c5;obtain ⟨adn,cpn,e7,-⟩:=jG hown;rw [e7] at hown has hDn;obtain ⟨w6,hwn⟩:∃ x,x=w'.setCell ⟨D,5,none⟩ (Value.slice adn (aZ xu ⟨t.c,t.d⟩).length cpn):=⟨_,rfl⟩;rw [← hwn] at hDn;have Yg:=au hDn;have HT3nnn:Hid (qj w6 w.heap.size t∧∃ cur,w6.heap[w.heap.size]?=some (.cells cur 42 (0,0))):=by
      have hh:w6.heap[w.heap.size]?=w'.heap[w.heap.size]?:=by rw [hwn]; exact heap_setCell_other w' ⟨D,5,none⟩ w.heap.size _ (by show w.heap.size ≠ D; omega)
      obtain ⟨cr,ecr⟩:=Xe.2;exact ⟨Xe.1.block hh (by rw [hwn]; simpa using Xe.1.2.2.2.2.2.2),cr,hh.trans ecr⟩
     have HB3nnn:Hid (Below bp w w6):=by
      have b1:Below bp w w1:=Yf.out.trans (hb1.mono (by omega));have b2:Below bp w w':=b1.trans (hbl bp (fun g hg=>by have:=(Uz.users.lt g hg).1; omega) (by have:=hb1.size; omega));show Below _ _ _; rw [hwn]; exact b2.setCell (by show bp≤D; omega) _
     have hsn:w5.heap.size≤w6.heap.size:=by rw [hwn]; have:=hb1.size; have:=has.size; simp; omega
     have Xv:bp + 1≤w6.heap.size:=by omega
     clear hval;refine ae rfl fun K HK=>?_;simp only [e9,e7];go_simp;rw [← hwn];refine HK.out _ _ ?_;obtain ⟨vu2,hvu2⟩:∃ v,v=Value.slice adn (aZ xu ⟨t.c,t.d⟩).length cpn:=⟨_,rfl⟩;rw [← hvu2] at Yg ⊢;clear hb1 hown has hbl Uz hDn Xe hkd Wl Wh fz d4 HK K hI hall hwn e9 e7 hvu2 hsn hbz U9 Vo Yf Vb;obtain ⟨zD0,hz0⟩:∃ y,y=ft 0:=⟨_,rfl⟩;rw [← hz0];obtain ⟨zD1,hz1⟩:∃ y,y=ft 1:=⟨_,rfl⟩;rw [← hz1];obtain ⟨zD2,hz2⟩:∃ y,y=ft 2:=⟨_,rfl⟩;rw [← hz2];obtain ⟨zD3,hz3⟩:∃ y,y=ft 3:=⟨_,rfl⟩;rw [← hz3];obtain ⟨zD4,Wx⟩:∃ y,y=ft 4:=⟨_,rfl⟩;rw [← Wx];obtain ⟨zD5,hz5⟩:∃ y,y=ft 5:=⟨_,rfl⟩;rw [← hz5];obtain ⟨zD6,hz6⟩:∃ y,y=ft 6:=⟨_,rfl⟩;rw [← hz6];obtain ⟨zD8,hz8⟩:∃ y,y=ft 8:=⟨_,rfl⟩;rw [← hz8];clear hz0 hz1 hz2 hz3 Wx hz5 hz6 hz8 ft l
     skip
     go_wp2
     go_end0
     exact ⟨rfl,⟨_,_,_,by rw [HU.out]; exact Yg.out⟩,HB3nnn.out⟩
def OV (r:RR):List Value:=[.string r.name,r.sl]
abbrev CR (w:World) (br nr:Nat) (Mr:KL→Option Value) (Er:List (KL × RR)):Prop:=G.Grp DW prog 174 122 2 OV w br nr Mr Er
theorem Ey {w:af} {br nr:Nat} {Mr:KL→Option Value} {Er:List (KL × RR)} (h:CR w br nr Mr Er) {k:KL} {v:Value} (hk:Mr k=some v):∃ n xs,w.ownsRow (br + 1) 122 2 v n xs:=by
 rcases h.row k with ⟨e,-⟩ | ⟨v',e,ho⟩
 ·rw [e] at hk; cases hk
 rw [e] at hk; injection hk with hk; subst hk; exact ⟨_,_,ho⟩
theorem pY {w:af} {br nr g:Nat} {Mr:KL→Option Value} {Er:List (KL × RR)} {e:TypeId} {cur:Array Value} (h:CR w br nr Mr Er) (hc:w.heap[g]?=some (.cells cur e (0,0))) (hne:(122:TypeId) ≠ e):G.FreeB Mr g:=fun k v hk hg=>by
 obtain ⟨n,xs,ho⟩:=Ey h hk;exact hne (dh ho hg hc)
theorem Ez {w:af} {br nr g:Nat} {Mr:KL→Option Value} {Er:List (KL × RR)} {es:Array MapEntry} {c:Nat} (h:CR w br nr Mr Er) (hc:w.heap[g]?=some (.map es c)):G.FreeB Mr g:=fun k v hk hg=>by
 obtain ⟨n,xs,ho⟩:=Ey h hk;exact CQ ho hg hc
theorem nP {K:Type} {enc:K→Value} {P:Program} {kt:TypeId} {w:af} {b n:Nat} {M:K→Option Value} (h:aJ enc P kt w b n M):∃ es c,w.heap[b]?=some (.map es c):=by
 obtain ⟨D,⟨es,c,hb,-⟩,-⟩:=h;exact ⟨es,c,hb⟩
structure DatA (w:World) (rs:List TR) (D br bp bt:Nat) (n1:Int) (nr:Nat) (Mr:KL→Option Value) (Er:List (KL × RR)) (E:List (K3 × Tp)) (xo xu:List Al) (np:Nat) (Mp:K3→Option Value) (vo vu:Value):Prop where
 dat:DatT w D br bp (.map (some bt)) n1 E xo xu np Mp vo vu
 tab:aJ dE prog 172 w bt 36 (qo rs)
 rel:CR w br nr Mr Er
 ord:bt < br∧br < bp
section
variable {w w':World} {rs:List TR} {D br bp bt:Nat} {n1:Int} {nr:Nat} {Mr:KL→Option Value} {Er:List (KL × RR)} {E:List (K3 × Tp)} {xo xu:List Al} {np:Nat} {Mp:K3→Option Value} {vo vu:Value}
theorem DatA.below (h:DatA w rs D br bp bt n1 nr Mr Er E xo xu np Mp vo vu) (hb:aa w w'):DatA w' rs D br bp bt n1 nr Mr Er E xo xu np Mp vo vu:=⟨h.dat.below hb,h.tab.below hb,h.rel.below hb,h.ord⟩
theorem DatA.tell (h:DatA w rs D br bp bt n1 0 (fun _=>none) [] E xo xu np Mp vo vu) {E':List (K3 × Tp)} {xo' xu':List Al} {np':Nat} {Mp':K3→Option Value} {We Wi:Value} (hd:DatT w' D br bp (.map (some bt)) n1 E' xo' xu' np' Mp' We Wi) (hb:Below bp w w'):DatA w' rs D br bp bt n1 0 (fun _=>none) [] E' xo' xu' np' Mp' We Wi:=by
 obtain ⟨h1,h2⟩:=h.ord;exact ⟨hd,h.tab.of_block (hb.block bt (by omega)),⟨h.rel.map.of_block (hb.block br (by omega)),fun k=>.inl ⟨rfl,rfl⟩,fun k k' v v' _ e=>by cases e⟩,h.ord⟩
theorem DatA.list (h:DatA w rs D br bp bt n1 nr Mr Er E xo xu np Mp vo vu) {nr':Nat} {Mr':KL→Option Value} {Er':List (KL × RR)} (hg:CR w' br nr' Mr' Er') (hs:G.Stl w Mr w' Mr' br):DatA w' rs D br bp bt n1 nr' Mr' Er' E xo xu np Mp vo vu:=by
 obtain ⟨h1,h2⟩:=h.ord;have hgt:=h.dat.gt;have hlt:=h.dat.lt;obtain ⟨cur,hk⟩:=h.dat.kind;have hD:w'.heap[D]?=w.heap[D]?:=hs.block D hlt (by omega) (pY h.rel hk (by decide));have hc:∀ o,w'.cell? ⟨D,o,none⟩=w.cell? ⟨D,o,none⟩:=fun o=>SI (w:=w) (a:=⟨D,o,none⟩) hD;have hO:∀ {v:Value} {n:Nat} {xs:List Value},w.ownsRow (bp + 1) 40 2 v n xs→w'.ownsRow (bp + 1) 40 2 v n xs:=fun {v n xs} ho=>dw ho fun g hg=>by
  obtain ⟨cr,e⟩:=iV ho hg;have:=ho.lt g hg;exact hs.block g this.2 (by omega) (pY h.rel e (by decide))
 obtain ⟨es,c,eb⟩:=nP h.dat.told.map;obtain ⟨es2,c2,eb2⟩:=nP h.tab;refine ⟨⟨hgt,Sg hlt hs.size,⟨cur,hD.trans hk⟩,(hc _).trans h.dat.c0,(hc _).trans h.dat.c1,(hc _).trans h.dat.c2,(hc _).trans h.dat.c3,(hc _).trans h.dat.c4,(hc _).trans h.dat.c5,sw h.dat.told ?_ ?_,hO h.dat.objs,hO h.dat.users,h.dat.apart⟩,h.tab.of_block ?_,hg,h.ord⟩
 ·exact hs.block bp (by omega) (by omega) (Ez h.rel eb)
 ·intro k v g hm hg2;obtain ⟨n,xs,ho⟩:=su h.dat.told hm;obtain ⟨cr,e⟩:=iV ho hg2;have:=ho.lt g hg2;exact hs.block g this.2 (by omega) (pY h.rel e (by decide))
 exact hs.block bt (by omega) (by omega) (Ez h.rel eb2)
theorem DatA.count (h:DatA w rs D br bp bt n1 nr Mr Er E xo xu np Mp vo vu) (n2:Int):DatA (w.setCell ⟨D,1,none⟩ (.int .i64 n2)) rs D br bp bt n2 nr Mr Er E xo xu np Mp vo vu:=by
 obtain ⟨h1,h2⟩:=h.ord;have hgt:=h.dat.gt;obtain ⟨cur,hk⟩:=h.dat.kind;have hne:∀ g,g ≠ D→(w.setCell ⟨D,1,none⟩ (.int .i64 n2)).heap[g]?=w.heap[g]?:=fun g e=>heap_setCell_other w ⟨D,1,none⟩ g _ e;have hc2:∀ o,o ≠ 1→(w.setCell ⟨D,1,none⟩ (.int .i64 n2)).cell? ⟨D,o,none⟩=w.cell? ⟨D,o,none⟩:=fun o ne=>jN (by omega);have hO:∀ {v:Value} {n:Nat} {xs:List Value},w.ownsRow (bp + 1) 40 2 v n xs→(w.setCell ⟨D,1,none⟩ (.int .i64 n2)).ownsRow (bp + 1) 40 2 v n xs:=fun {v n xs} ho=>dw ho fun g hg=>hne g fun e=>absurd (dh ho (e ▸ hg) hk) (by decide);refine ⟨⟨hgt,by simpa using h.dat.lt,⟨_,heap_setCell_same w D 1 cur _ _ hk⟩,(hc2 0 (by omega)).trans h.dat.c0,JQ h.dat.c1,(hc2 2 (by omega)).trans h.dat.c2,(hc2 3 (by omega)).trans h.dat.c3,(hc2 4 (by omega)).trans h.dat.c4,(hc2 5 (by omega)).trans h.dat.c5,sw h.dat.told (hne bp (by omega)) ?_,hO h.dat.objs,hO h.dat.users,h.dat.apart⟩,h.tab.of_block (hne bt (by omega)),⟨h.rel.map.of_block (hne br (by omega)),fun k=>?_,h.rel.apart⟩,h.ord⟩
 ·intro k v g hm hg2;obtain ⟨n,xs,ho⟩:=su h.dat.told hm;exact hne g fun e=>absurd (dh ho (e ▸ hg2) hk) (by decide)
 rcases h.rel.row k with e | ⟨v,e,ho⟩
 ·exact .inl e
 exact .inr ⟨v,e,dw ho fun g hg=>hne g fun e2=>absurd (dh ho (e2 ▸ hg) hk) (by decide)⟩
end
def lJ (a:Al) (e:Ex):Bool:=decide (e.kind=1) && dC e.allow e.allow.length a
def mo (ts:List Ty) (ty rel:ByteArray) (a:Al):Bool:=(aH ts ty rel).any (lJ a)
theorem fit_drop (a:Al) (rows:List ER) (k:Nat) (h:k < rows.length):(ai (rows.drop k)).any (lJ a)=(lJ a rows[k].e || (ai (rows.drop (k + 1))).any (lJ a)):=by
 rw [fF _ _ h]; rfl
set_option maxRecDepth 100000 in
theorem ED (b n:Nat) (rs:List TR) (ad:Option Addr) (M:ByteArray × ByteArray→Option Value) (oa ob r c d s:dB) (w:af) (hV:aJ dE prog 172 w b n M) (hT:Tab rs M) (hs:iN w ad rs) (hl:∀ r ∈ rs,r.light) (ho:oa.size≤maxLen) (hr:r.size≤maxLen) :
  Calls prog 94 #[.map (some b),.agg #[.string oa,.string ob,.string r,.string c,.string d,.string s]] w fun e w'=>e=.returned (.bool (mo (ag rs) oa r ⟨c,s⟩))∧aa w w':=by
 have HT:=ay hT;have HS:=ay hs;have HL:=ay hl;obtain ⟨kl,hkl⟩:=jB (oa,r) ho hr;have UY:Hid (keyOf prog 172 (dE (oa,r))=some kl):=hkl;obtain ⟨W0,hW0⟩:∃ W0,W0=(w.alloc (.cells #[.string oa,.string ob,.string r,.string c,.string d,.string s] 42)).alloc (.cells #[.string c,.string s] 204):=⟨_,rfl⟩;have hal:aa w W0:=by
  rw [hW0]
  repeat (first | exact Si _ _ | refine Below.alloc ?_ (by first | (simp; done) | (simp; omega)) _)
 have HB0:=ay hal;have Ww:=ay (hV.below hal);have U0:Hid (W0.cell? ⟨w.heap.size + 1,0,none⟩=some (.string c)∧W0.cell? ⟨w.heap.size + 1,1,none⟩=some (.string s)∧w.heap.size + 1 < W0.heap.size):=⟨by rw [hW0]; simp,by rw [hW0]; simp,by rw [hW0]; simp⟩;obtain ⟨rows,Tm,capE,HM,HE,HF⟩:∃ (rows:List ER) (Tm:Option Addr) (capE:Nat),Hid ((M (oa,r)).getD (.slice none 0 0)=.slice Tm rows.length capE)∧Hid (ai rows=aH (ag rs) oa r)∧Hid (oo rs Tm rows):=by
  cases e:M (oa,r) with
  | none=>exact ⟨[],none,0,rfl,by show _=_; unfold aH; rw [HT.out.no _ e]; rfl,.inl rfl⟩
  | some v =>
   obtain ⟨t,htm,q,hq,-,rfl,e1,-⟩:=HT.out.yes _ v e;exact ⟨q.rows,q.ad,q.cap,rfl,by show _=_; unfold aH; rw [e1]; rfl,.inr ⟨t,htm,q,hq,rfl,rfl⟩⟩
 have Uk:=HF.out.light HL.out;have HLE1:rows.length≤1048576:=Uk.1;have ZA:Hid (∀ q ∈ rows,q.e.light):=Uk.2;have VA:Hid (fQ w Tm rows):=HF.out.sl HS.out;clear hV hT hs hl hkl hal Uk;go_enter func94,ntmps94;go_wp2_with (at_lookup; rw [← hW0]; refine iK _ rfl _ _ 127 rfl 172 120 ig underlying127 (pW _) b n M rfl Ww.out (oa,r) kl rfl UY.out ?_; rw [HM.out]; clear hW0);go_loopw [23] (fun i wr=>∃ k:Nat,k≤rows.length∧i=.int .i64 k∧Hid ((ai (rows.drop k)).any (lJ ⟨c,s⟩)=(ai rows).any (lJ ⟨c,s⟩))∧Hid (aa w wr)∧Hid (wr.cell? ⟨w.heap.size + 1,0,none⟩=some (.string c)∧wr.cell? ⟨w.heap.size + 1,1,none⟩=some (.string s)∧w.heap.size + 1 < wr.heap.size)) (fun i _=>rows.length - (intOf i).toNat);case atStart=>exact ⟨0,Sm _,rfl,rfl,HB0,U0⟩
 clear HB0 U0 Ww;obtain ⟨k,hk,rfl,HP,HB,HC⟩:=hrel;by_cases hlt:k < rows.length
 ·rcases VA.out.below HB.out with hnil | ⟨bE,ZB,WK,hbE,Zf,hok⟩
  ·rw [hnil] at hlt; simp at hlt
  obtain ⟨t0,t1,t2,t3,t4⟩:=Zf k hlt;have TS:Hid (rows[k].ok wr):=hok _ (Sd hlt);have lgA:rows[k].e.allow.length≤1048576:=(ZA.out _ (Sd hlt)).1;have hk1:=bH k;have hk2:(k:Int) < (rows.length:Int):=by omega
  obtain ⟨x0,x1,x2⟩:=HC.out;have HD:Hid ((ai rows).any (lJ ⟨c,s⟩)=(lJ ⟨c,s⟩ rows[k].e || (ai (rows.drop (k + 1))).any (lJ ⟨c,s⟩))):=by show _=_; rw [← HP.out]; exact fit_drop _ _ _ hlt
  obtain ⟨W1,hW1⟩:∃ W1,W1=wr.alloc (.cells #[.int .i64 rows[k].e.kind,.slice rows[k].adA rows[k].e.allow.length rows[k].capA,.string rows[k].e.over,.string rows[k].e.name,.slice rows[k].adK rows[k].e.kids.length rows[k].capK] 190):=⟨_,rfl⟩;have hal:aa wr W1:=by rw [hW1]; exact (Si _ _).alloc (Sj _) _
  have HB1:=jb HB hal;have TW:Hid (W1.cell? ⟨w.heap.size + 1,0,none⟩=some (.string c)∧W1.cell? ⟨w.heap.size + 1,1,none⟩=some (.string s)∧w.heap.size + 1 < W1.heap.size):=⟨aK hal x2 x0,aK hal x2 x1,Sg x2 hal.size⟩;have HA1:Hid (gP W1 rows[k].adA rows[k].e.allow):=TS.out.1.below hal;rw [WK];clear Zf hok hal HC;by_cases h1:rows[k].e.kind=1
  ·have hq1:(rows[k].e.kind == 1)=true:=by simpa using h1
   have U5:Hid (lJ ⟨c,s⟩ rows[k].e=dC rows[k].e.allow rows[k].e.allow.length ⟨c,s⟩):=by show _=_; unfold lJ; simp [h1]
   replace h1:Hid (rows[k].e.kind=1):=h1;go_wp2_with fail;rw [← hW1];refine (r9 rows[k].adA rows[k].e.allow.length rows[k].capA rows[k].e.allow ⟨c,s⟩ _ (Sj _) lgA HA1.out).mono ?_;rintro e w2 ⟨rfl,hb2⟩;have HB2:=jb HB1 hb2;have Tx:Hid (w2.cell? ⟨w.heap.size + 1,0,none⟩=some (.string c)∧w2.cell? ⟨w.heap.size + 1,1,none⟩=some (.string s)∧w.heap.size + 1 < w2.heap.size):=⟨aK hb2 TW.out.2.2 TW.out.1,aK hb2 TW.out.2.2 TW.out.2.1,Sg TW.out.2.2 hb2.size⟩;clear hb2 hW1 t0 t1 t2 t3 t4 x0 x1;cases hz:dC rows[k].e.allow rows[k].e.allow.length ⟨c,s⟩;case true=>
    have HN:Hid (mo (ag rs) oa r ⟨c,s⟩=true):=by show _=_; unfold mo; rw [← HE.out,HD.out,U5.out,hz]; rfl
    go_wp2;go_ret;exact ⟨by rw [HN.out]; rfl,HB2.out⟩
   have Tu:Hid ((ai (rows.drop (k + 1))).any (lJ ⟨c,s⟩)=(ai rows).any (lJ ⟨c,s⟩)):=by show _=_; rw [HD.out,U5.out,hz]; rfl
   go_wp2;go_roundw;case rel=>exact ⟨k + 1,by omega,by go_num,Tu,HB2,Tx⟩
   simp [intOf] <;> omega
  have hq1:(rows[k].e.kind == 1)=false:=by simpa using h1
  have Tu:Hid ((ai (rows.drop (k + 1))).any (lJ ⟨c,s⟩)=(ai rows).any (lJ ⟨c,s⟩)):=by show _=_; rw [HD.out]; simp [lJ,h1]
  have TH:Hid (aa w (wr.alloc (.cells #[.int .i64 rows[k].e.kind,.slice rows[k].adA rows[k].e.allow.length rows[k].capA,.string rows[k].e.over,.string rows[k].e.name,.slice rows[k].adK rows[k].e.kids.length rows[k].capK] 190))):=by rw [← hW1]; exact HB1
  have HCX:Hid ((wr.alloc (.cells #[.int .i64 rows[k].e.kind,.slice rows[k].adA rows[k].e.allow.length rows[k].capA,.string rows[k].e.over,.string rows[k].e.name,.slice rows[k].adK rows[k].e.kids.length rows[k].capK] 190)).cell? ⟨w.heap.size + 1,0,none⟩=some (.string c)∧(wr.alloc (.cells #[.int .i64 rows[k].e.kind,.slice rows[k].adA rows[k].e.allow.length rows[k].capA,.string rows[k].e.over,.string rows[k].e.name,.slice rows[k].adK rows[k].e.kids.length rows[k].capK] 190)).cell? ⟨w.heap.size + 1,1,none⟩=some (.string s)∧w.heap.size + 1 < (wr.alloc (.cells #[.int .i64 rows[k].e.kind,.slice rows[k].adA rows[k].e.allow.length rows[k].capA,.string rows[k].e.over,.string rows[k].e.name,.slice rows[k].adK rows[k].e.kids.length rows[k].capK] 190)).heap.size):=by rw [← hW1]; exact TW
  clear hW1;go_wp2;go_roundw;case rel=>exact ⟨k + 1,by omega,by go_num,Tu,TH,HCX⟩
  simp [intOf] <;> omega
 have HN:Hid (mo (ag rs) oa r ⟨c,s⟩=false):=by show _=_; unfold mo; rw [← HE.out,← HP.out,List.drop_of_length_le (by omega)]; rfl
 go_wp2;go_ret;exact ⟨by rw [HN.out]; rfl,HB.out⟩
end Go.Proofs.YtdmniljjnaebbaaGreatDoor
