/- The keys of the program's maps of places and of levels. -/
import Derived.WalkArith
import Derived.Test.YteoflgocljfgeaaGreatDoorJ33
open Go.Proofs.Tryz
set_option maxHeartbeats 80000000
namespace Go.Proofs.YteoflgocljfgeaaGreatDoor
open Go.ChangeShapes Go.WideShapes Go.ChangeAt Go.RowKit Go.Maps
abbrev K3:=ByteArray × ByteArray × ByteArray
def oH (k:K3):Value:=.agg #[.string k.1,.string k.2.1,.string k.2.2]
theorem JX (x y:K3) (h:oH x=oH y):x=y:=by
 unfold oH at h;injection h with h;have h1:=congrArg Array.toList h;simp at h1;exact Prod.ext h1.1 (Prod.ext h1.2.1 h1.2.2)
theorem Nw:(214:TypeId) < prog.types.size:=of_decide_eq_true (by kernel_rfl)
theorem MM:(match prog.underlying 214 with | some (.array _ _) | some (.struct _)=>true | _=>false)=true:=by rw [underlying214]
set_option maxRecDepth 100000 in
theorem MN:WideMaps.KeyLaw prog 214:=deep_law_laid wC (m:=3) (by omega) Nw (by kernel_rfl) MM
theorem MO:prog.keyType 214=true:=by kernel_rfl
theorem Fs:prog.cellsOf 214=3:=by kernel_rfl
theorem GZ:prog.cellsOf 39=2:=by kernel_rfl
theorem G5:2≤prog.types.size:=of_decide_eq_true (by kernel_rfl)
theorem yj:∃ n,prog.types.size=n + 2:=⟨prog.types.size - 2,by have:=G5; omega⟩
set_option maxRecDepth 100000 in
theorem Lc (k:K3) (h0:k.1.size≤maxLen) (h1:k.2.1.size≤maxLen) (h2:k.2.2.size≤maxLen):∃ kl,keyOf prog 214 (oH k)=some kl:=by
 obtain ⟨n,hn⟩:=yj;refine ⟨.string (keyBytes [.string k.1.data.toList,.string k.2.1.data.toList,.string k.2.2.data.toList]),?_⟩;unfold keyOf;rw [underlying214];simp only [MO,oH,Value.formed,underlying214,Fs,hn,Value.cells];simp +decide [Program.keyLits,underlying214,underlying39,underlying9,Fs,GZ,strCells,h0,h1,h2]
abbrev KL:=ByteArray × Int
def A9 (k:KL):Value:=.agg #[.string k.1,.int .i64 k.2]
theorem JY (x y:KL) (h:A9 x=A9 y):x=y:=by
 unfold A9 at h;injection h with h;have h1:=congrArg Array.toList h;simp at h1;exact Prod.ext h1.1 h1.2
theorem Ny:(167:TypeId) < prog.types.size:=of_decide_eq_true (by kernel_rfl)
theorem MP:(match prog.underlying 167 with | some (.array _ _) | some (.struct _)=>true | _=>false)=true:=by rw [underlying167]
set_option maxRecDepth 100000 in
theorem MQ:WideMaps.KeyLaw prog 167:=deep_law_laid wC (m:=2) (by omega) Ny (by kernel_rfl) MP
theorem MR:prog.keyType 167=true:=by kernel_rfl
theorem Fu:prog.cellsOf 167=2:=by kernel_rfl
theorem JZ:prog.cellsOf 2=1:=by kernel_rfl
set_option maxRecDepth 100000 in
theorem Ld (k:KL) (h0:k.1.size≤maxLen) (h1:0≤k.2) (h2:k.2≤1000000):∃ kl,keyOf prog 167 (A9 k)=some kl:=by
 have hw:(Lit.int .i64 k.2).wf=true:=WalkArith.wf_i64 ⟨by omega,by omega⟩;obtain ⟨n,hn⟩:=yj;refine ⟨.string (keyBytes [.string k.1.data.toList,.int .i64 k.2]),?_⟩;unfold keyOf;rw [underlying167];simp only [MR,A9,Value.formed,underlying167,Fu,hn,Value.cells];simp +decide [Program.keyLits,underlying167,underlying2,underlying9,Fu,JZ,strCells,h0,hw]
open Pl
set_option linter.unusedVariables false
set_option maxRecDepth 100000
theorem CF {x y:Al}:jh x y=true ↔ x=y:=by
 unfold jh;simp only [Bool.and_eq_true,beq_iff_eq];constructor
 ·rintro ⟨h0,h1⟩;obtain ⟨xa,xb⟩:=x;obtain ⟨ya,yb⟩:=y;simp only at h0 h1;rw [iy h0,iy h1]
 ·rintro rfl; simp
theorem zR (x y:Al):jh x y=jh y x:=by
 rw [Bool.eq_iff_iff,CF,CF];exact ⟨Eq.symm,Eq.symm⟩
theorem J2 (x y:Al) {v:Bool} (h:jh x y=v) (w:World) :
  (binOp .eql 39 (.agg #[.string x.t,.string x.s]) (.agg #[.string y.t,.string y.s])).run prog w=.ok (.bool v) w:=by
 subst h;go_simp;unfold jh
 (repeat' split) <;> simp_all
def uT (xs:List Al) (o:Al):Bool:=xs.any fun x=>jh x o
theorem G6 {xs:List Al} {o:Al} {k:Nat} (h:k < xs.length):uT (xs.take (k + 1)) o=(uT (xs.take k) o || jh xs[k] o):=by
 rw [List.take_succ_eq_append_getElem h];unfold uT;rw [List.any_append];simp only [List.any_cons,List.any_nil,Bool.or_false]
theorem J3 {xs:List Al} {o:Al} {k:Nat} (h:k < xs.length) (he:jh xs[k] o=true):uT xs o=true:=List.any_eq_true.2 ⟨xs[k],List.getElem_mem h,he⟩
theorem EE (ad:Option Addr) (cap:Nat) (ts:List Al) (t:Al) (w:World) (hlen:ts.length≤1048576) (hs:kF w ad ts) :
  Calls prog 163 #[.slice ad ts.length cap,.agg #[.string t.t,.string t.s]] w fun e w'=>(∃ r:Int,e=.returned (.int .i64 r)∧decide (0≤r)=uT ts t)∧Below w.heap.size w w':=by
 obtain ⟨W,hW⟩:∃ W,W=w.alloc (.cells #[.string t.t,.string t.s] 39):=⟨_,rfl⟩;have HB0:Hid (Below w.heap.size w W):=by show Below _ _ _; rw [hW]; exact (Below.refl w.heap.size w).alloc (Nat.le_refl _) _
 have hz:w.heap.size < W.heap.size:=by rw [hW]; simp
 have b0:W.cell? ⟨w.heap.size,0,none⟩=some (.string t.t):=by rw [hW]; simp
 have b1:W.cell? ⟨w.heap.size,1,none⟩=some (.string t.s):=by rw [hW]; simp
 have HS:Hid (kF W ad ts):=hs.below HB0.out;clear hs;go_enter func163,ntmps163;go_wp2_with fail;rw [← hW];clear hW;go_loopw [8] (fun i wr=>∃ k:Nat,k≤ts.length∧i=.int .i64 k∧Hid (uT (ts.take k) t=false)∧Below W.heap.size W wr) (fun i _=>ts.length - (intOf i).toNat);case atStart=>exact ⟨0,Nat.zero_le _,rfl,rfl,Below.refl _ _⟩
 case round =>
  obtain ⟨k,hk,rfl,HP,hB⟩:=hrel;have a0:=qm hB hz b0;have a1:=qm hB hz b1;by_cases hlt:k < ts.length
  ·rcases HS.out.below hB with hnil | ⟨b,off,rfl,hb,hr⟩
   ·rw [hnil] at hlt; simp at hlt
   obtain ⟨t0,t1⟩:=hr k hlt;have hk1:=bR k;have hk2:(k:Int) < (ts.length:Int):=by omega
   clear hr;cases hq:jh t ts[k] with
   | true =>
    have HE:=J2 t ts[k] hq;have HN:Hid (uT ts t=true):=J3 hlt (by rw [zR]; exact hq);go_wp2_with fail;go_quiet (fail);go_wp2;go_ret;exact ⟨⟨_,rfl,by rw [HN.out]; simp⟩,HB0.out.trans (below_drewN (hB.mono HB0.out.size) _)⟩
   | false =>
    have HE:=J2 t ts[k] hq;have HP2:Hid (uT (ts.take (k + 1)) t=false):=by show _=_; rw [G6 hlt,HP.out,zR,hq]; rfl
    go_wp2_with fail;go_quiet (fail);go_wp2;go_roundw;case rel=>exact ⟨k + 1,by omega,by go_num,HP2,below_drewN hB _⟩
    case measure=>simp [intOf] <;> omega
  ·obtain rfl:k=ts.length:=by omega
   have HN:Hid (uT ts t=false):=by have:=HP.out; rw [List.take_length] at this; exact this
   go_wp2;go_ret;exact ⟨⟨-1,rfl,by rw [HN.out]; rfl⟩,HB0.out.trans (hB.mono HB0.out.size)⟩
theorem yI (ad:Option Addr) (cap:Nat) (ts:List Al) (t:Al) (w:World) (hlen:ts.length≤1048576) (hs:kF w ad ts) :
  Calls prog 147 #[.slice ad ts.length cap,.agg #[.string t.t,.string t.s]] w fun e w'=>e=.returned (.bool (uT ts t))∧Below w.heap.size w w':=by
 have HB0:Hid (Below w.heap.size w (w.alloc (.cells #[.string t.t,.string t.s] 39))):=(Below.refl w.heap.size w).alloc (Nat.le_refl _) _;have HS:=aM hs;clear hs;go_enter func147,ntmps147;go_wp2_with fail;refine (EE ad cap ts t _ hlen (HS.out.below HB0.out)).mono ?_;rintro e w1 ⟨⟨r,rfl,hr⟩,hb1⟩;have HR:=aM hr;have HB1:=aM (HB0.out.trans (hb1.mono HB0.out.size));clear hr hb1;go_wp2;go_ret;exact ⟨ag HR.out,HB1.out⟩
def bH (xs:List Al) (o:Al):List Al:=if uT xs o then xs else xs ++ [o]
theorem J4:∃ i,prog.info? 39=some i∧i.zero=some (.agg #[.string ⟨#[]⟩,.string ⟨#[]⟩])∧i.size=2∧i.bytes=32 :=
 info_parts (P:=prog) (e:=39) (z:=.agg #[.string ⟨#[]⟩,.string ⟨#[]⟩]) (size:=2) (bytes:=32) (by kernel_rfl)
theorem Fv {w:World} {base:Nat} {v:Value} {xs:List Al} (h:w.ownsRow base 39 2 v xs.length (pairs xs)):∃ ad cap,v=.slice ad xs.length cap∧kF w ad xs:=by
 rcases h.2 with ⟨rfl,h0⟩ | ⟨g,cap,cur,rfl,hbg,hg,hnc,-⟩
 ·exact ⟨none,0,by rw [h0],.inl (List.length_eq_zero_iff.1 h0)⟩
 ·refine ⟨_,cap,rfl,.inr ⟨g,0,rfl,(h.lt g rfl).2,fun i hi=>?_⟩⟩;obtain ⟨h0,h1⟩:=qP xs i hi;have hl:=oK xs;refine ⟨?_,?_⟩
  ·rw [h.cellAt (0 + i * 2) (by omega),Nat.zero_add]; exact h0
  ·rw [h.cellAt (0 + i * 2 + 1) (by omega),Nat.zero_add]; exact h1
theorem kw (B:Nat) (v:Value) (xs:List Al) (o:Al) (w:World) (hlen:xs.length≤1000) (hB:B≤w.heap.size) (hown:w.ownsRow B 39 2 v xs.length (pairs xs)) :
  Calls prog 123 #[v,.agg #[.string o.t,.string o.s]] w fun e w'=>∃ v',e=.returned v'∧w'.ownsRow B 39 2 v' (bH xs o).length (pairs (bH xs o))∧Aside w v w' v'∧∀ B',(∀ g,v.ownBlock=some g→B'≤g)→B'≤w.heap.size→Below B' w w':=by
 obtain ⟨iO,h0,h1,h2,h3⟩:=J4;have HIO:=aM (And.intro h0 (And.intro h1 (And.intro h2 h3)));obtain ⟨ad,cap,rfl,hsl⟩:=Fv hown;obtain ⟨W,hW⟩:∃ W,W=w.alloc (.cells #[.string o.t,.string o.s] 39):=⟨_,rfl⟩;have HB0:Hid (Below w.heap.size w W):=by show Below _ _ _; rw [hW]; exact (Below.refl w.heap.size w).alloc (Nat.le_refl _) _
 have hz:w.heap.size < W.heap.size:=by rw [hW]; simp
 have b0:W.cell? ⟨w.heap.size,0,none⟩=some (.string o.t):=by rw [hW]; simp
 have b1:W.cell? ⟨w.heap.size,1,none⟩=some (.string o.s):=by rw [hW]; simp
 have HSL:=aM hsl;have HO:=aM hown;clear hsl hown h0 h1 h2 h3;go_enter func123,ntmps123;go_wp2_with fail;rw [← hW];clear hW;refine (yI ad cap xs o _ (by omega) (HSL.out.below HB0.out)).mono ?_;rintro e w1 ⟨rfl,hb1⟩;have HB1:=aM (HB0.out.trans (hb1.mono HB0.out.size));have c0:=qm hb1 hz b0;have c1:=qm hb1 hz b1;have HO1:=aM (bi HO.out HB1.out);have HA1:Hid (Aside w (.slice ad xs.length cap) w1 (.slice ad xs.length cap)):=Aside.below HB1.out;clear hb1 b0 b1;cases hh:uT xs o with
 | true =>
  have HW:Hid (bH xs o=xs):=by show _=_; unfold bH; rw [hh]; rfl
  go_wp2;go_ret;exact ⟨_,rfl,by rw [HW.out]; exact HO1.out,HA1.out,fun B' _ hB'=>HB1.out.mono hB'⟩
 | false =>
  have HW:Hid (bH xs o=xs ++ [o]):=by show _=_; unfold bH; rw [hh]; rfl
  obtain ⟨W2,hW2⟩:∃ W2,W2=w1.alloc (.cells #[.string o.t,.string o.s] 39):=⟨_,rfl⟩;have HO2:Hid (W2.ownsRow B 39 2 (.slice ad xs.length cap) xs.length (pairs xs)):=by show World.ownsRow _ _ _ _ _ _ _; rw [hW2]; exact HO1.out.alloc _
  have HA2:Hid (Aside w (.slice ad xs.length cap) W2 (.slice ad xs.length cap)):=by show Aside _ _ _ _; rw [hW2]; exact HA1.out.trans (Aside.below ((Below.refl _ _).alloc (Nat.le_refl _) _))
  have HBW2:Hid (Below w.heap.size w W2):=by show Below _ _ _; rw [hW2]; exact HB1.out.alloc HB1.out.size _
  have HN2:Hid (∀ j u,[Value.string o.t,.string o.s][j]?=some u→W2.cell? ((⟨w1.heap.size,0,none⟩:Addr).add j)=some u):=fun j u hu=>by
   rw [hW2]
   match j,hu with
   | 0,hu=>simp at hu; subst hu; simp [Addr.add]
   | 1,hu=>simp at hu; subst hu; simp [Addr.add]
  have hsz2:B≤W2.heap.size:=by have:=HB1.out.size; rw [hW2]; simp; omega
  clear hh;go_wp2_with (at_builtin; rw [← hW2]; clear hW2; refine wpList_append_own_at _ rfl _ _ 105 rfl B 39 iO (.agg #[.string ⟨#[]⟩,.string ⟨#[]⟩]) 2 32 underlying105 HIO.out.1 HIO.out.2.1 HIO.out.2.2.1 HIO.out.2.2.2 rfl (by decide) _ xs.length (pairs xs) rfl HO2.out ⟨w1.heap.size,0,none⟩ 1 1 [.string o.t,.string o.s] rfl rfl HN2.out (by simp [Value.oneCell']) (by unfold maxLen; omega) (by omega) hsz2 ?_);intro v' w3 hown hgr _ hat;have HE:Hid (w3.ownsRow B 39 2 v' (bH xs o).length (pairs (bH xs o))):=by
   show World.ownsRow _ _ _ _ _ _ _;rw [HW.out,List.length_append];have:pairs (xs ++ [o])=pairs xs ++ [.string o.t,.string o.s]:=by simp [pairs]
   rw [this]; exact hown
  have HA3:Hid (Aside w (.slice ad xs.length cap) w3 v'):=HA2.out.trans (Aside.app hgr hat);have HBL:Hid (∀ B',(∀ g,(Value.slice ad xs.length cap).ownBlock=some g→B'≤g)→B'≤w.heap.size→Below B' w w3):=fun B' hv hB'=>(HBW2.out.mono hB').grown hgr (Nat.le_trans hB' HBW2.out.size) hv;clear hown hgr hat;go_wp2;go_ret;exact ⟨_,rfl,HE.out,HA3.out,HBL.out⟩
def mQ (xs:List Al) (t:Tp):List Al:=bH (bH xs ⟨t.a,t.b⟩) ⟨t.c,t.d⟩
def iD (xs:List Al) (t:Tp):List Al:=if t.s.toList == [] then bH xs ⟨t.c,t.d⟩ else xs
def lT (ts:List Tp):List Al:=ts.foldl mQ []
def ja (ts:List Tp):List Al:=ts.foldl iD []
theorem EF (ts:List Tp) (t:Tp):lT (ts ++ [t])=mQ (lT ts) t:=by simp [lT]
theorem CG (ts:List Tp) (t:Tp):ja (ts ++ [t])=iD (ja ts) t:=by simp [ja]
theorem pG (xs:List Al) (o:Al):(bH xs o).length≤xs.length + 1:=by
 unfold bH; split
 ·omega
 ·simp
theorem CJ (xs:List Al) (t:Tp):(mQ xs t).length≤xs.length + 2:=by
 unfold mQ;have h1:=pG (bH xs ⟨t.a,t.b⟩) ⟨t.c,t.d⟩;have h2:=pG xs ⟨t.a,t.b⟩;omega
theorem CK (xs:List Al) (t:Tp):(iD xs t).length≤xs.length + 1:=by
 unfold iD; split
 ·exact pG _ _
 ·omega
def Hm (t:Tp):K3:=(t.a,t.b,t.r)
def lU (ts:List Tp):List (K3 × Tp):=ts.map fun t=>(Hm t,t)
theorem EG (ts:List Tp) (t:Tp):lU (ts ++ [t])=lU ts ++ [(Hm t,t)]:=by simp [lU]
structure DatT (w:World) (D br bp:Nat) (tab:Value) (n1:Int) (E:List (K3 × Tp)) (xo xu:List Al) (np:Nat) (Mp:K3→Option Value) (vo vu:Value):Prop where
 gt:bp < D
 lt:D < w.heap.size
 kind:∃ cur,w.heap[D]?=some (.cells cur 107 (0,0))
 c0:w.cell? ⟨D,0,none⟩=some tab
 c1:w.cell? ⟨D,1,none⟩=some (.int .i64 n1)
 c2:w.cell? ⟨D,2,none⟩=some (.map (some br))
 c3:w.cell? ⟨D,3,none⟩=some (.map (some bp))
 c4:w.cell? ⟨D,4,none⟩=some vo
 c5:w.cell? ⟨D,5,none⟩=some vu
 told:G.Grp oH prog 214 41 6 Tp.row w bp np Mp E
 objs:w.ownsRow (bp + 1) 39 2 vo xo.length (pairs xo)
 users:w.ownsRow (bp + 1) 39 2 vu xu.length (pairs xu)
 apart:∀ g,vo.ownBlock=some g→vu.ownBlock ≠ some g
theorem cz {w:World} {base size n g:Nat} {e e':TypeId} {v:Value} {xs:List Value} {cur:Array Value} (h:w.ownsRow base e size v n xs) (hg:v.ownBlock=some g) (hc:w.heap[g]?=some (.cells cur e' (0,0))):e=e':=by
 rcases h.2 with ⟨rfl,-⟩ | ⟨g',cap,cur',rfl,-,hg',-⟩
 ·simp [Value.ownBlock] at hg
 ·have e1:g'=g:=by simpa [Value.ownBlock] using hg
  rw [e1,hc] at hg';injection hg' with hg';injection hg' with _ h2;exact h2.symm
theorem Le {w:World} {base size n g:Nat} {e:TypeId} {v:Value} {xs:List Value} {es:Array MapEntry} {c:Nat} (h:w.ownsRow base e size v n xs) (hg:v.ownBlock=some g) (hc:w.heap[g]?=some (.map es c)):False:=by
 rcases h.2 with ⟨rfl,-⟩ | ⟨g',cap,cur',rfl,-,hg',-⟩
 ·simp [Value.ownBlock] at hg
 ·have e1:g'=g:=by simpa [Value.ownBlock] using hg
  rw [e1,hc] at hg';cases hg'
theorem fo {w w':World} {base size n:Nat} {e:TypeId} {v:Value} {xs:List Value} (h:w.ownsRow base e size v n xs) (hb:∀ g,v.ownBlock=some g→w'.heap[g]?=w.heap[g]?):w'.ownsRow base e size v n xs:=by
 refine ⟨h.1,?_⟩;rcases h.2 with h0 | ⟨g,cap,cur,rfl,h1,h2,h3⟩
 ·exact .inl h0
 ·exact .inr ⟨g,cap,cur,rfl,h1,(hb g rfl).trans h2,h3⟩
theorem r9 {w:World} {base size n g:Nat} {e:TypeId} {v:Value} {xs:List Value} (h:w.ownsRow base e size v n xs) (hg:v.ownBlock=some g):∃ cur,w.heap[g]?=some (.cells cur e (0,0)):=by
 rcases h.2 with ⟨rfl,-⟩ | ⟨g',cap,cur',rfl,-,hg',-⟩
 ·simp [Value.ownBlock] at hg
 ·have e1:g'=g:=by simpa [Value.ownBlock] using hg
  exact ⟨cur',by rw [← e1]; exact hg'⟩
theorem si {w:World} {bp np:Nat} {Mp:K3→Option Value} {E:List (K3 × Tp)} (h:G.Grp oH prog 214 41 6 Tp.row w bp np Mp E) {k:K3} {v:Value} (hk:Mp k=some v):∃ n xs,w.ownsRow (bp + 1) 41 6 v n xs:=by
 rcases h.row k with ⟨e,-⟩ | ⟨v',e,ho⟩
 ·rw [e] at hk; cases hk
 ·rw [e] at hk; injection hk with hk; subst hk; exact ⟨_,_,ho⟩
theorem CL {w:World} {bp np g:Nat} {Mp:K3→Option Value} {E:List (K3 × Tp)} {e:TypeId} {cur:Array Value} (h:G.Grp oH prog 214 41 6 Tp.row w bp np Mp E) (hc:w.heap[g]?=some (.cells cur e (0,0))) (hne:(41:TypeId) ≠ e):G.FreeB Mp g:=fun k v hk hg=>by
 obtain ⟨n,xs,ho⟩:=si h hk;exact hne (cz ho hg hc)
theorem sj {w w':World} {bp np:Nat} {Mp:K3→Option Value} {E:List (K3 × Tp)} (h:G.Grp oH prog 214 41 6 Tp.row w bp np Mp E) (hm:w'.heap[bp]?=w.heap[bp]?) (hr:∀ k v g,Mp k=some v→v.ownBlock=some g→w'.heap[g]?=w.heap[g]?):G.Grp oH prog 214 41 6 Tp.row w' bp np Mp E where
 map:=h.map.of_block hm
 row k:=by
  rcases h.row k with e | ⟨v,e,ho⟩
  ·exact .inl e
  ·exact .inr ⟨v,e,fo ho fun g hg=>hr k v g e hg⟩
 apart:=h.apart
section
variable {w w':World} {D br bp:Nat} {tab:Value} {n1:Int} {E:List (K3 × Tp)} {xo xu:List Al} {np:Nat} {Mp:K3→Option Value} {vo vu:Value}
theorem DatT.below (h:DatT w D br bp tab n1 E xo xu np Mp vo vu) (hb:Below w.heap.size w w'):DatT w' D br bp tab n1 E xo xu np Mp vo vu where
 gt:=h.gt
 lt:=Nat.lt_of_lt_of_le h.lt hb.size
 kind:=by obtain ⟨cur,e⟩:=h.kind; exact ⟨cur,(hb.block D h.lt).trans e⟩
 c0:=(hb.cell (p:=⟨D,0,none⟩) h.lt).trans h.c0
 c1:=(hb.cell (p:=⟨D,1,none⟩) h.lt).trans h.c1
 c2:=(hb.cell (p:=⟨D,2,none⟩) h.lt).trans h.c2
 c3:=(hb.cell (p:=⟨D,3,none⟩) h.lt).trans h.c3
 c4:=(hb.cell (p:=⟨D,4,none⟩) h.lt).trans h.c4
 c5:=(hb.cell (p:=⟨D,5,none⟩) h.lt).trans h.c5
 told:=h.told.below hb
 objs:=bi h.objs hb
 users:=bi h.users hb
 apart:=h.apart
theorem DatT.tell (h:DatT w D br bp tab n1 E xo xu np Mp vo vu) {Mp':K3→Option Value} {E':List (K3 × Tp)} {np':Nat} (hg:G.Grp oH prog 214 41 6 Tp.row w' bp np' Mp' E') (hs:G.Stl w Mp w' Mp' bp):DatT w' D br bp tab n1 E' xo xu np' Mp' vo vu:=by
 have hD:w'.heap[D]?=w.heap[D]?:=by
  obtain ⟨cur,e⟩:=h.kind;exact hs.block D h.lt (by have:=h.gt; omega) (CL h.told e (by decide))
 have hc:∀ o,w'.cell? ⟨D,o,none⟩=w.cell? ⟨D,o,none⟩:=fun o=>World.cell?_of_block (w:=w) (a:=⟨D,o,none⟩) hD;have hO:∀ {v:Value} {n:Nat} {xs:List Value},w.ownsRow (bp + 1) 39 2 v n xs→w'.ownsRow (bp + 1) 39 2 v n xs:=fun {v n xs} ho=>fo ho fun g hg=>by
  obtain ⟨cur,e⟩:=r9 ho hg;have:=ho.lt g hg;exact hs.block g this.2 (by omega) (CL h.told e (by decide))
 exact ⟨h.gt,Nat.lt_of_lt_of_le h.lt hs.size,by obtain ⟨cur,e⟩:=h.kind; exact ⟨cur,hD.trans e⟩,(hc _).trans h.c0,(hc _).trans h.c1,(hc _).trans h.c2,(hc _).trans h.c3,(hc _).trans h.c4,(hc _).trans h.c5,hg,hO h.objs,hO h.users,h.apart⟩
theorem DatT.newO (h:DatT w D br bp tab n1 E xo xu np Mp vo vu) {vo':Value} {xo':List Al} (ho:w'.ownsRow (bp + 1) 39 2 vo' xo'.length (pairs xo')) (ha:Aside w vo w' vo'):DatT (w'.setCell ⟨D,4,none⟩ vo') D br bp tab n1 E xo' xu np Mp vo' vu:=by
 obtain ⟨cur,hk⟩:=h.kind;have hDo:vo.ownBlock ≠ some D:=fun e=>absurd (cz h.objs e hk) (by decide);have hD:w'.heap[D]?=w.heap[D]?:=ha.block D h.lt hDo;have hc:∀ o,w'.cell? ⟨D,o,none⟩=w.cell? ⟨D,o,none⟩:=fun o=>World.cell?_of_block (w:=w) (a:=⟨D,o,none⟩) hD;have hc2:∀ o,o ≠ 4→(w'.setCell ⟨D,4,none⟩ vo').cell? ⟨D,o,none⟩=w.cell? ⟨D,o,none⟩:=fun o ne=>(jE (by omega)).trans (hc o);have hDn:vo'.ownBlock ≠ some D:=ha.apart h.lt hDo;have hne:∀ g,g ≠ D→(w'.setCell ⟨D,4,none⟩ vo').heap[g]?=w'.heap[g]?:=fun g e=>heap_setCell_other w' ⟨D,4,none⟩ g vo' e;have hbp:bp < w.heap.size:=by have:=h.gt; have:=h.lt; omega
 have hrow:∀ k v g,Mp k=some v→v.ownBlock=some g→(w'.setCell ⟨D,4,none⟩ vo').heap[g]?=w.heap[g]?:=fun k v g hm hg=>by
  obtain ⟨n,xs,hr⟩:=si h.told hm;obtain ⟨cr,er⟩:=r9 hr hg;rw [hne g (fun e=>absurd (cz hr (e ▸ hg) hk) (by decide))];exact ha.block g (hr.lt g hg).2 (fun e=>absurd (cz h.objs e er) (by decide))
 refine ⟨h.gt,by simpa using Nat.lt_of_lt_of_le h.lt ha.size,⟨_,heap_setCell_same w' D 4 cur _ vo' (hD.trans hk)⟩,(hc2 0 (by omega)).trans h.c0,(hc2 1 (by omega)).trans h.c1,(hc2 2 (by omega)).trans h.c2,(hc2 3 (by omega)).trans h.c3,Gq ((hc 4).trans h.c4),(hc2 5 (by omega)).trans h.c5,sj h.told ?_ hrow,fo ho fun g hg=>hne g fun e=>hDn (e ▸ hg),fo h.users fun g hg=>?_,fun g hg hu=>?_⟩
 ·rw [hne bp (by have:=h.gt; omega)];exact ha.block bp hbp fun e=>by have:=(h.objs.lt bp e).1; omega
 ·rw [hne g (fun e=>absurd (cz h.users (e ▸ hg) hk) (by decide))];exact ha.block g (h.users.lt g hg).2 fun e=>h.apart g e hg
 ·rcases ha.own with e | ⟨g',e,hg'⟩
  ·exact h.apart g (e ▸ hg) hu
  ·rw [hg] at e; injection e with e;have:=(h.users.lt g hu).2;omega
theorem DatT.newU (h:DatT w D br bp tab n1 E xo xu np Mp vo vu) {vu':Value} {xu':List Al} (ho:w'.ownsRow (bp + 1) 39 2 vu' xu'.length (pairs xu')) (ha:Aside w vu w' vu'):DatT (w'.setCell ⟨D,5,none⟩ vu') D br bp tab n1 E xo xu' np Mp vo vu':=by
 obtain ⟨cur,hk⟩:=h.kind;have hDo:vu.ownBlock ≠ some D:=fun e=>absurd (cz h.users e hk) (by decide);have hD:w'.heap[D]?=w.heap[D]?:=ha.block D h.lt hDo;have hc:∀ o,w'.cell? ⟨D,o,none⟩=w.cell? ⟨D,o,none⟩:=fun o=>World.cell?_of_block (w:=w) (a:=⟨D,o,none⟩) hD;have hc2:∀ o,o ≠ 5→(w'.setCell ⟨D,5,none⟩ vu').cell? ⟨D,o,none⟩=w.cell? ⟨D,o,none⟩:=fun o ne=>(jE (by omega)).trans (hc o);have hDn:vu'.ownBlock ≠ some D:=ha.apart h.lt hDo;have hne:∀ g,g ≠ D→(w'.setCell ⟨D,5,none⟩ vu').heap[g]?=w'.heap[g]?:=fun g e=>heap_setCell_other w' ⟨D,5,none⟩ g vu' e;have hbp:bp < w.heap.size:=by have:=h.gt; have:=h.lt; omega
 have hrow:∀ k v g,Mp k=some v→v.ownBlock=some g→(w'.setCell ⟨D,5,none⟩ vu').heap[g]?=w.heap[g]?:=fun k v g hm hg=>by
  obtain ⟨n,xs,hr⟩:=si h.told hm;obtain ⟨cr,er⟩:=r9 hr hg;rw [hne g (fun e=>absurd (cz hr (e ▸ hg) hk) (by decide))];exact ha.block g (hr.lt g hg).2 (fun e=>absurd (cz h.users e er) (by decide))
 refine ⟨h.gt,by simpa using Nat.lt_of_lt_of_le h.lt ha.size,⟨_,heap_setCell_same w' D 5 cur _ vu' (hD.trans hk)⟩,(hc2 0 (by omega)).trans h.c0,(hc2 1 (by omega)).trans h.c1,(hc2 2 (by omega)).trans h.c2,(hc2 3 (by omega)).trans h.c3,(hc2 4 (by omega)).trans h.c4,Gq ((hc 5).trans h.c5),sj h.told ?_ hrow,fo h.objs fun g hg=>?_,fo ho fun g hg=>hne g fun e=>hDn (e ▸ hg),fun g hg hu=>?_⟩
 ·rw [hne bp (by have:=h.gt; omega)];exact ha.block bp hbp fun e=>by have:=(h.users.lt bp e).1; omega
 ·rw [hne g (fun e=>absurd (cz h.objs (e ▸ hg) hk) (by decide))];exact ha.block g (h.objs.lt g hg).2 fun e=>h.apart g hg e
 ·rcases ha.own with e | ⟨g',e,hg'⟩
  ·exact h.apart g hg (e ▸ hu)
  ·rw [hu] at e; injection e with e;have:=(h.objs.lt g hg).2;omega
end
section
variable {P:Program} {ops:Array Oper} {Q:Exit→Act→World→Prop}
theorem jb {id:Nat} {a:Act} {w:World} (L:Nat) (f0:Nat→Value) (F:(Nat→Value)→Act) (I:(Nat→Bool)→(Nat→Value)→World→Prop)
  (hm:P.follows .mixedOrders=true) (hsz:ops.size=L + 1) (hord:vT ops=true)
  (hcl:∀ o,ops[L]?=some o→∀ (l:Nat→Bool) f w',I l f w'→(∀ e ∈ o.after,Region.binds .any e=true→l e.on=true)→∀ k,k < L→l k=true)
  (h0:a=F f0) (hI0:I (fun _=>false) f0 w.drew)
  (hstep:∀ i,i < L→∀ o,ops[i]?=some o→∀ (l:Nat→Bool) f w',l i=false→I l f w'→(∀ e ∈ o.after,Region.binds .any e=true→l e.on=true) →
   wpOp P ops Q i (fun a' w''=>∃ v,a'=F (upd f i v)∧I (fun k=>if k=i then true else l k) (upd f i v) w'') (F f) w')
  (hfin:∀ o,ops[L]?=some o→∀ (l:Nat→Bool) f w',(∀ k,k < L→l k=true)→I l f w'→wpOp P ops Q L (fun a' w''=>Q .normal a' w'') (F f) w') :
  (Code.region id ops true).wp P Q a w:=by
 refine eZ (fun listed a' w'=>listed.size=L + 1∧((listed.getD L false=false∧∃ f,a'=F f∧I (fun k=>listed.getD k false) f w') ∨ ((∀ j,j≤L→listed.getD j true=true)∧Q .normal a' w'))) hm ?_ ?_ ?_
 ·refine ⟨by simpa using hsz,Or.inl ⟨?_,_,h0,?_⟩⟩
  ·rw [Array.getD_eq_getD_getElem?,Array.getElem?_replicate]; split <;> rfl
  ·have:(fun k=>(Array.replicate ops.size false).getD k false)=fun _=>false:=funext fun k=>by rw [Array.getD_eq_getD_getElem?,Array.getElem?_replicate]; split <;> rfl
   rw [this]; exact hI0
 ·rintro listed a' w' ⟨hs,h⟩ i hi;obtain ⟨hl,o,ho,hpre⟩:=mem_ready.1 hi;have hiL:i < L + 1:=by have:=(Array.getElem?_eq_some_iff.1 ho).1; omega
  rcases h with ⟨hn,f,rfl,hI⟩ | ⟨hall,-⟩
  ·by_cases e:i=L
   ·subst e;have hall:∀ k,k < i→listed.getD k false=true:=hcl o ho _ f w' hI (fun e he hb=>hpre e he hb);refine wpOp_mono (fun a'' w'' hq=>⟨by simpa using hs,Or.inr ⟨fun j hj=>?_,hq⟩⟩) (hfin o ho _ f w' hall hI);rw [mX (by simp; omega),aW _ _ _ (by omega)];by_cases e:j=i
    ·simp [e]
    ·rw [if_neg e]; exact hall j (by omega)
   ·refine wpOp_mono ?_ (hstep i (by omega) o ho _ f w' (by rw [← mX (by omega)]; exact hl) hI (fun e he hb=>hpre e he hb));rintro a'' w'' ⟨v,rfl,hI'⟩;refine ⟨by simpa using hs,Or.inl ⟨?_,_,rfl,?_⟩⟩
    ·rw [aW _ _ _ (by omega),if_neg (Ne.symm e)]; exact hn
    ·have:(fun k=>(listed.setIfInBounds i true).getD k false)=fun k=>if k=i then true else listed.getD k false:=funext fun k=>aW _ _ _ (by omega)
     rw [this]; exact hI'
  ·rw [hall i (by omega)] at hl; cases hl
 ·rintro listed a' w' ⟨hs,h⟩ hr;rcases h with ⟨hn,-⟩ | ⟨-,hq⟩
  ·have:=nD hr hsz (oN hord) hs L (by omega);rw [mX (by omega)] at this;rw [this] at hn; cases hn
  ·exact hq
end
end Go.Proofs.YteoflgocljfgeaaGreatDoor
namespace Go.Proofs.YteoflgocljfgeaaGreatDoor.G
set_option linter.unusedVariables false
open Go.ChangeShapes Go.WideShapes Go.ChangeAt Go.RowKit
structure WI (C:Nat→Value) (W:World) (CD:Value→World→Prop) (l:Nat→Bool) (f:Nat→Value) (w:World):Prop where
 val:∀ k,k≤9→k ≠ 7→l k=true→f k=C k
 seq:l 7=true→l 4=true∧l 6=true
 nin:l 9=true→l 8=true
 mid:(l 7=false∧Below W.heap.size W w) ∨ (l 7=true∧CD (f 7) w)
section
variable {C:Nat→Value} {W:World} {CD:Value→World→Prop} {l:Nat→Bool} {f:Nat→Value} {w:World}
theorem wi_start (W:World):WI C W CD (fun _=>false) f W.drew:=⟨fun _ _ _ h=>(by cases h),fun h=>(by cases h),fun h=>(by cases h),.inl ⟨rfl,(Below.refl _ _).drew⟩⟩
theorem WI.put (h:WI C W CD l f w) {i:Nat} (hi:i ≠ 7) (h9:i=9→l 8=true) {v:Value} (hv:v=C i):WI C W CD (fun k=>if k=i then true else l k) (upd f i v) w:=by
 refine ⟨fun k hk h7 hl=>?_,fun hl=>?_,fun hl=>?_,?_⟩
 ·by_cases e:k=i
  ·subst e; simp [upd,hv]
  ·simp only [if_neg e] at hl;simp only [upd,if_neg e]; exact h.val k hk h7 hl
 ·have hl':(if (7:Nat)=i then true else l 7)=true:=hl;rw [if_neg (Ne.symm hi)] at hl';have:=h.seq hl';constructor
  ·show (if (4:Nat)=i then true else l 4)=true; rw [this.1]; split <;> rfl
  ·show (if (6:Nat)=i then true else l 6)=true; rw [this.2]; split <;> rfl
 ·have hl':(if (9:Nat)=i then true else l 9)=true:=hl;show (if (8:Nat)=i then true else l 8)=true;by_cases e:(9:Nat)=i
  ·rw [h9 e.symm]; split <;> rfl
  ·rw [if_neg e] at hl'; rw [h.nin hl']; split <;> rfl
 ·have e7:(if (7:Nat)=i then true else l 7)=l 7:=if_neg (Ne.symm hi);have f7:upd f i v 7=f 7:=by simp only [upd]; rw [if_neg (Ne.symm hi)]
  rcases h.mid with ⟨h1,h2⟩ | ⟨h1,h2⟩
  ·exact .inl ⟨e7.trans h1,h2⟩
  ·exact .inr ⟨e7.trans h1,by rw [f7]; exact h2⟩
theorem WI.before (h:WI C W CD l f w) (hl:l 7=false):Below W.heap.size W w:=by
 rcases h.mid with ⟨_,h2⟩ | ⟨h1,_⟩
 ·exact h2
 ·rw [h1] at hl; cases hl
theorem WI.early (h:WI C W CD l f w) (hl:l 4=false ∨ l 6=false):Below W.heap.size W w:=by
 refine h.before ?_;cases h7:l 7 with
 | false=>rfl
 | true =>
  obtain ⟨h4,h6⟩:=h.seq h7;rcases hl with e | e
  ·rw [h4] at e; cases e
  ·rw [h6] at e; cases e
theorem WI.call (h:WI C W CD l f w) (h4:l 4=true) (h6:l 6=true) {v:Value} {w':World} (hc:CD v w'):WI C W CD (fun k=>if k=7 then true else l k) (upd f 7 v) w':=by
 refine ⟨fun k hk h7 hl=>?_,fun _=>⟨by simp [h4],by simp [h6]⟩,fun hl=>h.nin hl,.inr ⟨by simp,by simp only [upd,if_true]; exact hc⟩⟩;simp only [if_neg h7] at hl;simp only [upd,if_neg h7]; exact h.val k hk h7 hl
theorem WI.last (h:WI C W CD l f w) (hall:∀ k,k < 10→l k=true):(∀ k,k≤9→k ≠ 7→f k=C k)∧CD (f 7) w:=by
 refine ⟨fun k hk h7=>h.val k hk h7 (hall k (by omega)),?_⟩;rcases h.mid with ⟨h1,_⟩ | ⟨_,h2⟩
 ·rw [hall 7 (by omega)] at h1; cases h1
 ·exact h2
end
end Go.Proofs.YteoflgocljfgeaaGreatDoor.G
