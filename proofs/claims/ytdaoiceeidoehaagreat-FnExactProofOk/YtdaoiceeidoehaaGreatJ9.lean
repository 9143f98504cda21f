/- Contracts of the library's search in a slice of objects, as the program calls it; an object put behind a list that lacks it. -/
import Derived.Test.YtdaoiceeidoehaaGreatJ8
import Derived.Maps.OwnSet
import Derived.DeepKeys4
import Derived.WideKeyEntry
open Go.Proofs.Tryz
set_option maxHeartbeats 80000000
namespace Go.Proofs.YtdaoiceeidoehaaGreat
set_option maxRecDepth 100000
set_option linter.unusedVariables false
open Go.ChangeShapes Go.WideShapes Go.ChangeAt Go.RowKit
open Pl
theorem AP {x y:Al}:iq x y=true ↔ x=y:=by
 unfold iq;simp only [Bool.and_eq_true,beq_iff_eq];constructor
 ·rintro ⟨h0,h1⟩;obtain ⟨xa,xb⟩:=x;obtain ⟨ya,yb⟩:=y;simp only at h0 h1;rw [AL h0,AL h1]
 ·rintro rfl; simp
theorem xC (x y:Al):iq x y=iq y x:=by
 rw [Bool.eq_iff_iff,AP,AP];exact ⟨Eq.symm,Eq.symm⟩
theorem Ic (x y:Al) {v:Bool} (h:iq x y=v) (w:World) :
  (binOp .eql 40 (.agg #[.string x.t,.string x.s]) (.agg #[.string y.t,.string y.s])).run prog w=.ok (.bool v) w:=by
 subst h;go_simp;unfold iq
 (repeat' split) <;> simp_all
def gP (xs:List Al) (o:Al):Bool:=xs.any fun x=>iq x o
theorem FQ {xs:List Al} {o:Al} {k:Nat} (h:k < xs.length):gP (xs.take (k + 1)) o=(gP (xs.take k) o || iq xs[k] o):=by
 rw [List.take_succ_eq_append_getElem h];unfold gP;rw [List.any_append];simp only [List.any_cons,List.any_nil,Bool.or_false]
theorem Ie {xs:List Al} {o:Al} {k:Nat} (h:k < xs.length) (he:iq xs[k] o=true):gP xs o=true:=List.any_eq_true.2 ⟨xs[k],List.getElem_mem h,he⟩
theorem C9 (ad:Option Addr) (cap:Nat) (ts:List Al) (t:Al) (w:World) (hlen:ts.length≤1048576) (hs:fV w ad ts) :
  Calls prog 166 #[.slice ad ts.length cap,.agg #[.string t.t,.string t.s]] w fun e w'=>(∃ r:Int,e=.returned (.int .i64 r)∧decide (0≤r)=gP ts t)∧Below w.heap.size w w':=by
 obtain ⟨W,hW⟩:∃ W,W=w.alloc (.cells #[.string t.t,.string t.s] 40):=⟨_,rfl⟩;have HB0:Hid (Below w.heap.size w W):=by show Below _ _ _; rw [hW]; exact (Below.refl w.heap.size w).alloc (Nat.le_refl _) _
 have hz:w.heap.size < W.heap.size:=by rw [hW]; simp
 have b0:W.cell? ⟨w.heap.size,0,none⟩=some (.string t.t):=by rw [hW]; simp
 have b1:W.cell? ⟨w.heap.size,1,none⟩=some (.string t.s):=by rw [hW]; simp
 have HS:Hid (fV W ad ts):=hs.below HB0.out;clear hs;go_enter func166,ntmps166;go_wp2_with fail;rw [← hW];clear hW;go_loopw [8] (fun i wr=>∃ k:Nat,k≤ts.length∧i=.int .i64 k∧Hid (gP (ts.take k) t=false)∧Below W.heap.size W wr) (fun i _=>ts.length - (intOf i).toNat);case atStart=>exact ⟨0,Nat.zero_le _,rfl,rfl,Below.refl _ _⟩
 case round =>
  obtain ⟨k,hk,rfl,HP,hB⟩:=hrel;have a0:=aD hB hz b0;have a1:=aD hB hz b1;by_cases hlt:k < ts.length
  ·rcases HS.out.below hB with hnil | ⟨b,off,rfl,hb,hr⟩
   ·rw [hnil] at hlt; simp at hlt
   obtain ⟨t0,t1⟩:=hr k hlt;have hk1:=aY k;have hk2:(k:Int) < (ts.length:Int):=by omega
   clear hr;cases hq:iq t ts[k] with
   | true =>
    have HE:=Ic t ts[k] hq;have HN:Hid (gP ts t=true):=Ie hlt (by rw [xC]; exact hq);go_wp2_with fail;go_quiet (fail);go_wp2;go_ret;exact ⟨⟨_,rfl,by rw [HN.out]; simp⟩,HB0.out.trans (below_drewN (hB.mono HB0.out.size) _)⟩
   | false =>
    have HE:=Ic t ts[k] hq;have HP2:Hid (gP (ts.take (k + 1)) t=false):=by show _=_; rw [FQ hlt,HP.out,xC,hq]; rfl
    go_wp2_with fail;go_quiet (fail);go_wp2;go_roundw;case rel=>exact ⟨k + 1,by omega,by go_num,HP2,below_drewN hB _⟩
    case measure=>simp [intOf] <;> omega
  ·obtain rfl:k=ts.length:=by omega
   have HN:Hid (gP ts t=false):=by have:=HP.out; rw [List.take_length] at this; exact this
   go_wp2;go_ret;exact ⟨⟨-1,rfl,by rw [HN.out]; rfl⟩,HB0.out.trans (hB.mono HB0.out.size)⟩
theorem wF (ad:Option Addr) (cap:Nat) (ts:List Al) (t:Al) (w:World) (hlen:ts.length≤1048576) (hs:fV w ad ts) :
  Calls prog 150 #[.slice ad ts.length cap,.agg #[.string t.t,.string t.s]] w fun e w'=>e=.returned (.bool (gP ts t))∧Below w.heap.size w w':=by
 have HB0:Hid (Below w.heap.size w (w.alloc (.cells #[.string t.t,.string t.s] 40))):=(Below.refl w.heap.size w).alloc (Nat.le_refl _) _;have HS:=av hs;clear hs;go_enter func150,ntmps150;go_wp2_with fail;refine (C9 ad cap ts t _ hlen (HS.out.below HB0.out)).mono ?_;rintro e w1 ⟨⟨r,rfl,hr⟩,hb1⟩;have HR:=av hr;have HB1:=av (HB0.out.trans (hb1.mono HB0.out.size));clear hr hb1;go_wp2;go_ret;exact ⟨af HR.out,HB1.out⟩
def aL (xs:List Al) (o:Al):List Al:=if gP xs o then xs else xs ++ [o]
theorem uI:∃ i,prog.info? 40=some i∧i.zero=some (.agg #[.string ⟨#[]⟩,.string ⟨#[]⟩])∧i.size=2∧i.bytes=32 :=
 info_parts (P:=prog) (e:=40) (z:=.agg #[.string ⟨#[]⟩,.string ⟨#[]⟩]) (size:=2) (bytes:=32) (by kernel_rfl)
theorem iL {w:World} {base:Nat} {v:Value} {xs:List Al} (h:w.ownsRow base 40 2 v xs.length (pairs xs)):∃ ad cap,v=.slice ad xs.length cap∧fV w ad xs:=by
 rcases h.2 with ⟨rfl,h0⟩ | ⟨g,cap,cur,rfl,hbg,hg,hnc,-⟩
 ·exact ⟨none,0,by rw [h0],.inl (List.length_eq_zero_iff.1 h0)⟩
 ·refine ⟨_,cap,rfl,.inr ⟨g,0,rfl,(h.lt g rfl).2,fun i hi=>?_⟩⟩;obtain ⟨h0,h1⟩:=tZ xs i hi;have hl:=mO xs;refine ⟨?_,?_⟩
  ·rw [h.cellAt (0 + i * 2) (by omega),Nat.zero_add]; exact h0
  ·rw [h.cellAt (0 + i * 2 + 1) (by omega),Nat.zero_add]; exact h1
theorem jh (B:Nat) (v:Value) (xs:List Al) (o:Al) (w:World) (hlen:xs.length≤1000) (hB:B≤w.heap.size) (hown:w.ownsRow B 40 2 v xs.length (pairs xs)) :
  Calls prog 123 #[v,.agg #[.string o.t,.string o.s]] w fun e w'=>∃ v',e=.returned v'∧w'.ownsRow B 40 2 v' (aL xs o).length (pairs (aL xs o))∧Aside w v w' v'∧∀ B',(∀ g,v.ownBlock=some g→B'≤g)→B'≤w.heap.size→Below B' w w':=by
 obtain ⟨iO,h0,h1,h2,h3⟩:=uI;have HIO:=av (And.intro h0 (And.intro h1 (And.intro h2 h3)));obtain ⟨ad,cap,rfl,hsl⟩:=iL hown;obtain ⟨W,hW⟩:∃ W,W=w.alloc (.cells #[.string o.t,.string o.s] 40):=⟨_,rfl⟩;have HB0:Hid (Below w.heap.size w W):=by show Below _ _ _; rw [hW]; exact (Below.refl w.heap.size w).alloc (Nat.le_refl _) _
 have hz:w.heap.size < W.heap.size:=by rw [hW]; simp
 have b0:W.cell? ⟨w.heap.size,0,none⟩=some (.string o.t):=by rw [hW]; simp
 have b1:W.cell? ⟨w.heap.size,1,none⟩=some (.string o.s):=by rw [hW]; simp
 have HSL:=av hsl;have HO:=av hown;clear hsl hown h0 h1 h2 h3;go_enter func123,ntmps123;go_wp2_with fail;rw [← hW];clear hW;refine (wF ad cap xs o _ (by omega) (HSL.out.below HB0.out)).mono ?_;rintro e w1 ⟨rfl,hb1⟩;have HB1:=av (HB0.out.trans (hb1.mono HB0.out.size));have c0:=aD hb1 hz b0;have c1:=aD hb1 hz b1;have HO1:=av (aK HO.out HB1.out);have HA1:Hid (Aside w (.slice ad xs.length cap) w1 (.slice ad xs.length cap)):=Aside.below HB1.out;clear hb1 b0 b1;cases hh:gP xs o with
 | true =>
  have HW:Hid (aL xs o=xs):=by show _=_; unfold aL; rw [hh]; rfl
  go_wp2;go_ret;exact ⟨_,rfl,by rw [HW.out]; exact HO1.out,HA1.out,fun B' _ hB'=>HB1.out.mono hB'⟩
 | false =>
  have HW:Hid (aL xs o=xs ++ [o]):=by show _=_; unfold aL; rw [hh]; rfl
  obtain ⟨W2,hW2⟩:∃ W2,W2=w1.alloc (.cells #[.string o.t,.string o.s] 40):=⟨_,rfl⟩;have HO2:Hid (W2.ownsRow B 40 2 (.slice ad xs.length cap) xs.length (pairs xs)):=by show World.ownsRow _ _ _ _ _ _ _; rw [hW2]; exact HO1.out.alloc _
  have HA2:Hid (Aside w (.slice ad xs.length cap) W2 (.slice ad xs.length cap)):=by show Aside _ _ _ _; rw [hW2]; exact HA1.out.trans (Aside.below ((Below.refl _ _).alloc (Nat.le_refl _) _))
  have HBW2:Hid (Below w.heap.size w W2):=by show Below _ _ _; rw [hW2]; exact HB1.out.alloc HB1.out.size _
  have HN2:Hid (∀ j u,[Value.string o.t,.string o.s][j]?=some u→W2.cell? ((⟨w1.heap.size,0,none⟩:Addr).add j)=some u):=fun j u hu=>by
   rw [hW2]
   match j,hu with
   | 0,hu=>simp at hu; subst hu; simp [Addr.add]
   | 1,hu=>simp at hu; subst hu; simp [Addr.add]
  have hsz2:B≤W2.heap.size:=by have:=HB1.out.size; rw [hW2]; simp; omega
  clear hh;go_wp2_with (at_builtin; rw [← hW2]; clear hW2; refine wpList_append_own_at _ rfl _ _ 108 rfl B 40 iO (.agg #[.string ⟨#[]⟩,.string ⟨#[]⟩]) 2 32 underlying108 HIO.out.1 HIO.out.2.1 HIO.out.2.2.1 HIO.out.2.2.2 rfl (by decide) _ xs.length (pairs xs) rfl HO2.out ⟨w1.heap.size,0,none⟩ 1 1 [.string o.t,.string o.s] rfl rfl HN2.out (by simp [Value.oneCell']) (by unfold maxLen; omega) (by omega) hsz2 ?_);intro v' w3 hown hgr _ hat;have HE:Hid (w3.ownsRow B 40 2 v' (aL xs o).length (pairs (aL xs o))):=by
   show World.ownsRow _ _ _ _ _ _ _;rw [HW.out,List.length_append];have:pairs (xs ++ [o])=pairs xs ++ [.string o.t,.string o.s]:=by simp [pairs]
   rw [this]; exact hown
  have HA3:Hid (Aside w (.slice ad xs.length cap) w3 v'):=HA2.out.trans (Aside.app hgr hat);have HBL:Hid (∀ B',(∀ g,(Value.slice ad xs.length cap).ownBlock=some g→B'≤g)→B'≤w.heap.size→Below B' w w3):=fun B' hv hB'=>(HBW2.out.mono hB').grown hgr (Nat.le_trans hB' HBW2.out.size) hv;clear hown hgr hat;go_wp2;go_ret;exact ⟨_,rfl,HE.out,HA3.out,HBL.out⟩
open Go.Maps
def bI (fs:List Fc):List Value:=fs.flatMap Fc.row
theorem xD:∀ fs:List Fc,(bI fs).length=fs.length * 5
 | []=>rfl
 | f::fs=>by have:=xD fs; simp only [bI,List.flatMap_cons,List.length_append,List.length_cons,Fc.row,List.length_nil] at this ⊢; omega
theorem kz (fs:List Fc) (f:Fc):bI (fs ++ [f])=bI fs ++ f.row:=by simp [bI]
theorem AQ:∀ (fs:List Fc) (i:Nat) (h:i < fs.length) (c:Nat),c < 5→(bI fs)[i * 5 + c]?=fs[i].row[c]?
 | [],i,h,_,_=>by simp at h
 | f::fs,0,_,c,hc=>by
  simp only [bI,List.flatMap_cons,Nat.zero_mul,Nat.zero_add,List.getElem_cons_zero];rw [List.getElem?_append_left (by simp [Fc.row]; omega)]
 | f::fs,i + 1,h,c,hc=>by
  have ih:=AQ fs i (by simpa using h) c hc;simp only [bI,List.flatMap_cons,List.getElem_cons_succ] at ih ⊢;rw [List.getElem?_append_right (by simp [Fc.row]; omega)];have:(i + 1) * 5 + c - f.row.length=i * 5 + c:=by simp [Fc.row]; omega
  rw [this]; exact ih
theorem jG {w:World} {base:Nat} {v:Value} {fs:List Fc} (h:w.ownsRow base 42 5 v fs.length (bI fs)):∃ ad cap,v=.slice ad fs.length cap∧jq w ad fs:=by
 rcases h.2 with ⟨rfl,h0⟩ | ⟨g,cap,cur,rfl,hbg,hg,hnc,-⟩
 ·exact ⟨none,0,by rw [h0],.inl (List.length_eq_zero_iff.1 h0)⟩
 ·refine ⟨_,cap,rfl,.inr ⟨g,0,rfl,(h.lt g rfl).2,fun i hi=>?_⟩⟩;have hl:=xD fs;have hc:∀ c,c < 5→w.cell? ⟨g,0 + i * 5 + c,none⟩=fs[i].row[c]?:=fun c hc=>by
   rw [h.cellAt (0 + i * 5 + c) (by omega),Nat.zero_add]; exact AQ fs i hi c hc
  exact ⟨hc 0 (by omega),hc 1 (by omega),hc 2 (by omega),hc 3 (by omega),hc 4 (by omega)⟩
theorem pE:∃ i,prog.info? 42=some i∧i.zero=some (.agg #[.string ⟨#[]⟩,.string ⟨#[]⟩,.string ⟨#[]⟩,.string ⟨#[]⟩,.string ⟨#[]⟩])∧i.size=5∧i.bytes=80 :=
 info_parts (P:=prog) (e:=42) (z:=.agg #[.string ⟨#[]⟩,.string ⟨#[]⟩,.string ⟨#[]⟩,.string ⟨#[]⟩,.string ⟨#[]⟩]) (size:=5) (bytes:=80) (by kernel_rfl)
theorem AR (w:World) (f:Fc):∀ j u,f.row[j]?=some u→(w.alloc (.cells #[.string f.a,.string f.b,.string f.r,.string f.c,.string f.d] 42)).cell? ((⟨w.heap.size,0,none⟩:Addr).add j)=some u:=fun j u hu=>by
 match j,hu with
 | 0,hu=>simp [Fc.row] at hu; subst hu; simp [Addr.add]
 | 1,hu=>simp [Fc.row] at hu; subst hu; simp [Addr.add]
 | 2,hu=>simp [Fc.row] at hu; subst hu; simp [Addr.add]
 | 3,hu=>simp [Fc.row] at hu; subst hu; simp [Addr.add]
 | 4,hu=>simp [Fc.row] at hu; subst hu; simp [Addr.add]
structure OutI (w W wr:World) (v:Value) (out:List Fc):Prop where
 row:wr.ownsRow w.heap.size 42 5 v out.length (bI out)
 keep:∀ g o x,W.cell? ⟨g,o,none⟩=some x→wr.cell? ⟨g,o,none⟩=some x
 size:W.heap.size≤wr.heap.size
 bel:Below w.heap.size w wr
 free:∀ g,v.ownBlock=some g→∀ o,W.cell? ⟨g,o,none⟩=none
theorem ax {w:World} {g o:Nat} {x:Value} (h:w.cell? ⟨g,o,none⟩=some x):g < w.heap.size:=by
 unfold World.cell? at h;cases ho:w.heap[g]? with
 | none=>simp [ho] at h
 | some o=>exact (Array.getElem?_eq_some_iff.1 ho).1
theorem JN {w:World} {g o:Nat} (h:w.heap.size≤g):w.cell? ⟨g,o,none⟩=none:=by
 cases e:w.cell? ⟨g,o,none⟩ with
 | none=>rfl
 | some x=>have:=ax e; omega
theorem OutI.below {w W wr w':World} {v:Value} {out:List Fc} (h:OutI w W wr v out) (hb:Below wr.heap.size wr w'):OutI w W w' v out where
 row:=aK h.row hb
 keep g o x hx:=(hb.cell (p:=⟨g,o,none⟩) (ax (h.keep g o x hx))).trans (h.keep g o x hx)
 size:=Nat.le_trans h.size hb.size
 bel:=h.bel.trans (hb.mono h.bel.size)
 free:=h.free
theorem OutI.app {w W wr w':World} {v v':Value} {out:List Fc} {f:Fc} (h:OutI w W wr v out) (hown:w'.ownsRow w.heap.size 42 5 v' (out.length + 1) (bI out ++ f.row)) (hgr:wr.grownBy w' v.ownBlock) (hat:v'.ownBlock=v.ownBlock ∨ v'.ownBlock=some wr.heap.size):OutI w W w' v' (out ++ [f]) where
 row:=by rw [kz,List.length_append]; exact hown
 keep g o x hx:=by
  have h1:=h.keep g o x hx;refine (World.cell?_of_block (w:=wr) (a:=⟨g,o,none⟩) (hgr.block g (ax h1) fun e=>?_)).trans h1;rw [h.free g e.symm o] at hx;cases hx
 size:=Nat.le_trans h.size hgr.size
 bel:=h.bel.grown hgr h.bel.size (fun g hg=>(h.row.lt g hg).1)
 free g hg o:=by
  rcases hat with e | e
  ·rw [e] at hg; exact h.free g hg o
  ·rw [hg] at e; injection e with e; rw [e]; exact JN h.size
theorem fV.keepC {w w':World} {ad:Option Addr} {xs:List Al} (h:fV w ad xs) (hs:w.heap.size≤w'.heap.size) (hk:∀ g o x,w.cell? ⟨g,o,none⟩=some x→w'.cell? ⟨g,o,none⟩=some x):fV w' ad xs:=by
 rcases h with h | ⟨b,off,e,hb,hr⟩
 ·exact .inl h
 ·exact .inr ⟨b,off,e,Nat.lt_of_lt_of_le hb hs,fun i hi=>⟨hk _ _ _ (hr i hi).1,hk _ _ _ (hr i hi).2⟩⟩
theorem CO.keepC {w w':World} {ad:Option Addr} {xs:List St} (h:CO w ad xs) (hs:w.heap.size≤w'.heap.size) (hk:∀ g o x,w.cell? ⟨g,o,none⟩=some x→w'.cell? ⟨g,o,none⟩=some x):CO w' ad xs:=by
 rcases h with h | ⟨b,off,e,hb,hr⟩
 ·exact .inl h
 ·exact .inr ⟨b,off,e,Nat.lt_of_lt_of_le hb hs,fun i hi=>⟨hk _ _ _ (hr i hi).1,hk _ _ _ (hr i hi).2.1,hk _ _ _ (hr i hi).2.2⟩⟩
theorem CO.at0 {w:World} {ad:Option Addr} {xs:List St} (h:CO w ad xs) {k:Nat} (hk:k < xs.length):∃ b off,ad=some ⟨b,off,none⟩∧LM w b (off + k * 3) xs[k]∧b < w.heap.size:=by
 rcases h with h | ⟨b',off',e,hb,hr⟩
 ·rw [h] at hk; simp at hk
 ·exact ⟨b',off',e,hr k hk,hb⟩
def K4:Value→Nat
 | .slice _ n _=>n
 | _=>0
def Mw:Value→Nat
 | .bool true=>1
 | _=>0
def JO (v:Value):Option (DataW Value × List MemPlace):=some (.held v,[])
section
variable {K:Type} (enc:K→Value) (P:Program) (k:TypeId)
def K5 (D:DataW Value) (kl:Lit):Option Value→Prop
 | none=>Maps.has D kl=false∧∀ z,D.atKey kl z=z
 | some v=>Maps.has D kl=true∧∀ z,D.atKey kl z=.held v
def aB (w:World) (b n:Nat) (M:K→Option Value):Prop :=
 ∃ D:DataW Value,w.ownsMap P k JO b n D∧∀ x kl,keyOf P k (enc x)=some kl→K5 D kl (M x)
def iU [DecidableEq K] (M:K→Option Value) (x:K) (v:Option Value):K→Option Value:=fun y=>if y=x then v else M y
end
section
variable {K:Type} {enc:K→Value} {P:Program} {k:TypeId} {w:World} {b n:Nat} {M:K→Option Value}
theorem dh [DecidableEq K] (M:K→Option Value) (x:K) (v:Option Value):iU M x v x=v:=by simp [iU]
theorem bf [DecidableEq K] {M:K→Option Value} {x y:K} {v:Option Value} (h:y ≠ x):iU M x v y=M y:=by simp [iU,h]
theorem iA (enc:K→Value) (P:Program) (k:TypeId) (w:World):aB enc P k (w.alloc (.map #[] 0)) w.heap.size 0 (fun _=>none) :=
 ⟨.map [],World.ownsMap_made w P k JO,fun _ kl _=>⟨rfl,fun z=>by simp [DataW.atKey]⟩⟩
theorem aB.lt (h:aB enc P k w b n M):b < w.heap.size:=by obtain ⟨D,h1,-⟩:=h; exact h1.lt
theorem aB.mono (h:aB enc P k w b n M) {n':Nat} (hn:n≤n'):aB enc P k w b n' M:=by obtain ⟨D,h1,h2⟩:=h; exact ⟨D,h1.mono hn,h2⟩
theorem aB.kept {w':World} {row:Option Nat} (h:aB enc P k w b n M) (hg:w.grownBy w' row) (hne:some b ≠ row):aB enc P k w' b n M:=by
 obtain ⟨D,h1,h2⟩:=h; exact ⟨D,h1.kept hg hne,h2⟩
theorem aB.below {w':World} (h:aB enc P k w b n M) (hB:Below w.heap.size w w'):aB enc P k w' b n M :=
 h.kept (row:=none) ⟨hB.os,hB.tape,hB.output,hB.size,fun k hk _=>hB.block k hk⟩ (by simp)
theorem aB.setCell (h:aB enc P k w b n M) {a:Addr} (ha:b ≠ a.block) (u:Value):aB enc P k (w.setCell a u) b n M:=by
 obtain ⟨D,h1,h2⟩:=h; exact ⟨D,h1.setCell ha u,h2⟩
theorem aB.look {t e:TypeId} (h:aB enc P k w b n M) (L:Keyed P k) (ht:P.underlying t=some (.map k e)) {z:Value} (hz:(zeroValue e).run P w=.ok z w) {x:K} {kl:Lit} (hkey:keyOf P k (enc x)=some kl) :
  (Instr.lookup t (.map (some b)) (enc x) false).run P w=.ok ((M x).getD z) w:=by
 obtain ⟨D,h1,h2⟩:=h;obtain ⟨v,ps,hrun,hv⟩:=h1.lookup L ht hz (zd:=.held z) (zp:=[]) rfl hkey;have h3:=h2 x kl hkey;rw [hrun];have:v=(M x).getD z:=by
  simp only [JO,Option.some.injEq,Prod.mk.injEq] at hv;cases e:M x with
  | none=>rw [e] at h3; rw [h3.2] at hv; injection hv.1 with h4
  | some u=>rw [e] at h3; rw [h3.2] at hv; injection hv.1 with h4
 rw [this]
theorem aB.look_ok {t e:TypeId} (h:aB enc P k w b n M) (L:Keyed P k) (ht:P.underlying t=some (.map k e)) {z:Value} (hz:(zeroValue e).run P w=.ok z w) {x:K} {kl:Lit} (hkey:keyOf P k (enc x)=some kl) :
  (Instr.lookup t (.map (some b)) (enc x) true).run P w=.ok (.tuple #[(M x).getD z,.bool (M x).isSome]) w:=by
 obtain ⟨D,h1,h2⟩:=h;obtain ⟨v,ps,hrun,hv⟩:=h1.look_ok L ht hz (zd:=.held z) (zp:=[]) rfl hkey;have h3:=h2 x kl hkey;rw [hrun];simp only [JO,Option.some.injEq,Prod.mk.injEq] at hv;cases e:M x with
 | none=>rw [e] at h3; rw [h3.2] at hv; injection hv.1 with h4; rw [h4,h3.1]; rfl
 | some u=>rw [e] at h3; rw [h3.2] at hv; injection hv.1 with h4; rw [h4,h3.1]; rfl
theorem aB.store [DecidableEq K] {t e:TypeId} (h:aB enc P k w b n M) (L:Keyed P k) (hinj:∀ x y,enc x=enc y→x=y) (ht:P.underlying t=some (.map k e)) (hn:n < maxLen) {x:K} {kl:Lit} (hkey:keyOf P k (enc x)=some kl) (v:Value) :
  ∃ w',(Instr.mapUpdate t (.map (some b)) (enc x) v).run P w=.ok () w'∧aB enc P k w' b (n + 1) (iU M x (some v))∧w.grownBy w' (some b):=by
 obtain ⟨D,h1,h2⟩:=h;obtain ⟨w',hrun,h3,h4⟩:=h1.update L ht hn hkey (val:=v) (d:=.held v) (ps:=[]) rfl;refine ⟨w',hrun,⟨D.put kl (.held v),h3,fun y ky hy=>?_⟩,h4⟩;by_cases e:y=x
 ·subst e;obtain rfl:ky=kl:=by rw [hkey] at hy; injection hy with hy; exact hy.symm
  rw [dh];exact ⟨has_put_same h1.isMap (L.key hkey) _,fun z=>atKey_put_same h1.isMap (L.key hkey) _ z⟩
 ·have hne:ky ≠ kl:=fun e2=>e (hinj _ _ (L.inj (by rw [e2] at hy; exact hy) hkey));rw [bf e];have h5:=h2 y ky hy;cases e3:M y with
  | none=>rw [e3] at h5; exact ⟨by rw [has_put_other hne]; exact h5.1,fun z=>by rw [atKey_put_other hne]; exact h5.2 z⟩
  | some u=>rw [e3] at h5; exact ⟨by rw [has_put_other hne]; exact h5.1,fun z=>by rw [atKey_put_other hne]; exact h5.2 z⟩
end
section
variable {K:Type} {enc:K→Value} {P:Program} (w:World) {ops:Array Oper} {rest:List Oper} {o:Oper} {a:Act} {Q:Exit→Act→World→Prop}
theorem gY (hg:o.guard=none) (m x:Operand) (t:TypeId) (hop:o.op=Op.lookup t m x false) (k e:TypeId) (L:Keyed P k) (ht:P.underlying t=some (.map k e)) {z:Value} (hz:(zeroValue e).run P w=.ok z w) (b n:Nat) (M:K→Option Value)
  (hm:a.eval m=.map (some b)) (hV:aB enc P k w b n M) (y:K) (kl:Lit) (hx:a.eval x=enc y) (hkey:keyOf P k (enc y)=some kl)
  (hK:wpList P ops Q rest (a.put o.dst ((M y).getD z)) w):wpList P ops Q (o::rest) a w:=by
 refine wpList_plain hg fun K' hK'=>?_;have hrun:=hV.look L ht hz hkey;unfold Oper.wp;simp [execOp,hop,hm,hx,hrun,Result.andThen];exact hK' _ _ hK
theorem cu (hg:o.guard=none) (m x:Operand) (t:TypeId) (hop:o.op=Op.lookup t m x true) (k e:TypeId) (L:Keyed P k) (ht:P.underlying t=some (.map k e)) {z:Value} (hz:(zeroValue e).run P w=.ok z w) (b n:Nat) (M:K→Option Value)
  (hm:a.eval m=.map (some b)) (hV:aB enc P k w b n M) (y:K) (kl:Lit) (hx:a.eval x=enc y) (hkey:keyOf P k (enc y)=some kl)
  (hK:wpList P ops Q rest (a.put o.dst (.tuple #[(M y).getD z,.bool (M y).isSome])) w):wpList P ops Q (o::rest) a w:=by
 refine wpList_plain hg fun K' hK'=>?_;have hrun:=hV.look_ok L ht hz hkey;unfold Oper.wp;simp [execOp,hop,hm,hx,hrun,Result.andThen];exact hK' _ _ hK
theorem gm [DecidableEq K] (hg:o.guard=none) (m x v:Operand) (t:TypeId) (hop:o.op=Op.mapUpdate t m x v) (k e:TypeId) (L:Keyed P k) (hinj:∀ x y,enc x=enc y→x=y) (ht:P.underlying t=some (.map k e)) (b n:Nat) (M:K→Option Value)
  (hm:a.eval m=.map (some b)) (hV:aB enc P k w b n M) (hn:n < maxLen) (y:K) (kl:Lit) (hx:a.eval x=enc y) (hkey:keyOf P k (enc y)=some kl) (u:Value) (hv:a.eval v=u)
  (hK:∀ w',aB enc P k w' b (n + 1) (iU M y (some u))→w.grownBy w' (some b)→wpList P ops Q rest (a.put o.dst undef) w'):wpList P ops Q (o::rest) a w:=by
 refine wpList_plain hg fun K' hK'=>?_;obtain ⟨w',hrun,r1,r2⟩:=hV.store L hinj ht hn hkey u;unfold Oper.wp;simp [execOp,hop,hm,hx,hv,hrun,Result.andThen];exact hK' _ _ (hK w' r1 r2)
end
def Fc.fits (t:Fc):Prop:=t.a.size≤maxLen∧t.b.size≤maxLen∧t.r.size≤maxLen∧t.c.size≤maxLen∧t.d.size≤maxLen
def fT (k:Fc):Value:=.agg #[.string k.a,.string k.b,.string k.r,.string k.c,.string k.d]
theorem uJ (x y:Fc) (h:fT x=fT y):x=y:=by
 unfold fT at h;injection h with h;have h1:=congrArg Array.toList h;simp at h1;obtain ⟨xa,xb,xr,xc,xd⟩:=x;obtain ⟨ya,yb,yr,yc,yd⟩:=y;simp only at h1;obtain ⟨rfl,rfl,rfl,rfl,rfl⟩:=h1;rfl
theorem Ig:laidOutB prog=true:=by kernel_rfl
theorem K6:(42:TypeId) < prog.types.size:=of_decide_eq_true (by kernel_rfl)
theorem JP:(match prog.underlying 42 with | some (.array _ _) | some (.struct _)=>true | _=>false)=true:=by rw [underlying42]
set_option maxRecDepth 100000 in
theorem JQ:WideMaps.KeyLaw prog 42:=deep_law_laid Ig (m:=3) (by omega) K6 (by kernel_rfl) JP
theorem yZ:Keyed prog 42:=Keyed.of_law JQ
theorem JR:prog.keyType 42=true:=by kernel_rfl
theorem AU:prog.cellsOf 42=5:=by kernel_rfl
theorem FR:prog.cellsOf 40=2:=by kernel_rfl
theorem FT:prog.cellsOf 9=1:=by kernel_rfl
theorem FU:2≤prog.types.size:=of_decide_eq_true (by kernel_rfl)
theorem Da:∃ n,prog.types.size=n + 2:=⟨prog.types.size - 2,by have:=FU; omega⟩
set_option maxRecDepth 100000 in
theorem pF (k:Fc) (h:k.fits):∃ kl,keyOf prog 42 (fT k)=some kl:=by
 obtain ⟨n,hn⟩:=Da;obtain ⟨h0,h1,h2,h3,h4⟩:=h;refine ⟨.string (keyBytes [.string k.a.data.toList,.string k.b.data.toList,.string k.r.data.toList,.string k.c.data.toList,.string k.d.data.toList]),?_⟩;unfold keyOf;rw [underlying42];simp only [JR,fT,Value.formed,underlying42,AU,hn,Value.cells];simp +decide [Program.keyLits,underlying42,underlying40,underlying9,AU,FR,FT,h0,h1,h2,h3,h4]
theorem Ih (w:World):(zeroValue 90).run prog w=.ok (.agg #[]) w:=by kernel_rfl
theorem AV (b n:Nat) (M:Fc→Option Value) (f:Fc) (w:World) (hf:f.fits) (hV:aB fT prog 42 w b n M) (hM:∀ v,M f=some v→v=.agg #[]) :
  Calls prog 41 #[.map (some b),.agg #[.string f.a,.string f.b,.string f.r,.string f.c,.string f.d]] w fun e w'=>e=.returned (.bool (M f).isSome)∧Below w.heap.size w w':=by
 obtain ⟨kl,hkl⟩:=pF f hf;have HKL:Hid (keyOf prog 42 (fT f)=some kl):=hkl;have HM:Hid ((M f).getD (.agg #[])=.agg #[]):=by
  show _=_;cases e:M f with
  | none=>rfl
  | some v=>exact hM v e
 obtain ⟨W,hW⟩:∃ W,W=w.alloc (.cells #[.string f.a,.string f.b,.string f.r,.string f.c,.string f.d] 42):=⟨_,rfl⟩;have HB:=nX hW;have HV:Hid (aB fT prog 42 W b n M):=hV.below HB.out;have HB2:Hid (Below w.heap.size w (W.alloc (.cells #[] 90))):=HB.out.alloc HB.out.size _;clear hkl hV hM;go_enter func41,ntmps41;go_wp2_with (at_lookup; rw [← hW]; clear hW; refine cu _ rfl _ _ 84 rfl 42 90 yZ underlying84 (Ih _) b n M rfl HV.out f kl rfl HKL.out ?_; rw [HM.out]);go_ret;exact ⟨rfl,HB2.out⟩
def bn (k:ByteArray × ByteArray):Value:=.agg #[.string k.1,.string k.2]
theorem lX (x y:ByteArray × ByteArray) (h:bn x=bn y):x=y:=by
 unfold bn at h;injection h with h;have h1:=congrArg Array.toList h;simp at h1;exact Prod.ext h1.1 h1.2
theorem uK:laidOutB prog=true:=by kernel_rfl
theorem Ii:(130:TypeId) < prog.types.size:=of_decide_eq_true (by kernel_rfl)
theorem JS:(match prog.underlying 130 with | some (.array _ _) | some (.struct _)=>true | _=>false)=true:=by rw [underlying130]
set_option maxRecDepth 100000 in
theorem za:WideMaps.KeyLaw prog 130:=deep_law_laid uK (m:=2) (by omega) Ii (by kernel_rfl) JS
theorem fU:Keyed prog 130:=Keyed.of_law za
theorem JU:prog.keyType 130=true:=by kernel_rfl
theorem AX:prog.cellsOf 130=2:=by kernel_rfl
theorem strCells:prog.cellsOf 9=1:=by kernel_rfl
theorem FV:∃ n,prog.types.size=n + 1:=Nat.exists_eq_succ_of_ne_zero (Nat.ne_of_gt (Nat.lt_of_le_of_lt (Nat.zero_le _) Ii))
theorem gp (k:ByteArray × ByteArray) (h1:k.1.size≤maxLen) (h2:k.2.size≤maxLen):∃ kl,keyOf prog 130 (bn k)=some kl:=by
 obtain ⟨n,hn⟩:=FV;refine ⟨.string (keyBytes [.string k.1.data.toList,.string k.2.data.toList]),?_⟩;unfold keyOf;rw [underlying130];simp only [JU,bn,Value.formed,underlying130,AX,hn,Value.cells];simp [Program.keyLits,underlying130,underlying9,AX,strCells,h1,h2]
open Go.ChangeMaps (setBlock heap_setBlock_same heap_setBlock_other)
section
variable {K:Type} {enc:K→Value} {P:Program} {k:TypeId} {w:World} {b n:Nat} {M:K→Option Value}
theorem aB.of_block {w':World} (h:aB enc P k w b n M) (e:w'.heap[b]?=w.heap[b]?):aB enc P k w' b n M:=by
 obtain ⟨D,⟨es,clock,hb,r⟩,h2⟩:=h;exact ⟨D,⟨es,clock,e.trans hb,r⟩,h2⟩
theorem lY {w:World} {b:Nat} {es es':Array MapEntry} {c c':Nat} (hb:w.heap[b]?=some (.map es c)):w.grownBy (setBlock w b (.map es' c')) (some b) :=
 ⟨rfl,rfl,rfl,by simp [setBlock],fun i _ hi=>heap_setBlock_other hb _ (fun e=>hi (by rw [e]))⟩
theorem aB.entry [DecidableEq K] {t e:TypeId} (h:aB enc P k w b n M) (L:WideMaps.KeyLaw P k) (hinj:∀ x y,enc x=enc y→x=y) (ht:P.underlying t=some (.map k e)) {z:Value} (hz:∀ u:World,(zeroValue e).run P u=.ok z u) (hn:n < maxLen) {x:K} {kl:Lit} (hkey:keyOf P k (enc x)=some kl) :
  ∃ (st:Nat) (w1:World),(Instr.mapEntry t (.map (some b)) (enc x)).run P w=.ok (.tuple #[(M x).getD z,goInt st]) w1∧w.grownBy w1 (some b) ∧
   ∀ (w2:World) (val:Value),w2.heap[b]?=w1.heap[b]?→∃ w3,(Instr.entryStore t (.map (some b)) (goInt st) val).run P w2=.ok () w3∧aB enc P k w3 b (n + 1) (iU M x (some val))∧w2.grownBy w3 (some b):=by
 have LK:=Keyed.of_law L;have hlook:=h.look LK ht (hz w) hkey;have hst:=fun v=>h.store LK hinj ht hn hkey v;obtain ⟨D,⟨es,clock,hb,F,hs,hD⟩,h2⟩:=h;obtain ⟨v0,st,es1,clock1,hrun,hv0,hback⟩:=WideElems.entry_then_store L ht hz hb F hkey;have hb1:(setBlock w b (.map es1 clock1)).heap[b]?=some (.map es1 clock1):=heap_setBlock_same hb _;have ev:v0=(M x).getD z:=by
  have hl:=hlook;rcases Maps.fit_look false LK ht (hz w) hb F hkey with ⟨hrun2,hno,-⟩ | ⟨e0,y,hmem,hek,hrun2,-,-,-⟩
  ·rw [hl] at hrun2;injection hrun2 with e1;rcases hv0 with ⟨e0,hm,hk0,-⟩ | ⟨-,hz0⟩
   ·exact absurd hk0 (hno e0 hm)
   ·rw [hz0,e1]; rfl
  ·rw [hl] at hrun2;injection hrun2 with e1;rcases hv0 with ⟨e1',hm,hk0,hv⟩ | ⟨hno,-⟩
   ·have hnd:=F.stamped.2.2;have:e1'=e0:=by
     have h3:e1'.key=e0.key:=by rw [hk0,hek]
     obtain ⟨i,hi,hie⟩:=List.mem_iff_getElem.1 hm;obtain ⟨j,hj,hje⟩:=List.mem_iff_getElem.1 hmem;have h4:(es.toList.map (·.key))[i]'(by simpa using hi)=(es.toList.map (·.key))[j]'(by simpa using hj):=by simp only [List.getElem_map,hie,hje]; exact h3
     have h6:=List.pairwise_iff_getElem.1 hnd;have h5:i=j:=by
      rcases Nat.lt_trichotomy i j with hl | hl | hl
      ·exact absurd h4 (h6 i j _ _ hl)
      ·exact hl
      ·exact absurd h4.symm (h6 j i _ _ hl)
     subst h5;rw [← hie,← hje]
    rw [hv,this,e1]; rfl
   ·exact absurd hek (hno e0 hmem)
 refine ⟨st,_,by rw [hrun,ev],lY hb,fun w2 val hw2=>?_⟩;have hw2':w2.heap[b]?=some (.map es1 clock1):=hw2.trans hb1;obtain ⟨es',clock',hr1,hr2⟩:=hback w2 val hw2';obtain ⟨w',hr3,hM',-⟩:=hst val;rw [hr2] at hr3;injection hr3 with _ e3;refine ⟨_,hr1,hM'.of_block ?_,lY hw2'⟩;rw [← e3,heap_setBlock_same hb,heap_setBlock_same hw2']
end
section
variable {K:Type} {enc:K→Value} {P:Program} (w:World) {ops:Array Oper} {rest:List Oper} {o:Oper} {a:Act} {Q:Exit→Act→World→Prop}
theorem nH [DecidableEq K] (hg:o.guard=none) (m x:Operand) (t:TypeId) (hop:o.op=Op.mapEntry t m x) (k e:TypeId) (L:WideMaps.KeyLaw P k) (hinj:∀ x y,enc x=enc y→x=y) (ht:P.underlying t=some (.map k e)) {z:Value} (hz:∀ u:World,(zeroValue e).run P u=.ok z u) (b n:Nat) (M:K→Option Value)
  (hm:a.eval m=.map (some b)) (hV:aB enc P k w b n M) (hn:n < maxLen) (y:K) (kl:Lit) (hx:a.eval x=enc y) (hkey:keyOf P k (enc y)=some kl)
  (hK:∀ (st:Nat) (w1:World),w.grownBy w1 (some b)→(∀ (w2:World) (val:Value),w2.heap[b]?=w1.heap[b]?→∃ w3,(Instr.entryStore t (.map (some b)) (goInt st) val).run P w2=.ok () w3∧aB enc P k w3 b (n + 1) (iU M y (some val))∧w2.grownBy w3 (some b)) →
   wpList P ops Q rest (a.put o.dst (.tuple #[(M y).getD z,goInt st])) w1):wpList P ops Q (o::rest) a w:=by
 refine wpList_plain hg fun K' hK'=>?_;obtain ⟨st,w1,hrun,h1,h2⟩:=hV.entry L hinj ht hz hn hkey;unfold Oper.wp;simp [execOp,hop,hm,hx,hrun,Result.andThen];exact hK' _ _ (hK st w1 h1 h2)
theorem ji (hg:o.guard=none) (m s v:Operand) (t:TypeId) (hop:o.op=Op.entryStore t m s v) (b st:Nat) (hm:a.eval m=.map (some b)) (hs:a.eval s=goInt st) (u:Value) (hv:a.eval v=u) (k:TypeId) (n:Nat) (M:K→Option Value)
  (hback:∃ w3,(Instr.entryStore t (.map (some b)) (goInt st) u).run P w=.ok () w3∧aB enc P k w3 b n M∧w.grownBy w3 (some b))
  (hK:∀ w',aB enc P k w' b n M→w.grownBy w' (some b)→wpList P ops Q rest (a.put o.dst undef) w'):wpList P ops Q (o::rest) a w:=by
 refine wpList_plain hg fun K' hK'=>?_;obtain ⟨w3,hrun,h1,h2⟩:=hback;unfold Oper.wp;simp [execOp,hop,hm,hs,hv,hrun,Result.andThen];exact hK' _ _ (hK w3 h1 h2)
end
end Go.Proofs.YtdaoiceeidoehaaGreat
namespace Go.Proofs.YtdaoiceeidoehaaGreat.G
open Go.ChangeShapes Go.WideShapes Go.ChangeAt Go.RowKit Go.Maps
open Pl
variable {K α:Type} {enc:K→Value} {P:Program} {kt et:TypeId} {sz:Nat} {cl:α→List Value}
def FreeB (M:K→Option Value) (g:Nat):Prop:=∀ k v,M k=some v→v.ownBlock ≠ some g
structure Stl (W:World) (M:K→Option Value) (w2:World) (M2:K→Option Value) (bL:Nat):Prop where
 size:W.heap.size≤w2.heap.size
 block:∀ g,g < W.heap.size→g ≠ bL→FreeB M g→w2.heap[g]?=W.heap[g]?
 free:∀ g,g < W.heap.size→FreeB M g→FreeB M2 g
theorem Stl.refl (W:World) (M:K→Option Value) (bL:Nat):Stl W M W M bL:=⟨Nat.le_refl _,fun _ _ _ _=>rfl,fun _ _ h=>h⟩
theorem Stl.trans {W w2 w3:World} {M M2 M3:K→Option Value} {bL:Nat} (h:Stl W M w2 M2 bL) (h2:Stl w2 M2 w3 M3 bL):Stl W M w3 M3 bL where
 size:=Nat.le_trans h.size h2.size
 block g hg hb hf:=(h2.block g (Nat.lt_of_lt_of_le hg h.size) hb (h.free g hg hf)).trans (h.block g hg hb hf)
 free g hg hf:=h2.free g (Nat.lt_of_lt_of_le hg h.size) (h.free g hg hf)
theorem Stl.below {W w2:World} {M:K→Option Value} {bL:Nat} (hB:Below W.heap.size W w2):Stl W M w2 M bL:=⟨hB.size,fun g hg _ _=>hB.block g hg,fun _ _ h=>h⟩
structure Cel (w:World) (M:K→Option Value) (bL g o:Nat) (u:Value):Prop where
 cell:w.cell? ⟨g,o,none⟩=some u
 lt:g < w.heap.size
 free:FreeB M g
 ne:g ≠ bL
theorem Cel.stl {w w2:World} {M M2:K→Option Value} {bL g o:Nat} {u:Value} (h:Cel w M bL g o u) (hS:Stl w M w2 M2 bL):Cel w2 M2 bL g o u where
 cell:=(World.cell?_of_block (w:=w) (hS.block g h.lt h.ne h.free)).trans h.cell
 lt:=Nat.lt_of_lt_of_le h.lt hS.size
 free:=hS.free g h.lt h.free
 ne:=h.ne
theorem Db {w w':World} {base:Nat} {e:TypeId} {size:Nat} {v:Value} {n:Nat} {xs:List Value} (h:w.ownsRow base e size v n xs) (hb:Below w.heap.size w w'):w'.ownsRow base e size v n xs:=by
 have hl:=fun g hg=>(h.lt g hg).2;refine ⟨h.1,?_⟩;rcases h.2 with h0 | ⟨g,cap,cur,rfl,h1,h2,h3⟩
 ·exact .inl h0
 ·exact .inr ⟨g,cap,cur,rfl,h1,(hb.block g (hl g rfl)).trans h2,h3⟩
variable [DecidableEq K]
def flatG (cl:α→List Value) (xs:List α):List Value:=xs.flatMap cl
theorem Dc (cl:α→List Value) (xs:List α) (x:α):flatG cl (xs ++ [x])=flatG cl xs ++ cl x:=by simp [flatG]
def lookL (E:List (K × α)) (k:K):List α:=E.filterMap fun p=>if p.1=k then some p.2 else none
theorem lookL_append (E F:List (K × α)) (k:K):lookL (E ++ F) k=lookL E k ++ lookL F k:=by unfold lookL; rw [List.filterMap_append]
theorem ou (E:List (K × α)) (k:K) (s:α):lookL (E ++ [(k,s)]) k=lookL E k ++ [s]:=by rw [lookL_append]; simp [lookL]
theorem lZ (E:List (K × α)) {k y:K} (s:α) (h:k ≠ y):lookL (E ++ [(y,s)]) k=lookL E k:=by rw [lookL_append]; simp [lookL,Ne.symm h]
theorem mem_lookL {E:List (K × α)} {k:K} {s:α}:s ∈ lookL E k ↔ (k,s) ∈ E:=by
 unfold lookL;rw [List.mem_filterMap];constructor
 ·rintro ⟨⟨a,b⟩,h1,h2⟩;simp only at h2;split at h2
  ·rename_i e; injection h2 with h2; rw [← e,← h2]; exact h1
  ·cases h2
 ·intro h; exact ⟨(k,s),h,by simp⟩
structure Grp (enc:K→Value) (P:Program) (kt et:TypeId) (sz:Nat) (cl:α→List Value) (w:World) (bL n:Nat) (M:K→Option Value) (E:List (K × α)):Prop where
 map:aB enc P kt w bL n M
 row:∀ k,(M k=none∧lookL E k=[]) ∨ ∃ v,M k=some v∧w.ownsRow (bL + 1) et sz v (lookL E k).length (flatG cl (lookL E k))
 apart:∀ k k' v v',k ≠ k'→M k=some v→M k'=some v'→∀ g,v.ownBlock=some g→v'.ownBlock ≠ some g
theorem Grp.lt {w:World} {bL n:Nat} {M:K→Option Value} {E:List (K × α)} (h:Grp enc P kt et sz cl w bL n M E) {k:K} {v:Value} (hk:M k=some v) {g:Nat} (hg:v.ownBlock=some g):bL < g∧g < w.heap.size:=by
 rcases h.row k with ⟨e,-⟩ | ⟨v',e,ho⟩
 ·rw [e] at hk; cases hk
 ·rw [e] at hk; injection hk with hk; subst hk;have:=ho.lt g hg;exact ⟨by omega,this.2⟩
theorem Grp.fresh {w:World} {bL n:Nat} {M:K→Option Value} {E:List (K × α)} (h:Grp enc P kt et sz cl w bL n M E) {g:Nat} (hg:w.heap.size≤g):FreeB M g:=fun k v hk e=>by
 have:=(h.lt hk e).2; omega
theorem Grp.mono {w:World} {bL n n':Nat} {M:K→Option Value} {E:List (K × α)} (h:Grp enc P kt et sz cl w bL n M E) (hn:n≤n'):Grp enc P kt et sz cl w bL n' M E:=⟨h.map.mono hn,h.row,h.apart⟩
theorem Grp.below {w w':World} {bL n:Nat} {M:K→Option Value} {E:List (K × α)} (h:Grp enc P kt et sz cl w bL n M E) (hB:Below w.heap.size w w'):Grp enc P kt et sz cl w' bL n M E where
 map:=h.map.below hB
 row k:=by
  rcases h.row k with e | ⟨v,e,ho⟩
  ·exact .inl e
  ·exact .inr ⟨v,e,Db ho hB⟩
 apart:=h.apart
theorem grp_made (w:World):Grp enc P kt et sz cl (w.alloc (.map #[] 0)) w.heap.size 0 (fun _=>none) [] where
 map:=iA _ _ _ w
 row k:=.inl ⟨rfl,rfl⟩
 apart k k' v v' _ h:=by cases h
theorem Grp.step {W0 w1 w2 w3:World} {bL n:Nat} {M:K→Option Value} {E:List (K × α)} {y:K} {v':Value} {s:α} (h:Grp enc P kt et sz cl W0 bL n M E) (hg1:W0.grownBy w1 (some bL)) (hown:w2.ownsRow (bL + 1) et sz v' ((lookL E y).length + 1) (flatG cl (lookL E y) ++ cl s))
  (hg2:w1.grownBy w2 ((M y).getD (.slice none 0 0)).ownBlock) (hloc:v'.ownBlock=((M y).getD (.slice none 0 0)).ownBlock ∨ v'.ownBlock=some w1.heap.size) (hg3:w2.grownBy w3 (some bL)) (hM:aB enc P kt w3 bL (n + 1) (iU M y (some v'))) :
  Grp enc P kt et sz cl w3 bL (n + 1) (iU M y (some v')) (E ++ [(y,s)])∧Stl W0 M w3 (iU M y (some v')) bL:=by
 have hrow0:∀ k v,M k=some v→∃ xs m,W0.ownsRow (bL + 1) et sz v m xs:=fun k v hk=>by
  rcases h.row k with ⟨e,-⟩ | ⟨v1,e,ho⟩
  ·rw [e] at hk; cases hk
  ·rw [e] at hk; injection hk with hk; subst hk; exact ⟨_,_,ho⟩
 have hne2:∀ k v,k ≠ y→M k=some v→v.ownBlock=none ∨ v.ownBlock ≠ ((M y).getD (.slice none 0 0)).ownBlock:=fun k v hky hk=>by
  cases e:v.ownBlock with
  | none=>exact .inl rfl
  | some g =>
   right;cases ey:M y with
   | none=>simp [Value.ownBlock]
   | some vy=>intro e2; exact h.apart k y v vy hky hk ey g e (by simpa using e2.symm)
 have hnb:∀ v,(∃ k,M k=some v)→v.ownBlock=none ∨ v.ownBlock ≠ some bL:=fun v ⟨k,hk⟩=>by
  cases e:v.ownBlock with
  | none=>exact .inl rfl
  | some g=>right; have:=(h.lt hk e).1; intro e2; injection e2 with e2; omega
 have hnew:∀ g,v'.ownBlock=some g→bL < g:=fun g e=>by have:=(hown.lt g e).1; omega
 have hv'b:v'.ownBlock=none ∨ v'.ownBlock ≠ some bL:=by
  cases e:v'.ownBlock with
  | none=>exact .inl rfl
  | some g=>right; have:=hnew g e; intro e2; injection e2 with e2; omega
 constructor
 ·refine ⟨hM,fun k=>?_,fun k k' v u hkk hk hk' g e=>?_⟩
  ·by_cases ek:k=y
   ·subst ek;rw [dh,ou];refine .inr ⟨v',rfl,?_⟩;rw [Dc,List.length_append];exact hown.kept hg3 hv'b
   ·rw [bf ek,lZ _ _ ek];rcases h.row k with e | ⟨v,e,ho⟩
    ·exact .inl e
    ·exact .inr ⟨v,e,((ho.kept hg1 (hnb v ⟨k,e⟩)).kept hg2 (hne2 k v ek e)).kept hg3 (hnb v ⟨k,e⟩)⟩
  ·by_cases ek:k=y
   ·subst ek;rw [dh] at hk; injection hk with hk; subst hk;rw [bf (Ne.symm hkk)] at hk';intro e2;rcases hloc with el | el
    ·rw [e] at el;cases ey:M k with
     | none=>rw [ey] at el; simp [Value.ownBlock] at el
     | some vy=>rw [ey] at el; exact h.apart k k' vy u hkk ey hk' g (by simpa using el.symm) e2
    ·rw [e] at el; injection el with el;have:=(h.lt hk' e2).2;have:=hg1.size;omega
   ·rw [bf ek] at hk;by_cases ek':k'=y
    ·subst ek';rw [dh] at hk'; injection hk' with hk'; subst hk';intro e2;rcases hloc with el | el
     ·rw [e2] at el;cases ey:M k' with
      | none=>rw [ey] at el; simp [Value.ownBlock] at el
      | some vy=>rw [ey] at el; exact h.apart k k' v vy hkk hk ey g e (by simpa using el.symm)
     ·rw [e2] at el; injection el with el;have:=(h.lt hk e).2;have:=hg1.size;omega
    ·rw [bf ek'] at hk';exact h.apart k k' v u hkk hk hk' g e
 ·refine ⟨Nat.le_trans hg1.size (Nat.le_trans hg2.size hg3.size),fun g hg hb hf=>?_,fun g hg hf k v hk=>?_⟩
  ·have h1:=hg1.block g hg (fun e=>hb (by injection e));have h2:=hg2.block g (Nat.lt_of_lt_of_le hg hg1.size) (fun e=>by
    cases ey:M y with
    | none=>rw [ey] at e; simp [Value.ownBlock] at e
    | some vy=>rw [ey] at e; exact hf y vy ey (by simpa using e.symm))
   have h3:=hg3.block g (Nat.lt_of_lt_of_le hg (Nat.le_trans hg1.size hg2.size)) (fun e=>hb (by injection e));rw [h3,h2,h1]
  ·by_cases ek:k=y
   ·subst ek;rw [dh] at hk; injection hk with hk; subst hk;intro e2;rcases hloc with el | el
    ·rw [e2] at el;cases ey:M k with
     | none=>rw [ey] at el; simp [Value.ownBlock] at el
     | some vy=>rw [ey] at el; exact hf k vy ey (by simpa using el.symm)
    ·rw [e2] at el; injection el with el; have:=hg1.size; omega
   ·rw [bf ek] at hk;exact hf k v hk
end Go.Proofs.YtdaoiceeidoehaaGreat.G
