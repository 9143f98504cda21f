/- Contracts of the library's search in a slice of objects, as the program calls it; an object put behind a list that lacks it. -/
import Derived.Test.YtogjfppkbkgaeaaGreatJ7
import Derived.Test.YtogjfppkbkgaeaaGreatJ1
import Derived.Test.YtogjfppkbkgaeaaGreatJ4
import Derived.Maps.OwnSet
import Derived.DeepKeys4
import Derived.Test.YtogjfppkbkgaeaaGreatJ6
import Derived.Deep.RegionHeld3
import Derived.Deep.DrawnRows
namespace Go.Proofs.YtogjfppkbkgaeaaGreat
set_option maxRecDepth 100000
set_option linter.unusedVariables false
open Go.ChangeShapes Go.WideShapes Go.ChangeAt Go.RowKit
open Pl
theorem BP {x y:Al}:iC x y=true ↔ x=y:=by
 unfold iC;simp only [Bool.and_eq_true,beq_iff_eq];constructor
 ·rintro ⟨h0,h1⟩;obtain ⟨xa,xb⟩:=x;obtain ⟨ya,yb⟩:=y;simp only at h0 h1;rw [BN h0,BN h1]
 ·rintro rfl; simp
theorem yR (x y:Al):iC x y=iC y x:=by
 rw [Bool.eq_iff_iff,BP,BP];exact ⟨Eq.symm,Eq.symm⟩
theorem Jc (x y:Al) {v:Bool} (h:iC x y=v) (w:World) :
  (binOp .eql 45 (.agg #[.string x.t,.string x.s]) (.agg #[.string y.t,.string y.s])).run Tryz.prog w=.ok (.bool v) w:=by
 subst h;go_simp;unfold iC
 (repeat' split) <;> simp_all
def gT (xs:List Al) (o:Al):Bool:=xs.any fun x=>iC x o
theorem GJ {xs:List Al} {o:Al} {k:Nat} (h:k < xs.length):gT (xs.take (k + 1)) o=(gT (xs.take k) o || iC xs[k] o):=by
 rw [List.take_succ_eq_append_getElem h];unfold gT;rw [List.any_append];simp only [List.any_cons,List.any_nil,Bool.or_false]
theorem Jd {xs:List Al} {o:Al} {k:Nat} (h:k < xs.length) (he:iC xs[k] o=true):gT xs o=true:=List.any_eq_true.2 ⟨xs[k],List.getElem_mem h,he⟩
set_option maxHeartbeats 2000000 in
theorem DU (ad:Option Addr) (cap:Nat) (ts:List Al) (t:Al) (w:World) (hlen:ts.length≤1048576) (hs:dm w ad ts) :
  Calls Tryz.prog 161 #[.slice ad ts.length cap,.agg #[.string t.t,.string t.s]] w fun e w'=>(∃ r:Int,e=.returned (.int .i64 r)∧decide (0≤r)=gT ts t)∧Below w.heap.size w w':=by
 obtain ⟨W,hW⟩:∃ W,W=w.alloc (.cells #[.string t.t,.string t.s] 45):=⟨_,rfl⟩;have HB0:Hid (Below w.heap.size w W):=by show Below _ _ _; rw [hW]; exact (Below.refl w.heap.size w).alloc (Nat.le_refl _) _
 have hz:w.heap.size < W.heap.size:=by rw [hW]; simp
 have b0:W.cell? ⟨w.heap.size,0,none⟩=some (.string t.t):=by rw [hW]; simp
 have b1:W.cell? ⟨w.heap.size,1,none⟩=some (.string t.s):=by rw [hW]; simp
 have HS:Hid (dm W ad ts):=hs.below HB0.out;clear hs;go_enter Tryz.func161,Tryz.ntmps161;go_wp2_with fail;rw [← hW];clear hW;go_loopw [8] (fun i wr=>∃ k:Nat,k≤ts.length∧i=.int .i64 k∧Hid (gT (ts.take k) t=false)∧Below W.heap.size W wr) (fun i _=>ts.length - (intOf i).toNat);case atStart=>exact ⟨0,Nat.zero_le _,rfl,rfl,Below.refl _ _⟩
 case round =>
  obtain ⟨k,hk,rfl,HP,hB⟩:=hrel;have a0:=aG hB hz b0;have a1:=aG hB hz b1;by_cases hlt:k < ts.length
  ·rcases HS.out.below hB with hnil | ⟨b,off,rfl,hb,hr⟩
   ·rw [hnil] at hlt; simp at hlt
   obtain ⟨t0,t1⟩:=hr k hlt;have hk1:(0:Int)≤(k:Int):=by omega
   have hk2:(k:Int) < (ts.length:Int):=by omega
   clear hr;cases hq:iC t ts[k] with
   | true =>
    have HE:=Jc t ts[k] hq;have HN:Hid (gT ts t=true):=Jd hlt (by rw [yR]; exact hq);go_wp2_with fail;go_quiet (fail);go_wp2;go_ret;exact ⟨⟨_,rfl,by rw [HN.out]; simp⟩,HB0.out.trans (below_drewN (hB.mono HB0.out.size) _)⟩
   | false =>
    have HE:=Jc t ts[k] hq;have HP2:Hid (gT (ts.take (k + 1)) t=false):=by show _=_; rw [GJ hlt,HP.out,yR,hq]; rfl
    go_wp2_with fail;go_quiet (fail);go_wp2;go_roundw;case rel=>exact ⟨k + 1,by omega,by go_num,HP2,below_drewN hB _⟩
    case measure=>simp [intOf] <;> omega
  ·obtain rfl:k=ts.length:=by omega
   have HN:Hid (gT ts t=false):=by have:=HP.out; rw [List.take_length] at this; exact this
   go_wp2;go_ret;exact ⟨⟨-1,rfl,by rw [HN.out]; rfl⟩,HB0.out.trans (hB.mono HB0.out.size)⟩
theorem xN (ad:Option Addr) (cap:Nat) (ts:List Al) (t:Al) (w:World) (hlen:ts.length≤1048576) (hs:dm w ad ts) :
  Calls Tryz.prog 138 #[.slice ad ts.length cap,.agg #[.string t.t,.string t.s]] w fun e w'=>e=.returned (.bool (gT ts t))∧Below w.heap.size w w':=by
 have HB0:Hid (Below w.heap.size w (w.alloc (.cells #[.string t.t,.string t.s] 45))):=(Below.refl w.heap.size w).alloc (Nat.le_refl _) _;have HS:=aj hs;clear hs;go_enter Tryz.func138,Tryz.ntmps138;go_wp2_with fail;refine (DU ad cap ts t _ hlen (HS.out.below HB0.out)).mono ?_;rintro e w1 ⟨⟨r,rfl,hr⟩,hb1⟩;have HR:=aj hr;have HB1:=aj (HB0.out.trans (hb1.mono HB0.out.size));clear hr hb1;go_wp2;go_ret;exact ⟨ae HR.out,HB1.out⟩
def aK (xs:List Al) (o:Al):List Al:=if gT xs o then xs else xs ++ [o]
theorem mI:∃ i,Tryz.prog.info? 45=some i∧i.zero=some (.agg #[.string ⟨#[]⟩,.string ⟨#[]⟩])∧i.size=2∧i.bytes=32 :=
 info_parts (P:=Tryz.prog) (e:=45) (z:=.agg #[.string ⟨#[]⟩,.string ⟨#[]⟩]) (size:=2) (bytes:=32) (by kernel_rfl)
theorem fU {w:World} {base:Nat} {v:Value} {xs:List Al} (h:w.ownsRow base 45 2 v xs.length (pairs xs)):∃ ad cap,v=.slice ad xs.length cap∧dm w ad xs:=by
 rcases h.2 with ⟨rfl,h0⟩ | ⟨g,cap,cur,rfl,hbg,hg,hnc,-⟩
 ·exact ⟨none,0,by rw [h0],.inl (List.length_eq_zero_iff.1 h0)⟩
 ·refine ⟨_,cap,rfl,.inr ⟨g,0,rfl,(h.lt g rfl).2,fun i hi=>?_⟩⟩;obtain ⟨h0,h1⟩:=uU xs i hi;have hl:=nD xs;refine ⟨?_,?_⟩
  ·rw [h.cellAt (0 + i * 2) (by omega),Nat.zero_add]; exact h0
  ·rw [h.cellAt (0 + i * 2 + 1) (by omega),Nat.zero_add]; exact h1
set_option maxHeartbeats 2000000 in
theorem jA (B:Nat) (v:Value) (xs:List Al) (o:Al) (w:World) (hlen:xs.length≤1000) (hB:B≤w.heap.size) (hown:w.ownsRow B 45 2 v xs.length (pairs xs)) :
  Calls Tryz.prog 94 #[v,.agg #[.string o.t,.string o.s]] w fun e w'=>∃ v',e=.returned v'∧w'.ownsRow B 45 2 v' (aK xs o).length (pairs (aK xs o))∧Aside w v w' v'∧∀ B',(∀ g,v.ownBlock=some g→B'≤g)→B'≤w.heap.size→Below B' w w':=by
 obtain ⟨iO,h0,h1,h2,h3⟩:=mI;have HIO:=aj (And.intro h0 (And.intro h1 (And.intro h2 h3)));obtain ⟨ad,cap,rfl,hsl⟩:=fU hown;obtain ⟨W,hW⟩:∃ W,W=w.alloc (.cells #[.string o.t,.string o.s] 45):=⟨_,rfl⟩;have HB0:Hid (Below w.heap.size w W):=by show Below _ _ _; rw [hW]; exact (Below.refl w.heap.size w).alloc (Nat.le_refl _) _
 have hz:w.heap.size < W.heap.size:=by rw [hW]; simp
 have b0:W.cell? ⟨w.heap.size,0,none⟩=some (.string o.t):=by rw [hW]; simp
 have b1:W.cell? ⟨w.heap.size,1,none⟩=some (.string o.s):=by rw [hW]; simp
 have HSL:=aj hsl;have HO:=aj hown;clear hsl hown h0 h1 h2 h3;go_enter Tryz.func94,Tryz.ntmps94;go_wp2_with fail;rw [← hW];clear hW;refine (xN ad cap xs o _ (by omega) (HSL.out.below HB0.out)).mono ?_;rintro e w1 ⟨rfl,hb1⟩;have HB1:=aj (HB0.out.trans (hb1.mono HB0.out.size));have c0:=aG hb1 hz b0;have c1:=aG hb1 hz b1;have HO1:=aj (aI HO.out HB1.out);have HA1:Hid (Aside w (.slice ad xs.length cap) w1 (.slice ad xs.length cap)):=Aside.below HB1.out;clear hb1 b0 b1;cases hh:gT xs o with
 | true =>
  have HW:Hid (aK xs o=xs):=by show _=_; unfold aK; rw [hh]; rfl
  go_wp2;go_ret;exact ⟨_,rfl,by rw [HW.out]; exact HO1.out,HA1.out,fun B' _ hB'=>HB1.out.mono hB'⟩
 | false =>
  have HW:Hid (aK xs o=xs ++ [o]):=by show _=_; unfold aK; rw [hh]; rfl
  obtain ⟨W2,hW2⟩:∃ W2,W2=w1.alloc (.cells #[.string o.t,.string o.s] 45):=⟨_,rfl⟩;have HO2:Hid (W2.ownsRow B 45 2 (.slice ad xs.length cap) xs.length (pairs xs)):=by show World.ownsRow _ _ _ _ _ _ _; rw [hW2]; exact HO1.out.alloc _
  have HA2:Hid (Aside w (.slice ad xs.length cap) W2 (.slice ad xs.length cap)):=by show Aside _ _ _ _; rw [hW2]; exact HA1.out.trans (Aside.below ((Below.refl _ _).alloc (Nat.le_refl _) _))
  have HBW2:Hid (Below w.heap.size w W2):=by show Below _ _ _; rw [hW2]; exact HB1.out.alloc HB1.out.size _
  have HN2:Hid (∀ j u,[Value.string o.t,Value.string o.s][j]?=some u→W2.cell? ((⟨w1.heap.size,0,none⟩:Addr).add j)=some u):=fun j u hu=>by
   rw [hW2]
   match j,hu with
   | 0,hu=>simp at hu; subst hu; simp [Addr.add]
   | 1,hu=>simp at hu; subst hu; simp [Addr.add]
  have hsz2:B≤W2.heap.size:=by have:=HB1.out.size; rw [hW2]; simp; omega
  clear hh;go_wp2_with (at_builtin; rw [← hW2]; clear hW2; refine wpList_append_own_at _ rfl _ _ 51 rfl B 45 iO (.agg #[.string ⟨#[]⟩,.string ⟨#[]⟩]) 2 32 Tryz.underlying51 HIO.out.1 HIO.out.2.1 HIO.out.2.2.1 HIO.out.2.2.2 rfl (by decide) _ xs.length (pairs xs) rfl HO2.out ⟨w1.heap.size,0,none⟩ 1 1 [.string o.t,.string o.s] rfl rfl HN2.out (by simp [Value.oneCell']) (by unfold maxLen; omega) (by omega) hsz2 ?_);intro v' w3 hown hgr _ hat;have HE:Hid (w3.ownsRow B 45 2 v' (aK xs o).length (pairs (aK xs o))):=by
   show World.ownsRow _ _ _ _ _ _ _;rw [HW.out,List.length_append];have:pairs (xs ++ [o])=pairs xs ++ [.string o.t,.string o.s]:=by simp [pairs]
   rw [this]; exact hown
  have HA3:Hid (Aside w (.slice ad xs.length cap) w3 v'):=HA2.out.trans (Aside.app hgr hat);have HBL:Hid (∀ B',(∀ g,(Value.slice ad xs.length cap).ownBlock=some g→B'≤g)→B'≤w.heap.size→Below B' w w3):=fun B' hv hB'=>(HBW2.out.mono hB').grown hgr (Nat.le_trans hB' HBW2.out.size) hv;clear hown hgr hat;go_wp2;go_ret;exact ⟨_,rfl,HE.out,HA3.out,HBL.out⟩
open Go.Maps
def aB (fs:List Fc):List Value:=fs.flatMap Fc.row
theorem jl:∀ fs:List Fc,(aB fs).length=fs.length * 5
 | []=>rfl
 | f::fs=>by have:=jl fs; simp only [aB,List.flatMap_cons,List.length_append,List.length_cons,Fc.row,List.length_nil] at this ⊢; omega
theorem vN (fs:List Fc) (f:Fc):aB (fs ++ [f])=aB fs ++ f.row:=by simp [aB]
theorem mJ:∀ (fs:List Fc) (i:Nat) (h:i < fs.length) (c:Nat),c < 5→(aB fs)[i * 5 + c]?=fs[i].row[c]?
 | [],i,h,_,_=>by simp at h
 | f::fs,0,_,c,hc=>by
  simp only [aB,List.flatMap_cons,Nat.zero_mul,Nat.zero_add,List.getElem_cons_zero];rw [List.getElem?_append_left (by simp [Fc.row]; omega)]
 | f::fs,i + 1,h,c,hc=>by
  have ih:=mJ fs i (by simpa using h) c hc;simp only [aB,List.flatMap_cons,List.getElem_cons_succ] at ih ⊢;rw [List.getElem?_append_right (by simp [Fc.row]; omega)];have:(i + 1) * 5 + c - f.row.length=i * 5 + c:=by simp [Fc.row]; omega
  rw [this]; exact ih
theorem mM {w:World} {base:Nat} {v:Value} {fs:List Fc} (h:w.ownsRow base 47 5 v fs.length (aB fs)):∃ ad cap,v=.slice ad fs.length cap∧qZ w ad fs:=by
 rcases h.2 with ⟨rfl,h0⟩ | ⟨g,cap,cur,rfl,hbg,hg,hnc,-⟩
 ·exact ⟨none,0,by rw [h0],.inl (List.length_eq_zero_iff.1 h0)⟩
 ·refine ⟨_,cap,rfl,.inr ⟨g,0,rfl,(h.lt g rfl).2,fun i hi=>?_⟩⟩;have hl:=jl fs;have hc:∀ c,c < 5→w.cell? ⟨g,0 + i * 5 + c,none⟩=fs[i].row[c]?:=fun c hc=>by
   rw [h.cellAt (0 + i * 5 + c) (by omega),Nat.zero_add]; exact mJ fs i hi c hc
  exact ⟨hc 0 (by omega),hc 1 (by omega),hc 2 (by omega),hc 3 (by omega),hc 4 (by omega)⟩
theorem Ae:∃ i,Tryz.prog.info? 47=some i∧i.zero=some (.agg #[.string ⟨#[]⟩,.string ⟨#[]⟩,.string ⟨#[]⟩,.string ⟨#[]⟩,.string ⟨#[]⟩])∧i.size=5∧i.bytes=80 :=
 info_parts (P:=Tryz.prog) (e:=47) (z:=.agg #[.string ⟨#[]⟩,.string ⟨#[]⟩,.string ⟨#[]⟩,.string ⟨#[]⟩,.string ⟨#[]⟩]) (size:=5) (bytes:=80) (by kernel_rfl)
theorem FB (w:World) (f:Fc):∀ j u,f.row[j]?=some u→(w.alloc (.cells #[.string f.a,.string f.b,.string f.r,.string f.c,.string f.d] 47)).cell? ((⟨w.heap.size,0,none⟩:Addr).add j)=some u:=fun j u hu=>by
 match j,hu with
 | 0,hu=>simp [Fc.row] at hu; subst hu; simp [Addr.add]
 | 1,hu=>simp [Fc.row] at hu; subst hu; simp [Addr.add]
 | 2,hu=>simp [Fc.row] at hu; subst hu; simp [Addr.add]
 | 3,hu=>simp [Fc.row] at hu; subst hu; simp [Addr.add]
 | 4,hu=>simp [Fc.row] at hu; subst hu; simp [Addr.add]
structure OutI (w W wr:World) (v:Value) (out:List Fc):Prop where
 row:wr.ownsRow w.heap.size 47 5 v out.length (aB out)
 keep:∀ g o x,W.cell? ⟨g,o,none⟩=some x→wr.cell? ⟨g,o,none⟩=some x
 size:W.heap.size≤wr.heap.size
 bel:Below w.heap.size w wr
 free:∀ g,v.ownBlock=some g→∀ o,W.cell? ⟨g,o,none⟩=none
theorem av {w:World} {g o:Nat} {x:Value} (h:w.cell? ⟨g,o,none⟩=some x):g < w.heap.size:=by
 unfold World.cell? at h;cases ho:w.heap[g]? with
 | none=>simp [ho] at h
 | some o=>exact (Array.getElem?_eq_some_iff.1 ho).1
theorem KG {w:World} {g o:Nat} (h:w.heap.size≤g):w.cell? ⟨g,o,none⟩=none:=by
 cases e:w.cell? ⟨g,o,none⟩ with
 | none=>rfl
 | some x=>have:=av e; omega
theorem OutI.below {w W wr w':World} {v:Value} {out:List Fc} (h:OutI w W wr v out) (hb:Below wr.heap.size wr w'):OutI w W w' v out where
 row:=aI h.row hb
 keep g o x hx:=(hb.cell (p:=⟨g,o,none⟩) (av (h.keep g o x hx))).trans (h.keep g o x hx)
 size:=Nat.le_trans h.size hb.size
 bel:=h.bel.trans (hb.mono h.bel.size)
 free:=h.free
theorem OutI.app {w W wr w':World} {v v':Value} {out:List Fc} {f:Fc} (h:OutI w W wr v out) (hown:w'.ownsRow w.heap.size 47 5 v' (out.length + 1) (aB out ++ f.row)) (hgr:wr.grownBy w' v.ownBlock) (hat:v'.ownBlock=v.ownBlock ∨ v'.ownBlock=some wr.heap.size):OutI w W w' v' (out ++ [f]) where
 row:=by rw [vN,List.length_append]; exact hown
 keep g o x hx:=by
  have h1:=h.keep g o x hx;refine (World.cell?_of_block (w:=wr) (a:=⟨g,o,none⟩) (hgr.block g (av h1) fun e=>?_)).trans h1;rw [h.free g e.symm o] at hx;cases hx
 size:=Nat.le_trans h.size hgr.size
 bel:=h.bel.grown hgr h.bel.size (fun g hg=>(h.row.lt g hg).1)
 free g hg o:=by
  rcases hat with e | e
  ·rw [e] at hg; exact h.free g hg o
  ·rw [hg] at e; injection e with e; rw [e]; exact KG h.size
theorem dm.keepC {w w':World} {ad:Option Addr} {xs:List Al} (h:dm w ad xs) (hs:w.heap.size≤w'.heap.size) (hk:∀ g o x,w.cell? ⟨g,o,none⟩=some x→w'.cell? ⟨g,o,none⟩=some x):dm w' ad xs:=by
 rcases h with h | ⟨b,off,e,hb,hr⟩
 ·exact .inl h
 ·exact .inr ⟨b,off,e,Nat.lt_of_lt_of_le hb hs,fun i hi=>⟨hk _ _ _ (hr i hi).1,hk _ _ _ (hr i hi).2⟩⟩
theorem DC.keepC {w w':World} {ad:Option Addr} {xs:List St} (h:DC w ad xs) (hs:w.heap.size≤w'.heap.size) (hk:∀ g o x,w.cell? ⟨g,o,none⟩=some x→w'.cell? ⟨g,o,none⟩=some x):DC w' ad xs:=by
 rcases h with h | ⟨b,off,e,hb,hr⟩
 ·exact .inl h
 ·exact .inr ⟨b,off,e,Nat.lt_of_lt_of_le hb hs,fun i hi=>⟨hk _ _ _ (hr i hi).1,hk _ _ _ (hr i hi).2.1,hk _ _ _ (hr i hi).2.2⟩⟩
theorem DC.at0 {w:World} {ad:Option Addr} {xs:List St} (h:DC w ad xs) {k:Nat} (hk:k < xs.length):∃ b off,ad=some ⟨b,off,none⟩∧MS w b (off + k * 3) xs[k]∧b < w.heap.size:=by
 rcases h with h | ⟨b',off',e,hb,hr⟩
 ·rw [h] at hk; simp at hk
 ·exact ⟨b',off',e,hr k hk,hb⟩
def Mg:Value→Nat
 | .slice _ n _=>n
 | _=>0
def Nr:Value→Nat
 | .bool true=>1
 | _=>0
def KH (v:Value):Option (DataW Value × List MemPlace):=some (.held v,[])
section
variable {K:Type} (enc:K→Value) (P:Program) (k:TypeId)
def Mh (D:DataW Value) (kl:Lit):Option Value→Prop
 | none=>Maps.has D kl=false∧∀ z,D.atKey kl z=z
 | some v=>Maps.has D kl=true∧∀ z,D.atKey kl z=.held v
def aD (w:World) (b n:Nat) (M:K→Option Value):Prop :=
 ∃ D:DataW Value,w.ownsMap P k KH b n D∧∀ x kl,keyOf P k (enc x)=some kl→Mh D kl (M x)
def jb [DecidableEq K] (M:K→Option Value) (x:K) (v:Option Value):K→Option Value:=fun y=>if y=x then v else M y
end
section
variable {K:Type} {enc:K→Value} {P:Program} {k:TypeId} {w:World} {b n:Nat} {M:K→Option Value}
theorem dA [DecidableEq K] (M:K→Option Value) (x:K) (v:Option Value):jb M x v x=v:=by simp [jb]
theorem bf [DecidableEq K] {M:K→Option Value} {x y:K} {v:Option Value} (h:y ≠ x):jb M x v y=M y:=by simp [jb,h]
theorem kF (enc:K→Value) (P:Program) (k:TypeId) (w:World):aD enc P k (w.alloc (.map #[] 0)) w.heap.size 0 (fun _=>none) :=
 ⟨.map [],World.ownsMap_made w P k KH,fun _ kl _=>⟨rfl,fun z=>by simp [DataW.atKey]⟩⟩
theorem aD.lt (h:aD enc P k w b n M):b < w.heap.size:=by obtain ⟨D,h1,-⟩:=h; exact h1.lt
theorem aD.mono (h:aD enc P k w b n M) {n':Nat} (hn:n≤n'):aD enc P k w b n' M:=by obtain ⟨D,h1,h2⟩:=h; exact ⟨D,h1.mono hn,h2⟩
theorem aD.kept {w':World} {row:Option Nat} (h:aD enc P k w b n M) (hg:w.grownBy w' row) (hne:some b ≠ row):aD enc P k w' b n M:=by
 obtain ⟨D,h1,h2⟩:=h; exact ⟨D,h1.kept hg hne,h2⟩
theorem aD.below {w':World} (h:aD enc P k w b n M) (hB:Below w.heap.size w w'):aD enc P k w' b n M :=
 h.kept (row:=none) ⟨hB.os,hB.tape,hB.output,hB.size,fun k hk _=>hB.block k hk⟩ (by simp)
theorem aD.setCell (h:aD enc P k w b n M) {a:Addr} (ha:b ≠ a.block) (u:Value):aD enc P k (w.setCell a u) b n M:=by
 obtain ⟨D,h1,h2⟩:=h; exact ⟨D,h1.setCell ha u,h2⟩
theorem aD.look {t e:TypeId} (h:aD enc P k w b n M) (L:Keyed P k) (ht:P.underlying t=some (.map k e)) {z:Value} (hz:(zeroValue e).run P w=.ok z w) {x:K} {kl:Lit} (hkey:keyOf P k (enc x)=some kl) :
  (Instr.lookup t (.map (some b)) (enc x) false).run P w=.ok ((M x).getD z) w:=by
 obtain ⟨D,h1,h2⟩:=h;obtain ⟨v,ps,hrun,hv⟩:=h1.lookup L ht hz (zd:=.held z) (zp:=[]) rfl hkey;have h3:=h2 x kl hkey;rw [hrun];have:v=(M x).getD z:=by
  simp only [KH,Option.some.injEq,Prod.mk.injEq] at hv;cases e:M x with
  | none=>rw [e] at h3; rw [h3.2] at hv; injection hv.1 with h4
  | some u=>rw [e] at h3; rw [h3.2] at hv; injection hv.1 with h4
 rw [this]
theorem aD.look_ok {t e:TypeId} (h:aD enc P k w b n M) (L:Keyed P k) (ht:P.underlying t=some (.map k e)) {z:Value} (hz:(zeroValue e).run P w=.ok z w) {x:K} {kl:Lit} (hkey:keyOf P k (enc x)=some kl) :
  (Instr.lookup t (.map (some b)) (enc x) true).run P w=.ok (.tuple #[(M x).getD z,.bool (M x).isSome]) w:=by
 obtain ⟨D,h1,h2⟩:=h;obtain ⟨v,ps,hrun,hv⟩:=h1.look_ok L ht hz (zd:=.held z) (zp:=[]) rfl hkey;have h3:=h2 x kl hkey;rw [hrun];simp only [KH,Option.some.injEq,Prod.mk.injEq] at hv;cases e:M x with
 | none=>rw [e] at h3; rw [h3.2] at hv; injection hv.1 with h4; rw [h4,h3.1]; rfl
 | some u=>rw [e] at h3; rw [h3.2] at hv; injection hv.1 with h4; rw [h4,h3.1]; rfl
theorem aD.store [DecidableEq K] {t e:TypeId} (h:aD enc P k w b n M) (L:Keyed P k) (hinj:∀ x y,enc x=enc y→x=y) (ht:P.underlying t=some (.map k e)) (hn:n < maxLen) {x:K} {kl:Lit} (hkey:keyOf P k (enc x)=some kl) (v:Value) :
  ∃ w',(Instr.mapUpdate t (.map (some b)) (enc x) v).run P w=.ok () w'∧aD enc P k w' b (n + 1) (jb M x (some v))∧w.grownBy w' (some b):=by
 obtain ⟨D,h1,h2⟩:=h;obtain ⟨w',hrun,h3,h4⟩:=h1.update L ht hn hkey (val:=v) (d:=.held v) (ps:=[]) rfl;refine ⟨w',hrun,⟨D.put kl (.held v),h3,fun y ky hy=>?_⟩,h4⟩;by_cases e:y=x
 ·subst e;obtain rfl:ky=kl:=by rw [hkey] at hy; injection hy with hy; exact hy.symm
  rw [dA];exact ⟨has_put_same h1.isMap (L.key hkey) _,fun z=>atKey_put_same h1.isMap (L.key hkey) _ z⟩
 ·have hne:ky ≠ kl:=fun e2=>e (hinj _ _ (L.inj (by rw [e2] at hy; exact hy) hkey));rw [bf e];have h5:=h2 y ky hy;cases e3:M y with
  | none=>rw [e3] at h5; exact ⟨by rw [has_put_other hne]; exact h5.1,fun z=>by rw [atKey_put_other hne]; exact h5.2 z⟩
  | some u=>rw [e3] at h5; exact ⟨by rw [has_put_other hne]; exact h5.1,fun z=>by rw [atKey_put_other hne]; exact h5.2 z⟩
end
section
variable {K:Type} {enc:K→Value} {P:Program} (w:World) {ops:Array Oper} {rest:List Oper} {o:Oper} {a:Act} {Q:Exit→Act→World→Prop}
theorem ik (hg:o.guard=none) (m x:Operand) (t:TypeId) (hop:o.op=Op.lookup t m x false) (k e:TypeId) (L:Keyed P k) (ht:P.underlying t=some (.map k e)) {z:Value} (hz:(zeroValue e).run P w=.ok z w) (b n:Nat) (M:K→Option Value)
  (hm:a.eval m=.map (some b)) (hV:aD enc P k w b n M) (y:K) (kl:Lit) (hx:a.eval x=enc y) (hkey:keyOf P k (enc y)=some kl)
  (hK:wpList P ops Q rest (a.put o.dst ((M y).getD z)) w):wpList P ops Q (o::rest) a w:=by
 refine wpList_plain hg fun K' hK'=>?_;have hrun:=hV.look L ht hz hkey;unfold Oper.wp;simp [execOp,hop,hm,hx,hrun,Result.andThen];exact hK' _ _ hK
theorem df (hg:o.guard=none) (m x:Operand) (t:TypeId) (hop:o.op=Op.lookup t m x true) (k e:TypeId) (L:Keyed P k) (ht:P.underlying t=some (.map k e)) {z:Value} (hz:(zeroValue e).run P w=.ok z w) (b n:Nat) (M:K→Option Value)
  (hm:a.eval m=.map (some b)) (hV:aD enc P k w b n M) (y:K) (kl:Lit) (hx:a.eval x=enc y) (hkey:keyOf P k (enc y)=some kl)
  (hK:wpList P ops Q rest (a.put o.dst (.tuple #[(M y).getD z,.bool (M y).isSome])) w):wpList P ops Q (o::rest) a w:=by
 refine wpList_plain hg fun K' hK'=>?_;have hrun:=hV.look_ok L ht hz hkey;unfold Oper.wp;simp [execOp,hop,hm,hx,hrun,Result.andThen];exact hK' _ _ hK
theorem j5 [DecidableEq K] (hg:o.guard=none) (m x v:Operand) (t:TypeId) (hop:o.op=Op.mapUpdate t m x v) (k e:TypeId) (L:Keyed P k) (hinj:∀ x y,enc x=enc y→x=y) (ht:P.underlying t=some (.map k e)) (b n:Nat) (M:K→Option Value)
  (hm:a.eval m=.map (some b)) (hV:aD enc P k w b n M) (hn:n < maxLen) (y:K) (kl:Lit) (hx:a.eval x=enc y) (hkey:keyOf P k (enc y)=some kl) (u:Value) (hv:a.eval v=u)
  (hK:∀ w',aD enc P k w' b (n + 1) (jb M y (some u))→w.grownBy w' (some b)→wpList P ops Q rest (a.put o.dst undef) w'):wpList P ops Q (o::rest) a w:=by
 refine wpList_plain hg fun K' hK'=>?_;obtain ⟨w',hrun,r1,r2⟩:=hV.store L hinj ht hn hkey u;unfold Oper.wp;simp [execOp,hop,hm,hx,hv,hrun,Result.andThen];exact hK' _ _ (hK w' r1 r2)
end
def Fc.fits (t:Fc):Prop:=t.a.size≤maxLen∧t.b.size≤maxLen∧t.r.size≤maxLen∧t.c.size≤maxLen∧t.d.size≤maxLen
def j6 (k:Fc):Value:=.agg #[.string k.a,.string k.b,.string k.r,.string k.c,.string k.d]
theorem Je (x y:Fc) (h:j6 x=j6 y):x=y:=by
 unfold j6 at h;injection h with h;have h1:=congrArg Array.toList h;simp at h1;obtain ⟨xa,xb,xr,xc,xd⟩:=x;obtain ⟨ya,yb,yr,yc,yd⟩:=y;simp only at h1;obtain ⟨rfl,rfl,rfl,rfl,rfl⟩:=h1;rfl
theorem Jf:laidOutB Tryz.prog=true:=by kernel_rfl
theorem Mi:(47:TypeId) < Tryz.prog.types.size:=of_decide_eq_true (by kernel_rfl)
theorem KI:(match Tryz.prog.underlying 47 with | some (.array _ _) | some (.struct _)=>true | _=>false)=true:=by rw [Tryz.underlying47]
set_option maxRecDepth 100000 in
theorem KJ:WideMaps.KeyLaw Tryz.prog 47:=deep_law_laid Jf (m:=3) (by omega) Mi (by kernel_rfl) KI
theorem Jg:Keyed Tryz.prog 47:=Keyed.of_law KJ
theorem KM:Tryz.prog.keyType 47=true:=by kernel_rfl
theorem BQ:Tryz.prog.cellsOf 47=5:=by kernel_rfl
theorem GK:Tryz.prog.cellsOf 45=2:=by kernel_rfl
theorem GL:Tryz.prog.cellsOf 9=1:=by kernel_rfl
theorem GM:2≤Tryz.prog.types.size:=of_decide_eq_true (by kernel_rfl)
theorem DV:∃ n,Tryz.prog.types.size=n + 2:=⟨Tryz.prog.types.size - 2,by have:=GM; omega⟩
set_option maxRecDepth 100000 in
theorem BR (k:Fc) (h:k.fits):∃ kl,keyOf Tryz.prog 47 (j6 k)=some kl:=by
 obtain ⟨n,hn⟩:=DV;obtain ⟨h0,h1,h2,h3,h4⟩:=h;refine ⟨.string (keyBytes [.string k.a.data.toList,.string k.b.data.toList,.string k.r.data.toList,.string k.c.data.toList,.string k.d.data.toList]),?_⟩;unfold keyOf;rw [Tryz.underlying47];simp only [KM,j6,Value.formed,Tryz.underlying47,BQ,hn,Value.cells];simp +decide [Program.keyLits,Tryz.underlying47,Tryz.underlying45,Tryz.underlying9,BQ,GK,GL,h0,h1,h2,h3,h4]
theorem Jh (w:World):(zeroValue 125).run Tryz.prog w=.ok (.agg #[]) w:=by kernel_rfl
theorem BS (b n:Nat) (M:Fc→Option Value) (f:Fc) (w:World) (hf:f.fits) (hV:aD j6 Tryz.prog 47 w b n M) (hM:∀ v,M f=some v→v=.agg #[]) :
  Calls Tryz.prog 97 #[.map (some b),.agg #[.string f.a,.string f.b,.string f.r,.string f.c,.string f.d]] w fun e w'=>e=.returned (.bool (M f).isSome)∧Below w.heap.size w w':=by
 obtain ⟨kl,hkl⟩:=BR f hf;have HKL:Hid (keyOf Tryz.prog 47 (j6 f)=some kl):=hkl;have HM:Hid ((M f).getD (.agg #[])=.agg #[]):=by
  show _=_;cases e:M f with
  | none=>rfl
  | some v=>exact hM v e
 obtain ⟨W,hW⟩:∃ W,W=w.alloc (.cells #[.string f.a,.string f.b,.string f.r,.string f.c,.string f.d] 47):=⟨_,rfl⟩;have HB:Hid (Below w.heap.size w W):=by show Below _ _ _; rw [hW]; exact (Below.refl _ _).alloc (Nat.le_refl _) _
 have HV:Hid (aD j6 Tryz.prog 47 W b n M):=hV.below HB.out;have HB2:Hid (Below w.heap.size w (W.alloc (.cells #[] 125))):=HB.out.alloc HB.out.size _;clear hkl hV hM;go_enter Tryz.func97,Tryz.ntmps97;go_wp2_with (at_lookup; rw [← hW]; clear hW; refine df _ rfl _ _ 121 rfl 47 125 Jg Tryz.underlying121 (Jh _) b n M rfl HV.out f kl rfl HKL.out ?_; rw [HM.out]);go_ret;exact ⟨rfl,HB2.out⟩
end Go.Proofs.YtogjfppkbkgaeaaGreat
namespace Go.Proofs.YtogjfppkbkgaeaaGreat
open Go.ChangeShapes Go.WideShapes Go.ChangeAt Go.RowKit
open Pl
attribute [local go_sem ↓] Go.wp_at_zero Go.wp_at_succ
theorem LV {w W w':World} {n:Nat} {x0 x1 x2 x3 x4 x5:Value} (h:W.cell? ⟨n,0,none⟩=some x0∧W.cell? ⟨n,1,none⟩=some x1∧W.cell? ⟨n,2,none⟩=some x2∧W.cell? ⟨n,3,none⟩=some x3∧W.cell? ⟨n,4,none⟩=some x4∧W.cell? ⟨n,5,none⟩=some x5∧n < W.heap.size∧Below n w W) (hb:Below W.heap.size W w'):w'.cell? ⟨n,0,none⟩=some x0∧w'.cell? ⟨n,1,none⟩=some x1∧w'.cell? ⟨n,2,none⟩=some x2∧w'.cell? ⟨n,3,none⟩=some x3∧w'.cell? ⟨n,4,none⟩=some x4∧w'.cell? ⟨n,5,none⟩=some x5∧n < w'.heap.size∧Below n w w':=by
 obtain ⟨h0,h1,h2,h3,h4,h5,hn,hB⟩:=h;have hc:∀ o,w'.cell? ⟨n,o,none⟩=W.cell? ⟨n,o,none⟩:=fun o=>hb.cell (p:=⟨n,o,none⟩) hn;refine ⟨by rw [hc]; exact h0,by rw [hc]; exact h1,by rw [hc]; exact h2,by rw [hc]; exact h3,by rw [hc]; exact h4,by rw [hc]; exact h5,Nat.lt_of_lt_of_le hn hb.size,hB.trans (hb.mono (Nat.le_of_lt hn))⟩
theorem ug (a b r c d s:ByteArray) (w:World) (ha:a.size≤maxLen) (hb:b.size≤maxLen) (hr:r.size≤maxLen) (hc:c.size≤maxLen) (hd:d.size≤maxLen) (hs:s.size≤maxLen) :
  Calls Tryz.prog 124 #[.agg #[.string a,.string b,.string r,.string c,.string d,.string s]] w fun e w'=>e=.returned (.string (aN a b r c d s))∧Below w.heap.size w w':=by
 by_cases hn:aU a b r c d s=true
 ·obtain ⟨h1,h2,h3,h4⟩:=iD hn;have hx:=fM a b;have hy:=fM c d;have hr12:=(kE h2).2;have hs12:=zX h4;clear h1 h2 h3 h4;go_enter Tryz.func124,Tryz.ntmps124;go_wp2_with fail;refine (bv _ _ _ _ _ _ _ ha hb hr hc hd hs).mono ?_;rintro e w1 ⟨rfl,hb1⟩;obtain ⟨hc1,hf1⟩:=fD hb1;have hz1:w.heap.size < w1.heap.size:=by have:=hb1.size; simp at this; omega
  have k:∀ o v,(w.alloc (.cells #[.string a,.string b,.string r,.string c,.string d,.string s] 73)).cell? ⟨w.heap.size,o,none⟩=some v→w1.cell? ⟨w.heap.size,o,none⟩=some v:=fun o v h=>by rw [hc1 _ _ (by simp)]; exact h
  have k0:=k 0 (.string a) (by simp);have k1:=k 1 (.string b) (by simp);have k2:=k 2 (.string r) (by simp);have k3:=k 3 (.string c) (by simp);have k4:=k 4 (.string d) (by simp);have k5:=k 5 (.string s) (by simp);have HB1:Below w.heap.size w w1:=((Below.refl _ _).alloc (Nat.le_refl _) _).trans (hb1.mono (by simp));clear k hb1 hc1 hf1;have q1:(9223372036854775807 < (au a b).size + 1)=False:=by simp; omega
  have q2:(9223372036854775807 < (au a b).size + 1 + r.size)=False:=by simp; omega
  have q3:(9223372036854775807 < (au a b).size + 1 + r.size + 1)=False:=by simp; omega
  have q4:(9223372036854775807 < (au a b).size + 1 + r.size + 1 + (au c d).size)=False:=by simp; omega
  go_wp2_with fail
  go_region_held3 (fun w'=>w'.cell? ⟨w.heap.size,0,none⟩=some (.string a)∧w'.cell? ⟨w.heap.size,1,none⟩=some (.string b)∧w'.cell? ⟨w.heap.size,2,none⟩=some (.string r)∧w'.cell? ⟨w.heap.size,3,none⟩=some (.string c)∧w'.cell? ⟨w.heap.size,4,none⟩=some (.string d)∧w'.cell? ⟨w.heap.size,5,none⟩=some (.string s)∧w.heap.size < w'.heap.size∧Below w.heap.size w w')
   (first | exact LV (by assumption) hbx | exact ⟨k0,k1,k2,k3,k4,k5,hz1,HB1.drew⟩)
   (first | (go_at_call 152; refine (tY _ _ _ (by assumption) (by assumption)).mono ?_; rintro e w' ⟨rfl,hbx⟩))
  rename_i hH;obtain ⟨g0,g1,g2,g3,g4,g5,gz,gB⟩:=hH;clear k0 k1 k2 k3 k4 k5 hbx q1 q2 q3 q4 HB1;by_cases he:s.toList.isEmpty=true
  ·have HT:Hid (aN a b r c d s=_):=jR hn he;go_wp2;go_ret;exact ⟨eG HT.out.symm,gB⟩
  ·have he':s.toList.isEmpty=false:=by simpa using he
   have HT:Hid (aN a b r c d s=_):=jS hn he';clear he;go_wp2;go_ret;exact ⟨eG HT.out.symm,gB⟩
 ·have hn':aU a b r c d s=false:=by simpa using hn
  have HT:Hid (aN a b r c d s=⟨#[]⟩):=oP hn';clear hn;go_enter Tryz.func124,Tryz.ntmps124;go_wp2_with fail;refine (bv _ _ _ _ _ _ _ ha hb hr hc hd hs).mono ?_;rintro e w1 ⟨rfl,hb1⟩;go_wp2;go_ret;exact ⟨eG HT.out.symm,((Below.refl _ _).alloc (Nat.le_refl _) _).trans (hb1.mono (by simp))⟩
theorem uh (a b r c d s:ByteArray) (w:World) (ha:a.size≤maxLen) (hb:b.size≤maxLen) (hr:r.size≤maxLen) (hc:c.size≤maxLen) (hd:d.size≤maxLen) (hs:s.size≤maxLen) :
  Calls Tryz.prog 112 #[.agg #[.string a,.string b,.string r,.string c,.string d,.string s]] w fun e w'=>e=.returned (.string (aN a b r c d s))∧Below w.heap.size w w':=by
 by_cases hn:aU a b r c d s=true
 ·obtain ⟨h1,h2,h3,h4⟩:=iD hn;have hx:=fM a b;have hy:=fM c d;have hr12:=(kE h2).2;have hs12:=zX h4;clear h1 h2 h3 h4;go_enter Tryz.func112,Tryz.ntmps112;go_wp2_with fail;refine (bZ _ _ _ _ _ _ _ ha hb hr hc hd hs).mono ?_;rintro e w1 ⟨rfl,hb1⟩;obtain ⟨hc1,hf1⟩:=fD hb1;have hz1:w.heap.size < w1.heap.size:=by have:=hb1.size; simp at this; omega
  have k:∀ o v,(w.alloc (.cells #[.string a,.string b,.string r,.string c,.string d,.string s] 73)).cell? ⟨w.heap.size,o,none⟩=some v→w1.cell? ⟨w.heap.size,o,none⟩=some v:=fun o v h=>by rw [hc1 _ _ (by simp)]; exact h
  have k0:=k 0 (.string a) (by simp);have k1:=k 1 (.string b) (by simp);have k2:=k 2 (.string r) (by simp);have k3:=k 3 (.string c) (by simp);have k4:=k 4 (.string d) (by simp);have k5:=k 5 (.string s) (by simp);have HB1:Below w.heap.size w w1:=((Below.refl _ _).alloc (Nat.le_refl _) _).trans (hb1.mono (by simp));clear k hb1 hc1 hf1;have q1:(9223372036854775807 < (au a b).size + 1)=False:=by simp; omega
  have q2:(9223372036854775807 < (au a b).size + 1 + r.size)=False:=by simp; omega
  have q3:(9223372036854775807 < (au a b).size + 1 + r.size + 1)=False:=by simp; omega
  have q4:(9223372036854775807 < (au a b).size + 1 + r.size + 1 + (au c d).size)=False:=by simp; omega
  go_wp2_with fail
  go_region_held3 (fun w'=>w'.cell? ⟨w.heap.size,0,none⟩=some (.string a)∧w'.cell? ⟨w.heap.size,1,none⟩=some (.string b)∧w'.cell? ⟨w.heap.size,2,none⟩=some (.string r)∧w'.cell? ⟨w.heap.size,3,none⟩=some (.string c)∧w'.cell? ⟨w.heap.size,4,none⟩=some (.string d)∧w'.cell? ⟨w.heap.size,5,none⟩=some (.string s)∧w.heap.size < w'.heap.size∧Below w.heap.size w w')
   (first | exact LV (by assumption) hbx | exact ⟨k0,k1,k2,k3,k4,k5,hz1,HB1.drew⟩)
   (first | (go_at_call 148; refine (tZ _ _ _ (by assumption) (by assumption)).mono ?_; rintro e w' ⟨rfl,hbx⟩))
  rename_i hH;obtain ⟨g0,g1,g2,g3,g4,g5,gz,gB⟩:=hH;clear k0 k1 k2 k3 k4 k5 hbx q1 q2 q3 q4 HB1;by_cases he:s.toList.isEmpty=true
  ·have HT:Hid (aN a b r c d s=_):=jR hn he;go_wp2;go_ret;exact ⟨eG HT.out.symm,gB⟩
  ·have he':s.toList.isEmpty=false:=by simpa using he
   have HT:Hid (aN a b r c d s=_):=jS hn he';clear he;go_wp2;go_ret;exact ⟨eG (HT.out.trans (by simp only [ByteArray.append_assoc])).symm,gB⟩
 ·have hn':aU a b r c d s=false:=by simpa using hn
  have HT:Hid (aN a b r c d s=⟨#[]⟩):=oP hn';clear hn;go_enter Tryz.func112,Tryz.ntmps112;go_wp2_with fail;refine (bZ _ _ _ _ _ _ _ ha hb hr hc hd hs).mono ?_;rintro e w1 ⟨rfl,hb1⟩;go_wp2;go_ret;exact ⟨eG HT.out.symm,((Below.refl _ _).alloc (Nat.le_refl _) _).trans (hb1.mono (by simp))⟩
end Go.Proofs.YtogjfppkbkgaeaaGreat
