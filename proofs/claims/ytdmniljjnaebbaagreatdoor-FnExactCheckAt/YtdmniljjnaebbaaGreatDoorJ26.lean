/- Facts in memory: a row of them, one held against another one. -/
import Derived.Test.YtdmniljjnaebbaaGreatDoorJ25
import Derived.Test.YtdmniljjnaebbaaGreatDoorJ24
open Go.Proofs.Tryz
set_option maxHeartbeats 80000000
namespace Go.Proofs.YtdmniljjnaebbaaGreatDoor
open Go.ChangeShapes Go.WideShapes Go.ChangeAt Go.RowKit Go.Maps
open Pl
def Kb (w:World) (b off:Nat) (t:Fc):Prop :=
 w.cell? ⟨b,off,none⟩=some (.string t.a)∧w.cell? ⟨b,off + 1,none⟩=some (.string t.b)∧w.cell? ⟨b,off + 2,none⟩=some (.string t.r)∧w.cell? ⟨b,off + 3,none⟩=some (.string t.c)∧w.cell? ⟨b,off + 4,none⟩=some (.string t.d)
def Ol (w:World) (b off:Nat) (ts:List Fc):Prop:=∀ (i:Nat) (h:i < ts.length),Kb w b (off + i * 5) ts[i]
def yh (w:World) (ad:Option Addr) (ts:List Fc):Prop:=ts=[] ∨ ∃ b off,ad=some ⟨b,off,none⟩∧b < w.heap.size∧Ol w b off ts
theorem Kb.same {w w':World} {b off:Nat} {t:Fc} (h:Kb w b off t) (hc:∀ o,w'.cell? ⟨b,o,none⟩=w.cell? ⟨b,o,none⟩):Kb w' b off t:=by
 obtain ⟨h0,h1,h2,h3,h4⟩:=h;exact ⟨(hc _).trans h0,(hc _).trans h1,(hc _).trans h2,(hc _).trans h3,(hc _).trans h4⟩
theorem yh.below {w w':World} {ad:Option Addr} {ts:List Fc} (h:yh w ad ts) (hB:Below w.heap.size w w'):yh w' ad ts:=by
 rcases h with h | ⟨b,off,e,hb,hr⟩
 ·exact .inl h
 ·exact .inr ⟨b,off,e,Nat.lt_of_lt_of_le hb hB.size,fun i hi=>(hr i hi).same fun o=>hB.cell (p:=⟨b,o,none⟩) hb⟩
def Fc.row (t:Fc):List Value:=[.string t.a,.string t.b,.string t.r,.string t.c,.string t.d]
theorem Bi (x y:Fc) {v:Bool} (h:sS x y=v) (w:World) :
  (binOp .eql 63 (.agg #[.string x.a,.string x.b,.string x.r,.string x.c,.string x.d]) (.agg #[.string y.a,.string y.b,.string y.r,.string y.c,.string y.d])).run prog w=.ok (.bool v) w:=by
 subst h;go_simp;unfold sS
 (repeat' split) <;> simp_all
theorem zP {ts:List Fc} {k:Nat} (h:k < ts.length) {t:Fc}:bf (ts.drop k) t=(sS ts[k] t || bf (ts.drop (k + 1)) t):=by
 unfold bf; rw [List.drop_eq_getElem_cons h]; rfl
set_option linter.unusedVariables false
structure KpO (b l:Nat) (W W':World):Prop where
 size:W.heap.size≤W'.heap.size
 cells:∀ (g:Nat) (cs:Array Value) (T:TypeId) (m:Nat × Nat),W.heap[g]?=some (.cells cs T m)→T ≠ 63→T ≠ 33→W'.heap[g]?=some (.cells cs T m)
 other:∀ (g:Nat) (o:Obj),W.heap[g]?=some o→o.isCells=false→g ≠ l→g ≠ b→W'.heap[g]?=some o
structure KpI (W W':World):Prop where
 size:W.heap.size≤W'.heap.size
 cells:∀ (g:Nat) (cs:Array Value) (T:TypeId) (m:Nat × Nat),W.heap[g]?=some (.cells cs T m)→T=40 ∨ T=122→W'.heap[g]?=some (.cells cs T m)
theorem KpO.trans {b l:Nat} {X Y Z:World} (h:KpO b l X Y) (k:KpO b l Y Z):KpO b l X Z :=
 ⟨Nat.le_trans h.size k.size,fun g cs T m hg h1 h2=>k.cells g cs T m (h.cells g cs T m hg h1 h2) h1 h2,fun g o hg hc h1 h2=>k.other g o (h.other g o hg hc h1 h2) hc h1 h2⟩
theorem KpI.trans {X Y Z:World} (h:KpI X Y) (k:KpI Y Z):KpI X Z :=
 ⟨Nat.le_trans h.size k.size,fun g cs T m hg h1=>k.cells g cs T m (h.cells g cs T m hg h1) h1⟩
theorem kU {W:World} {l g:Nat} {o':Obj} (h:g ≠ l):(W.putObj l o').heap[g]?=W.heap[g]?:=World.putObj_heap_other h
theorem KpO.put {b l:Nat} {W:World} {o o':Obj} (h:W.heap[l]?=some o) (hc:o.isCells=false):KpO b l W (W.putObj l o') where
 size:=by simp
 cells g cs T m hg _ _:=by
  have:g ≠ l:=fun e=>by subst e; rw [h] at hg; injection hg with hg; subst hg; cases hc
  rw [kU this]; exact hg
 other g x hg _ h1 _:=by rw [kU h1]; exact hg
theorem KpI.put {l:Nat} {W:World} {o o':Obj} (h:W.heap[l]?=some o) (hc:o.isCells=false):KpI W (W.putObj l o') where
 size:=by simp
 cells g cs T m hg _:=by
  have:g ≠ l:=fun e=>by subst e; rw [h] at hg; injection hg with hg; subst hg; cases hc
  rw [kU this]; exact hg
theorem KpO.below {b l:Nat} {W W':World} (h:Below W.heap.size W W'):KpO b l W W' :=
 ⟨h.size,fun g cs T m hg _ _=>(h.block g (Array.getElem?_eq_some_iff.1 hg).1).trans hg,fun g o hg _ _ _=>(h.block g (Array.getElem?_eq_some_iff.1 hg).1).trans hg⟩
theorem KpI.below {W W':World} (h:Below W.heap.size W W'):KpI W W' :=
 ⟨h.size,fun g cs T m hg _=>(h.block g (Array.getElem?_eq_some_iff.1 hg).1).trans hg⟩
theorem KpO.toI {b l:Nat} {W W':World} (h:KpO b l W W'):KpI W W' :=
 ⟨h.size,fun g cs T m hg hT=>h.cells g cs T m hg (by rcases hT with e | e <;> (rw [e]; decide)) (by rcases hT with e | e <;> (rw [e]; decide))⟩
theorem xI {W W':World} (h:Below W.heap.size W W'):W.grownBy W' none:=⟨h.os,h.tape,h.output,h.size,fun k hk _=>h.block k hk⟩
theorem j5 {β:Type} {B:Nat} {I:β→World→Prop} (h:OwnFrom B I) {s:β} {W W':World} (hs:I s W) (hb:Below W.heap.size W W'):I s W':=h s W W' none hs (xI hb) (fun r e=>by cases e)
set_option maxRecDepth 100000
theorem Db {x y:Al}:iN x y=true ↔ x=y:=by
 unfold iN;simp only [Bool.and_eq_true,beq_iff_eq];constructor
 ·rintro ⟨h0,h1⟩;obtain ⟨xa,xb⟩:=x;obtain ⟨ya,yb⟩:=y;simp only at h0 h1;rw [ic h0,ic h1]
 ·rintro rfl; simp
theorem zQ (x y:Al):iN x y=iN y x:=by
 rw [Bool.eq_iff_iff,Db,Db];exact ⟨Eq.symm,Eq.symm⟩
theorem Kc (x y:Al) {v:Bool} (h:iN x y=v) (w:World) :
  (binOp .eql 40 (.agg #[.string x.t,.string x.s]) (.agg #[.string y.t,.string y.s])).run prog w=.ok (.bool v) w:=by
 subst h;go_simp;unfold iN
 (repeat' split) <;> simp_all
def gY (xs:List Al) (o:Al):Bool:=xs.any fun x=>iN x o
theorem Ii {xs:List Al} {o:Al} {k:Nat} (h:k < xs.length):gY (xs.take (k + 1)) o=(gY (xs.take k) o || iN xs[k] o):=by
 rw [List.take_succ_eq_append_getElem h];unfold gY;rw [List.any_append];simp only [List.any_cons,List.any_nil,Bool.or_false]
theorem Ke {xs:List Al} {o:Al} {k:Nat} (h:k < xs.length) (he:iN xs[k] o=true):gY xs o=true:=List.any_eq_true.2 ⟨xs[k],List.getElem_mem h,he⟩
theorem Fe (ad:Option Addr) (cap:Nat) (ts:List Al) (t:Al) (w:World) (hlen:ts.length≤1048576) (hs:gu w ad ts) :
  Calls prog 198 #[.slice ad ts.length cap,.agg #[.string t.t,.string t.s]] w fun e w'=>(∃ r:Int,e=.returned (.int .i64 r)∧decide (0≤r)=gY ts t)∧Below w.heap.size w w':=by
 obtain ⟨W,hW⟩:∃ W,W=w.alloc (.cells #[.string t.t,.string t.s] 40):=⟨_,rfl⟩;have HB0:Hid (Below w.heap.size w W):=by show Below _ _ _; rw [hW]; exact (Below.refl w.heap.size w).alloc (Nat.le_refl _) _
 have hz:w.heap.size < W.heap.size:=by rw [hW]; simp
 have b0:W.cell? ⟨w.heap.size,0,none⟩=some (.string t.t):=by rw [hW]; simp
 have b1:W.cell? ⟨w.heap.size,1,none⟩=some (.string t.s):=by rw [hW]; simp
 have HS:Hid (gu W ad ts):=hs.below HB0.out;clear hs;go_enter func198,ntmps198;go_wp2_with fail;rw [← hW];clear hW;go_loopw [8] (fun i wr=>∃ k:Nat,k≤ts.length∧i=.int .i64 k∧Hid (gY (ts.take k) t=false)∧Below W.heap.size W wr) (fun i _=>ts.length - (intOf i).toNat);case atStart=>exact ⟨0,Nat.zero_le _,rfl,rfl,Below.refl _ _⟩
 case round =>
  obtain ⟨k,hk,rfl,HP,hB⟩:=hrel;have a0:=aU hB hz b0;have a1:=aU hB hz b1;by_cases hlt:k < ts.length
  ·rcases HS.out.below hB with hnil | ⟨b,off,rfl,hb,hr⟩
   ·rw [hnil] at hlt; simp at hlt
   obtain ⟨t0,t1⟩:=hr k hlt;have hk1:=bq k;have hk2:(k:Int) < (ts.length:Int):=by omega
   clear hr;cases hq:iN t ts[k] with
   | true =>
    have HE:=Kc t ts[k] hq;have HN:Hid (gY ts t=true):=Ke hlt (by rw [zQ]; exact hq);go_wp2_with fail;go_quiet (fail);go_wp2;go_ret;exact ⟨⟨_,rfl,by rw [HN.out]; simp⟩,HB0.out.trans (below_drewN (hB.mono HB0.out.size) _)⟩
   | false =>
    have HE:=Kc t ts[k] hq;have HP2:Hid (gY (ts.take (k + 1)) t=false):=by show _=_; rw [Ii hlt,HP.out,zQ,hq]; rfl
    go_wp2_with fail;go_quiet (fail);go_wp2;go_roundw;case rel=>exact ⟨k + 1,by omega,by go_num,HP2,below_drewN hB _⟩
    case measure=>simp [intOf] <;> omega
  ·obtain rfl:k=ts.length:=by omega
   have HN:Hid (gY ts t=false):=by have:=HP.out; rw [List.take_length] at this; exact this
   go_wp2;go_ret;exact ⟨⟨-1,rfl,by rw [HN.out]; rfl⟩,HB0.out.trans (hB.mono HB0.out.size)⟩
theorem yG (ad:Option Addr) (cap:Nat) (ts:List Al) (t:Al) (w:World) (hlen:ts.length≤1048576) (hs:gu w ad ts) :
  Calls prog 173 #[.slice ad ts.length cap,.agg #[.string t.t,.string t.s]] w fun e w'=>e=.returned (.bool (gY ts t))∧Below w.heap.size w w':=by
 have HB0:Hid (Below w.heap.size w (w.alloc (.cells #[.string t.t,.string t.s] 40))):=(Below.refl w.heap.size w).alloc (Nat.le_refl _) _;have HS:=aj hs;clear hs;go_enter func173,ntmps173;go_wp2_with fail;refine (Fe ad cap ts t _ hlen (HS.out.below HB0.out)).mono ?_;rintro e w1 ⟨⟨r,rfl,hr⟩,hb1⟩;have HR:=aj hr;have HB1:=aj (HB0.out.trans (hb1.mono HB0.out.size));clear hr hb1;go_wp2;go_ret;exact ⟨ae HR.out,HB1.out⟩
def aM (xs:List Al) (o:Al):List Al:=if gY xs o then xs else xs ++ [o]
theorem xJ:∃ i,prog.info? 40=some i∧i.zero=some (.agg #[.string ⟨#[]⟩,.string ⟨#[]⟩])∧i.size=2∧i.bytes=32 :=
 info_parts (P:=prog) (e:=40) (z:=.agg #[.string ⟨#[]⟩,.string ⟨#[]⟩]) (size:=2) (bytes:=32) (by kernel_rfl)
theorem jg {w:World} {base:Nat} {v:Value} {xs:List Al} (h:w.ownsRow base 40 2 v xs.length (pairs xs)):∃ ad cap,v=.slice ad xs.length cap∧gu w ad xs:=by
 rcases h.2 with ⟨rfl,h0⟩ | ⟨g,cap,cur,rfl,hbg,hg,hnc,-⟩
 ·exact ⟨none,0,by rw [h0],.inl (List.length_eq_zero_iff.1 h0)⟩
 ·refine ⟨_,cap,rfl,.inr ⟨g,0,rfl,(h.lt g rfl).2,fun i hi=>?_⟩⟩;obtain ⟨h0,h1⟩:=wh xs i hi;have hl:=nW xs;refine ⟨?_,?_⟩
  ·rw [h.cellAt (0 + i * 2) (by omega),Nat.zero_add]; exact h0
  ·rw [h.cellAt (0 + i * 2 + 1) (by omega),Nat.zero_add]; exact h1
theorem jM (B:Nat) (v:Value) (xs:List Al) (o:Al) (w:World) (hlen:xs.length≤1000) (hB:B≤w.heap.size) (hown:w.ownsRow B 40 2 v xs.length (pairs xs)) :
  Calls prog 131 #[v,.agg #[.string o.t,.string o.s]] w fun e w'=>∃ v',e=.returned v'∧w'.ownsRow B 40 2 v' (aM xs o).length (pairs (aM xs o))∧Aside w v w' v'∧∀ B',(∀ g,v.ownBlock=some g→B'≤g)→B'≤w.heap.size→Below B' w w':=by
 obtain ⟨iO,h0,h1,h2,h3⟩:=xJ;have HIO:=aj (And.intro h0 (And.intro h1 (And.intro h2 h3)));obtain ⟨ad,cap,rfl,hsl⟩:=jg hown;obtain ⟨W,hW⟩:∃ W,W=w.alloc (.cells #[.string o.t,.string o.s] 40):=⟨_,rfl⟩;have HB0:Hid (Below w.heap.size w W):=by show Below _ _ _; rw [hW]; exact (Below.refl w.heap.size w).alloc (Nat.le_refl _) _
 have hz:w.heap.size < W.heap.size:=by rw [hW]; simp
 have b0:W.cell? ⟨w.heap.size,0,none⟩=some (.string o.t):=by rw [hW]; simp
 have b1:W.cell? ⟨w.heap.size,1,none⟩=some (.string o.s):=by rw [hW]; simp
 have HSL:=aj hsl;have HO:=aj hown;clear hsl hown h0 h1 h2 h3;go_enter func131,ntmps131;go_wp2_with fail;rw [← hW];clear hW;refine (yG ad cap xs o _ (by omega) (HSL.out.below HB0.out)).mono ?_;rintro e w1 ⟨rfl,hb1⟩;have HB1:=aj (HB0.out.trans (hb1.mono HB0.out.size));have c0:=aU hb1 hz b0;have c1:=aU hb1 hz b1;have HO1:=aj (aH HO.out HB1.out);have HA1:Hid (Aside w (.slice ad xs.length cap) w1 (.slice ad xs.length cap)):=Aside.below HB1.out;clear hb1 b0 b1;cases hh:gY xs o with
 | true =>
  have HW:Hid (aM xs o=xs):=by show _=_; unfold aM; rw [hh]; rfl
  go_wp2;go_ret;exact ⟨_,rfl,by rw [HW.out]; exact HO1.out,HA1.out,fun B' _ hB'=>HB1.out.mono hB'⟩
 | false =>
  have HW:Hid (aM xs o=xs ++ [o]):=by show _=_; unfold aM; rw [hh]; rfl
  obtain ⟨W2,hW2⟩:∃ W2,W2=w1.alloc (.cells #[.string o.t,.string o.s] 40):=⟨_,rfl⟩;have HO2:Hid (W2.ownsRow B 40 2 (.slice ad xs.length cap) xs.length (pairs xs)):=by show World.ownsRow _ _ _ _ _ _ _; rw [hW2]; exact HO1.out.alloc _
  have HA2:Hid (Aside w (.slice ad xs.length cap) W2 (.slice ad xs.length cap)):=by show Aside _ _ _ _; rw [hW2]; exact HA1.out.trans (Aside.below ((Below.refl _ _).alloc (Nat.le_refl _) _))
  have HBW2:Hid (Below w.heap.size w W2):=by show Below _ _ _; rw [hW2]; exact HB1.out.alloc HB1.out.size _
  have HN2:Hid (∀ j u,[Value.string o.t,.string o.s][j]?=some u→W2.cell? ((⟨w1.heap.size,0,none⟩:Addr).add j)=some u):=fun j u hu=>by
   rw [hW2]
   match j,hu with
   | 0,hu=>simp at hu; subst hu; simp [Addr.add]
   | 1,hu=>simp at hu; subst hu; simp [Addr.add]
  have hsz2:B≤W2.heap.size:=by have:=HB1.out.size; rw [hW2]; simp; omega
  clear hh;go_wp2_with (at_builtin; rw [← hW2]; clear hW2; refine wpList_append_own_at _ rfl _ _ 139 rfl B 40 iO (.agg #[.string ⟨#[]⟩,.string ⟨#[]⟩]) 2 32 underlying139 HIO.out.1 HIO.out.2.1 HIO.out.2.2.1 HIO.out.2.2.2 rfl (by decide) _ xs.length (pairs xs) rfl HO2.out ⟨w1.heap.size,0,none⟩ 1 1 [.string o.t,.string o.s] rfl rfl HN2.out (by simp [Value.oneCell']) (by unfold maxLen; omega) (by omega) hsz2 ?_);intro v' w3 hown hgr _ hat;have HE:Hid (w3.ownsRow B 40 2 v' (aM xs o).length (pairs (aM xs o))):=by
   show World.ownsRow _ _ _ _ _ _ _;rw [HW.out,List.length_append];have:pairs (xs ++ [o])=pairs xs ++ [.string o.t,.string o.s]:=by simp [pairs]
   rw [this]; exact hown
  have HA3:Hid (Aside w (.slice ad xs.length cap) w3 v'):=HA2.out.trans (Aside.app hgr hat);have HBL:Hid (∀ B',(∀ g,(Value.slice ad xs.length cap).ownBlock=some g→B'≤g)→B'≤w.heap.size→Below B' w w3):=fun B' hv hB'=>(HBW2.out.mono hB').grown hgr (Nat.le_trans hB' HBW2.out.size) hv;clear hown hgr hat;go_wp2;go_ret;exact ⟨_,rfl,HE.out,HA3.out,HBL.out⟩
def dQ (fs:List Fc):List Value:=fs.flatMap Fc.row
theorem sV:∀ fs:List Fc,(dQ fs).length=fs.length * 5
 | []=>rfl
 | f::fs=>by have:=sV fs; simp only [dQ,List.flatMap_cons,List.length_append,List.length_cons,Fc.row,List.length_nil] at this ⊢; omega
theorem xK (fs:List Fc) (f:Fc):dQ (fs ++ [f])=dQ fs ++ f.row:=by simp [dQ]
theorem rf:∀ (fs:List Fc) (i:Nat) (h:i < fs.length) (c:Nat),c < 5→(dQ fs)[i * 5 + c]?=fs[i].row[c]?
 | [],i,h,_,_=>by simp at h
 | f::fs,0,_,c,hc=>by
  simp only [dQ,List.flatMap_cons,Nat.zero_mul,Nat.zero_add,List.getElem_cons_zero];rw [List.getElem?_append_left (by simp [Fc.row]; omega)]
 | f::fs,i + 1,h,c,hc=>by
  have ih:=rf fs i (by simpa using h) c hc;simp only [dQ,List.flatMap_cons,List.getElem_cons_succ] at ih ⊢;rw [List.getElem?_append_right (by simp [Fc.row]; omega)];have:(i + 1) * 5 + c - f.row.length=i * 5 + c:=by simp [Fc.row]; omega
  rw [this]; exact ih
theorem oW {w:World} {base:Nat} {v:Value} {fs:List Fc} (h:w.ownsRow base 63 5 v fs.length (dQ fs)):∃ ad cap,v=.slice ad fs.length cap∧yh w ad fs:=by
 rcases h.2 with ⟨rfl,h0⟩ | ⟨g,cap,cur,rfl,hbg,hg,hnc,-⟩
 ·exact ⟨none,0,by rw [h0],.inl (List.length_eq_zero_iff.1 h0)⟩
 ·refine ⟨_,cap,rfl,.inr ⟨g,0,rfl,(h.lt g rfl).2,fun i hi=>?_⟩⟩;have hl:=sV fs;have hc:∀ c,c < 5→w.cell? ⟨g,0 + i * 5 + c,none⟩=fs[i].row[c]?:=fun c hc=>by
   rw [h.cellAt (0 + i * 5 + c) (by omega),Nat.zero_add]; exact rf fs i hi c hc
  exact ⟨hc 0 (by omega),hc 1 (by omega),hc 2 (by omega),hc 3 (by omega),hc 4 (by omega)⟩
theorem Gj:∃ i,prog.info? 63=some i∧i.zero=some (.agg #[.string ⟨#[]⟩,.string ⟨#[]⟩,.string ⟨#[]⟩,.string ⟨#[]⟩,.string ⟨#[]⟩])∧i.size=5∧i.bytes=80 :=
 info_parts (P:=prog) (e:=63) (z:=.agg #[.string ⟨#[]⟩,.string ⟨#[]⟩,.string ⟨#[]⟩,.string ⟨#[]⟩,.string ⟨#[]⟩]) (size:=5) (bytes:=80) (by kernel_rfl)
theorem MK (w:World) (f:Fc):∀ j u,f.row[j]?=some u→(w.alloc (.cells #[.string f.a,.string f.b,.string f.r,.string f.c,.string f.d] 63)).cell? ((⟨w.heap.size,0,none⟩:Addr).add j)=some u:=fun j u hu=>by
 match j,hu with
 | 0,hu=>simp [Fc.row] at hu; subst hu; simp [Addr.add]
 | 1,hu=>simp [Fc.row] at hu; subst hu; simp [Addr.add]
 | 2,hu=>simp [Fc.row] at hu; subst hu; simp [Addr.add]
 | 3,hu=>simp [Fc.row] at hu; subst hu; simp [Addr.add]
 | 4,hu=>simp [Fc.row] at hu; subst hu; simp [Addr.add]
structure OutI (w W wr:World) (v:Value) (out:List Fc):Prop where
 row:wr.ownsRow w.heap.size 63 5 v out.length (dQ out)
 keep:∀ g o x,W.cell? ⟨g,o,none⟩=some x→wr.cell? ⟨g,o,none⟩=some x
 size:W.heap.size≤wr.heap.size
 bel:Below w.heap.size w wr
 free:∀ g,v.ownBlock=some g→∀ o,W.cell? ⟨g,o,none⟩=none
theorem aA {w:World} {g o:Nat} {x:Value} (h:w.cell? ⟨g,o,none⟩=some x):g < w.heap.size:=by
 unfold World.cell? at h;cases ho:w.heap[g]? with
 | none=>simp [ho] at h
 | some o=>exact (Array.getElem?_eq_some_iff.1 ho).1
theorem LD {w:World} {g o:Nat} (h:w.heap.size≤g):w.cell? ⟨g,o,none⟩=none:=by
 cases e:w.cell? ⟨g,o,none⟩ with
 | none=>rfl
 | some x=>have:=aA e; omega
theorem OutI.below {w W wr w':World} {v:Value} {out:List Fc} (h:OutI w W wr v out) (hb:Below wr.heap.size wr w'):OutI w W w' v out where
 row:=aH h.row hb
 keep g o x hx:=(hb.cell (p:=⟨g,o,none⟩) (aA (h.keep g o x hx))).trans (h.keep g o x hx)
 size:=Nat.le_trans h.size hb.size
 bel:=h.bel.trans (hb.mono h.bel.size)
 free:=h.free
theorem OutI.app {w W wr w':World} {v v':Value} {out:List Fc} {f:Fc} (h:OutI w W wr v out) (hown:w'.ownsRow w.heap.size 63 5 v' (out.length + 1) (dQ out ++ f.row)) (hgr:wr.grownBy w' v.ownBlock) (hat:v'.ownBlock=v.ownBlock ∨ v'.ownBlock=some wr.heap.size):OutI w W w' v' (out ++ [f]) where
 row:=by rw [xK,List.length_append]; exact hown
 keep g o x hx:=by
  have h1:=h.keep g o x hx;refine (World.cell?_of_block (w:=wr) (a:=⟨g,o,none⟩) (hgr.block g (aA h1) fun e=>?_)).trans h1;rw [h.free g e.symm o] at hx;cases hx
 size:=Nat.le_trans h.size hgr.size
 bel:=h.bel.grown hgr h.bel.size (fun g hg=>(h.row.lt g hg).1)
 free g hg o:=by
  rcases hat with e | e
  ·rw [e] at hg; exact h.free g hg o
  ·rw [hg] at e; injection e with e; rw [e]; exact LD h.size
theorem gu.keepC {w w':World} {ad:Option Addr} {xs:List Al} (h:gu w ad xs) (hs:w.heap.size≤w'.heap.size) (hk:∀ g o x,w.cell? ⟨g,o,none⟩=some x→w'.cell? ⟨g,o,none⟩=some x):gu w' ad xs:=by
 rcases h with h | ⟨b,off,e,hb,hr⟩
 ·exact .inl h
 ·exact .inr ⟨b,off,e,Nat.lt_of_lt_of_le hb hs,fun i hi=>⟨hk _ _ _ (hr i hi).1,hk _ _ _ (hr i hi).2⟩⟩
theorem Eu.keepC {w w':World} {ad:Option Addr} {xs:List St} (h:Eu w ad xs) (hs:w.heap.size≤w'.heap.size) (hk:∀ g o x,w.cell? ⟨g,o,none⟩=some x→w'.cell? ⟨g,o,none⟩=some x):Eu w' ad xs:=by
 rcases h with h | ⟨b,off,e,hb,hr⟩
 ·exact .inl h
 ·exact .inr ⟨b,off,e,Nat.lt_of_lt_of_le hb hs,fun i hi=>⟨hk _ _ _ (hr i hi).1,hk _ _ _ (hr i hi).2.1,hk _ _ _ (hr i hi).2.2⟩⟩
theorem Eu.at0 {w:World} {ad:Option Addr} {xs:List St} (h:Eu w ad xs) {k:Nat} (hk:k < xs.length):∃ b off,ad=some ⟨b,off,none⟩∧Nz w b (off + k * 3) xs[k]∧b < w.heap.size:=by
 rcases h with h | ⟨b',off',e,hb,hr⟩
 ·rw [h] at hk; simp at hk
 ·exact ⟨b',off',e,hr k hk,hb⟩
def M4:Value→Nat
 | .slice _ n _=>n
 | _=>0
def Og:Value→Nat
 | .bool true=>1
 | _=>0
def Fc.fits (t:Fc):Prop:=t.a.size≤maxLen∧t.b.size≤maxLen∧t.r.size≤maxLen∧t.c.size≤maxLen∧t.d.size≤maxLen
def kD (k:Fc):Value:=.agg #[.string k.a,.string k.b,.string k.r,.string k.c,.string k.d]
theorem Kg (x y:Fc) (h:kD x=kD y):x=y:=by
 unfold kD at h;injection h with h;have h1:=congrArg Array.toList h;simp at h1;obtain ⟨xa,xb,xr,xc,xd⟩:=x;obtain ⟨ya,yb,yr,yc,yd⟩:=y;simp only at h1;obtain ⟨rfl,rfl,rfl,rfl,rfl⟩:=h1;rfl
theorem Kh:laidOutB prog=true:=by kernel_rfl
theorem M5:(63:TypeId) < prog.types.size:=of_decide_eq_true (by kernel_rfl)
theorem LF:(match prog.underlying 63 with | some (.array _ _) | some (.struct _)=>true | _=>false)=true:=by rw [underlying63]
set_option maxRecDepth 100000 in
theorem LG:WideMaps.KeyLaw prog 63:=deep_law_laid Kh (m:=3) (by omega) M5 (by kernel_rfl) LF
theorem Ki:Keyed prog 63:=Keyed.of_law LG
theorem LH:prog.keyType 63=true:=by kernel_rfl
theorem Dc:prog.cellsOf 63=5:=by kernel_rfl
theorem Ij:prog.cellsOf 40=2:=by kernel_rfl
theorem Ik:prog.cellsOf 9=1:=by kernel_rfl
theorem Il:2≤prog.types.size:=of_decide_eq_true (by kernel_rfl)
theorem Ff:∃ n,prog.types.size=n + 2:=⟨prog.types.size - 2,by have:=Il; omega⟩
set_option maxRecDepth 100000 in
theorem De (k:Fc) (h:k.fits):∃ kl,keyOf prog 63 (kD k)=some kl:=by
 obtain ⟨n,hn⟩:=Ff;obtain ⟨h0,h1,h2,h3,h4⟩:=h;refine ⟨.string (keyBytes [.string k.a.data.toList,.string k.b.data.toList,.string k.r.data.toList,.string k.c.data.toList,.string k.d.data.toList]),?_⟩;unfold keyOf;rw [underlying63];simp only [LH,kD,Value.formed,underlying63,Dc,hn,Value.cells];simp +decide [Program.keyLits,underlying63,underlying40,underlying9,Dc,Ij,Ik,h0,h1,h2,h3,h4]
theorem Kj (w:World):(zeroValue 178).run prog w=.ok (.agg #[]) w:=by kernel_rfl
theorem Df (b n:Nat) (M:Fc→Option Value) (f:Fc) (w:World) (hf:f.fits) (hV:aD kD prog 63 w b n M) (hM:∀ v,M f=some v→v=.agg #[]) :
  Calls prog 64 #[.map (some b),.agg #[.string f.a,.string f.b,.string f.r,.string f.c,.string f.d]] w fun e w'=>e=.returned (.bool (M f).isSome)∧Below w.heap.size w w':=by
 obtain ⟨kl,hkl⟩:=De f hf;have HKL:Hid (keyOf prog 63 (kD f)=some kl):=hkl;have HM:Hid ((M f).getD (.agg #[])=.agg #[]):=by
  show _=_;cases e:M f with
  | none=>rfl
  | some v=>exact hM v e
 obtain ⟨W,hW⟩:∃ W,W=w.alloc (.cells #[.string f.a,.string f.b,.string f.r,.string f.c,.string f.d] 63):=⟨_,rfl⟩;have HB:=mq hW;have HV:Hid (aD kD prog 63 W b n M):=hV.below HB.out;have HB2:Hid (Below w.heap.size w (W.alloc (.cells #[] 178))):=HB.out.alloc HB.out.size _;clear hkl hV hM;go_enter func64,ntmps64;go_wp2_with (at_lookup; rw [← hW]; clear hW; refine df _ rfl _ _ 114 rfl 63 178 Ki underlying114 (Kj _) b n M rfl HV.out f kl rfl HKL.out ?_; rw [HM.out]);go_ret;exact ⟨rfl,HB2.out⟩
end Go.Proofs.YtdmniljjnaebbaaGreatDoor
namespace Go.Proofs.YtdmniljjnaebbaaGreatDoor.G
open Go.ChangeShapes Go.WideShapes Go.ChangeAt Go.RowKit Go.Maps
open Pl
variable {K α:Type} {enc:K→Value} {P:Program} {kt et:TypeId} {sz:Nat} {cl:α→List Value}
def FreeB (M:K→Option Value) (g:Nat):Prop:=∀ k v,M k=some v→v.ownBlock ≠ some g
structure Stl (W:World) (M:K→Option Value) (w2:World) (M2:K→Option Value) (bL:Nat):Prop where
 size:W.heap.size≤w2.heap.size
 block:∀ g,g < W.heap.size→g ≠ bL→FreeB M g→w2.heap[g]?=W.heap[g]?
 free:∀ g,g < W.heap.size→FreeB M g→FreeB M2 g
theorem Stl.refl (W:World) (M:K→Option Value) (bL:Nat):Stl W M W M bL:=⟨Nat.le_refl _,fun _ _ _ _=>rfl,fun _ _ h=>h⟩
theorem Stl.trans {W w2 w3:World} {M M2 M3:K→Option Value} {bL:Nat} (h:Stl W M w2 M2 bL) (h2:Stl w2 M2 w3 M3 bL):Stl W M w3 M3 bL where
 size:=Nat.le_trans h.size h2.size
 block g hg hb hf:=(h2.block g (Nat.lt_of_lt_of_le hg h.size) hb (h.free g hg hf)).trans (h.block g hg hb hf)
 free g hg hf:=h2.free g (Nat.lt_of_lt_of_le hg h.size) (h.free g hg hf)
theorem Stl.below {W w2:World} {M:K→Option Value} {bL:Nat} (hB:Below W.heap.size W w2):Stl W M w2 M bL:=⟨hB.size,fun g hg _ _=>hB.block g hg,fun _ _ h=>h⟩
structure Cel (w:World) (M:K→Option Value) (bL g o:Nat) (u:Value):Prop where
 cell:w.cell? ⟨g,o,none⟩=some u
 lt:g < w.heap.size
 free:FreeB M g
 ne:g ≠ bL
theorem Cel.stl {w w2:World} {M M2:K→Option Value} {bL g o:Nat} {u:Value} (h:Cel w M bL g o u) (hS:Stl w M w2 M2 bL):Cel w2 M2 bL g o u where
 cell:=(World.cell?_of_block (w:=w) (hS.block g h.lt h.ne h.free)).trans h.cell
 lt:=Nat.lt_of_lt_of_le h.lt hS.size
 free:=hS.free g h.lt h.free
 ne:=h.ne
theorem Fg {w w':World} {base:Nat} {e:TypeId} {size:Nat} {v:Value} {n:Nat} {xs:List Value} (h:w.ownsRow base e size v n xs) (hb:Below w.heap.size w w'):w'.ownsRow base e size v n xs:=by
 have hl:=fun g hg=>(h.lt g hg).2;refine ⟨h.1,?_⟩;rcases h.2 with h0 | ⟨g,cap,cur,rfl,h1,h2,h3⟩
 ·exact .inl h0
 ·exact .inr ⟨g,cap,cur,rfl,h1,(hb.block g (hl g rfl)).trans h2,h3⟩
variable [DecidableEq K]
def flatG (cl:α→List Value) (xs:List α):List Value:=xs.flatMap cl
theorem Fh (cl:α→List Value) (xs:List α) (x:α):flatG cl (xs ++ [x])=flatG cl xs ++ cl x:=by simp [flatG]
def lookL (E:List (K × α)) (k:K):List α:=E.filterMap fun p=>if p.1=k then some p.2 else none
theorem lookL_append (E F:List (K × α)) (k:K):lookL (E ++ F) k=lookL E k ++ lookL F k:=by unfold lookL; rw [List.filterMap_append]
theorem pY (E:List (K × α)) (k:K) (s:α):lookL (E ++ [(k,s)]) k=lookL E k ++ [s]:=by rw [lookL_append]; simp [lookL]
theorem ni (E:List (K × α)) {k y:K} (s:α) (h:k ≠ y):lookL (E ++ [(y,s)]) k=lookL E k:=by rw [lookL_append]; simp [lookL,Ne.symm h]
theorem mem_lookL {E:List (K × α)} {k:K} {s:α}:s ∈ lookL E k ↔ (k,s) ∈ E:=by
 unfold lookL;rw [List.mem_filterMap];constructor
 ·rintro ⟨⟨a,b⟩,h1,h2⟩;simp only at h2;split at h2
  ·rename_i e; injection h2 with h2; rw [← e,← h2]; exact h1
  ·cases h2
 ·intro h; exact ⟨(k,s),h,by simp⟩
structure Grp (enc:K→Value) (P:Program) (kt et:TypeId) (sz:Nat) (cl:α→List Value) (w:World) (bL n:Nat) (M:K→Option Value) (E:List (K × α)):Prop where
 map:aD enc P kt w bL n M
 row:∀ k,(M k=none∧lookL E k=[]) ∨ ∃ v,M k=some v∧w.ownsRow (bL + 1) et sz v (lookL E k).length (flatG cl (lookL E k))
 apart:∀ k k' v v',k ≠ k'→M k=some v→M k'=some v'→∀ g,v.ownBlock=some g→v'.ownBlock ≠ some g
theorem Grp.lt {w:World} {bL n:Nat} {M:K→Option Value} {E:List (K × α)} (h:Grp enc P kt et sz cl w bL n M E) {k:K} {v:Value} (hk:M k=some v) {g:Nat} (hg:v.ownBlock=some g):bL < g∧g < w.heap.size:=by
 rcases h.row k with ⟨e,-⟩ | ⟨v',e,ho⟩
 ·rw [e] at hk; cases hk
 ·rw [e] at hk; injection hk with hk; subst hk;have:=ho.lt g hg;exact ⟨by omega,this.2⟩
theorem Grp.fresh {w:World} {bL n:Nat} {M:K→Option Value} {E:List (K × α)} (h:Grp enc P kt et sz cl w bL n M E) {g:Nat} (hg:w.heap.size≤g):FreeB M g:=fun k v hk e=>by
 have:=(h.lt hk e).2; omega
theorem Grp.mono {w:World} {bL n n':Nat} {M:K→Option Value} {E:List (K × α)} (h:Grp enc P kt et sz cl w bL n M E) (hn:n≤n'):Grp enc P kt et sz cl w bL n' M E:=⟨h.map.mono hn,h.row,h.apart⟩
theorem Grp.below {w w':World} {bL n:Nat} {M:K→Option Value} {E:List (K × α)} (h:Grp enc P kt et sz cl w bL n M E) (hB:Below w.heap.size w w'):Grp enc P kt et sz cl w' bL n M E where
 map:=h.map.below hB
 row k:=by
  rcases h.row k with e | ⟨v,e,ho⟩
  ·exact .inl e
  ·exact .inr ⟨v,e,Fg ho hB⟩
 apart:=h.apart
theorem grp_made (w:World):Grp enc P kt et sz cl (w.alloc (.map #[] 0)) w.heap.size 0 (fun _=>none) [] where
 map:=kJ _ _ _ w
 row k:=.inl ⟨rfl,rfl⟩
 apart k k' v v' _ h:=by cases h
theorem Grp.step {W0 w1 w2 w3:World} {bL n:Nat} {M:K→Option Value} {E:List (K × α)} {y:K} {v':Value} {s:α} (h:Grp enc P kt et sz cl W0 bL n M E) (hg1:W0.grownBy w1 (some bL)) (hown:w2.ownsRow (bL + 1) et sz v' ((lookL E y).length + 1) (flatG cl (lookL E y) ++ cl s))
  (hg2:w1.grownBy w2 ((M y).getD (.slice none 0 0)).ownBlock) (hloc:v'.ownBlock=((M y).getD (.slice none 0 0)).ownBlock ∨ v'.ownBlock=some w1.heap.size) (hg3:w2.grownBy w3 (some bL)) (hM:aD enc P kt w3 bL (n + 1) (ji M y (some v'))) :
  Grp enc P kt et sz cl w3 bL (n + 1) (ji M y (some v')) (E ++ [(y,s)])∧Stl W0 M w3 (ji M y (some v')) bL:=by
 have hrow0:∀ k v,M k=some v→∃ xs m,W0.ownsRow (bL + 1) et sz v m xs:=fun k v hk=>by
  rcases h.row k with ⟨e,-⟩ | ⟨v1,e,ho⟩
  ·rw [e] at hk; cases hk
  ·rw [e] at hk; injection hk with hk; subst hk; exact ⟨_,_,ho⟩
 have hne2:∀ k v,k ≠ y→M k=some v→v.ownBlock=none ∨ v.ownBlock ≠ ((M y).getD (.slice none 0 0)).ownBlock:=fun k v hky hk=>by
  cases e:v.ownBlock with
  | none=>exact .inl rfl
  | some g =>
   right;cases ey:M y with
   | none=>simp [Value.ownBlock]
   | some vy=>intro e2; exact h.apart k y v vy hky hk ey g e (by simpa using e2.symm)
 have hnb:∀ v,(∃ k,M k=some v)→v.ownBlock=none ∨ v.ownBlock ≠ some bL:=fun v ⟨k,hk⟩=>by
  cases e:v.ownBlock with
  | none=>exact .inl rfl
  | some g=>right; have:=(h.lt hk e).1; intro e2; injection e2 with e2; omega
 have hnew:∀ g,v'.ownBlock=some g→bL < g:=fun g e=>by have:=(hown.lt g e).1; omega
 have hv'b:v'.ownBlock=none ∨ v'.ownBlock ≠ some bL:=by
  cases e:v'.ownBlock with
  | none=>exact .inl rfl
  | some g=>right; have:=hnew g e; intro e2; injection e2 with e2; omega
 constructor
 ·refine ⟨hM,fun k=>?_,fun k k' v u hkk hk hk' g e=>?_⟩
  ·by_cases ek:k=y
   ·subst ek;rw [dx,pY];refine .inr ⟨v',rfl,?_⟩;rw [Fh,List.length_append];exact hown.kept hg3 hv'b
   ·rw [bn ek,ni _ _ ek];rcases h.row k with e | ⟨v,e,ho⟩
    ·exact .inl e
    ·exact .inr ⟨v,e,((ho.kept hg1 (hnb v ⟨k,e⟩)).kept hg2 (hne2 k v ek e)).kept hg3 (hnb v ⟨k,e⟩)⟩
  ·by_cases ek:k=y
   ·subst ek;rw [dx] at hk; injection hk with hk; subst hk;rw [bn (Ne.symm hkk)] at hk';intro e2;rcases hloc with el | el
    ·rw [e] at el;cases ey:M k with
     | none=>rw [ey] at el; simp [Value.ownBlock] at el
     | some vy=>rw [ey] at el; exact h.apart k k' vy u hkk ey hk' g (by simpa using el.symm) e2
    ·rw [e] at el; injection el with el;have:=(h.lt hk' e2).2;have:=hg1.size;omega
   ·rw [bn ek] at hk;by_cases ek':k'=y
    ·subst ek';rw [dx] at hk'; injection hk' with hk'; subst hk';intro e2;rcases hloc with el | el
     ·rw [e2] at el;cases ey:M k' with
      | none=>rw [ey] at el; simp [Value.ownBlock] at el
      | some vy=>rw [ey] at el; exact h.apart k k' v vy hkk hk ey g e (by simpa using el.symm)
     ·rw [e2] at el; injection el with el;have:=(h.lt hk e).2;have:=hg1.size;omega
    ·rw [bn ek'] at hk';exact h.apart k k' v u hkk hk hk' g e
 ·refine ⟨Nat.le_trans hg1.size (Nat.le_trans hg2.size hg3.size),fun g hg hb hf=>?_,fun g hg hf k v hk=>?_⟩
  ·have h1:=hg1.block g hg (fun e=>hb (by injection e));have h2:=hg2.block g (Nat.lt_of_lt_of_le hg hg1.size) (fun e=>by
    cases ey:M y with
    | none=>rw [ey] at e; simp [Value.ownBlock] at e
    | some vy=>rw [ey] at e; exact hf y vy ey (by simpa using e.symm))
   have h3:=hg3.block g (Nat.lt_of_lt_of_le hg (Nat.le_trans hg1.size hg2.size)) (fun e=>hb (by injection e));rw [h3,h2,h1]
  ·by_cases ek:k=y
   ·subst ek;rw [dx] at hk; injection hk with hk; subst hk;intro e2;rcases hloc with el | el
    ·rw [e2] at el;cases ey:M k with
     | none=>rw [ey] at el; simp [Value.ownBlock] at el
     | some vy=>rw [ey] at el; exact hf k vy ey (by simpa using el.symm)
    ·rw [e2] at el; injection el with el; have:=hg1.size; omega
   ·rw [bn ek] at hk;exact hf k v hk
end Go.Proofs.YtdmniljjnaebbaaGreatDoor.G
