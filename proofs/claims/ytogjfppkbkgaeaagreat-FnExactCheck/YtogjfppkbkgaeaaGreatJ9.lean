/- Contracts of the library's search in a slice of objects, as the program calls it; an object put behind a list that lacks it. -/
import Derived.Test.YtogjfppkbkgaeaaGreatJ8
import Derived.Test.YtogjfppkbkgaeaaGreatJ2
import Derived.Test.YtogjfppkbkgaeaaGreatJ5
import Derived.Maps.OwnSet
import Derived.DeepKeys4
namespace Go.Proofs.YtogjfppkbkgaeaaGreat
set_option maxRecDepth 100000
set_option linter.unusedVariables false
open Go.ChangeShapes Go.WideShapes Go.ChangeAt Go.RowKit
open Pl
theorem alEq_iff {x y:Al}:alEq x y=true ↔ x=y:=by
 unfold alEq
 simp only [Bool.and_eq_true,beq_iff_eq]
 constructor
 ·rintro ⟨h0,h1⟩
  obtain ⟨xa,xb⟩:=x
  obtain ⟨ya,yb⟩:=y
  simp only at h0 h1
  rw [byte_inj h0,byte_inj h1]
 ·rintro rfl; simp
theorem obEq_comm (x y:Al):alEq x y=alEq y x:=by
 rw [Bool.eq_iff_iff,alEq_iff,alEq_iff]
 exact ⟨Eq.symm,Eq.symm⟩
theorem ob_eql (x y:Al) {v:Bool} (h:alEq x y=v) (w:World) :
  (binOp .eql 45 (.agg #[.string x.t,.string x.s]) (.agg #[.string y.t,.string y.s])).run Tryz.prog w=.ok (.bool v) w:=by
 subst h
 go_simp
 unfold alEq
 (repeat' split) <;> simp_all
def hasO (xs:List Al) (o:Al):Bool:=xs.any fun x=>alEq x o
theorem hasO_take {xs:List Al} {o:Al} {k:Nat} (h:k < xs.length):hasO (xs.take (k + 1)) o=(hasO (xs.take k) o || alEq xs[k] o):=by
 rw [List.take_succ_eq_append_getElem h]
 unfold hasO
 rw [List.any_append]
 simp only [List.any_cons,List.any_nil,Bool.or_false]
theorem hasO_hit {xs:List Al} {o:Al} {k:Nat} (h:k < xs.length) (he:alEq xs[k] o=true):hasO xs o=true:=List.any_eq_true.2 ⟨xs[k],List.getElem_mem h,he⟩
set_option maxHeartbeats 2000000 in
theorem indexO_any (ad:Option Addr) (cap:Nat) (ts:List Al) (t:Al) (w:World) (hlen:ts.length≤1048576) (hs:SlA w ad ts) :
  Calls Tryz.prog 161 #[.slice ad ts.length cap,.agg #[.string t.t,.string t.s]] w fun e w'=>(∃ r:Int,e=.returned (.int .i64 r)∧decide (0≤r)=hasO ts t)∧Below w.heap.size w w':=by
 obtain ⟨W,hW⟩:∃ W,W=w.alloc (.cells #[.string t.t,.string t.s] 45):=⟨_,rfl⟩
 have HB0:Hid (Below w.heap.size w W):=by show Below _ _ _; rw [hW]; exact (Below.refl w.heap.size w).alloc (Nat.le_refl _) _
 have hz:w.heap.size < W.heap.size:=by rw [hW]; simp
 have b0:W.cell? ⟨w.heap.size,0,none⟩=some (.string t.t):=by rw [hW]; simp
 have b1:W.cell? ⟨w.heap.size,1,none⟩=some (.string t.s):=by rw [hW]; simp
 have HS:Hid (SlA W ad ts):=hs.below HB0.out
 clear hs
 go_enter Tryz.func161,Tryz.ntmps161
 go_wp2_with fail
 rw [← hW]
 clear hW
 go_loopw [8] (fun i wr=>∃ k:Nat,k≤ts.length∧i=.int .i64 k∧Hid (hasO (ts.take k) t=false)∧Below W.heap.size W wr) (fun i _=>ts.length - (intOf i).toNat)
 case atStart=>exact ⟨0,Nat.zero_le _,rfl,rfl,Below.refl _ _⟩
 case round =>
  obtain ⟨k,hk,rfl,HP,hB⟩:=hrel
  have a0:=keptC hB hz b0
  have a1:=keptC hB hz b1
  by_cases hlt:k < ts.length
  ·rcases HS.out.below hB with hnil | ⟨b,off,rfl,hb,hr⟩
   ·rw [hnil] at hlt; simp at hlt
   obtain ⟨t0,t1⟩:=hr k hlt
   have hk1:(0:Int)≤(k:Int):=by omega
   have hk2:(k:Int) < (ts.length:Int):=by omega
   clear hr
   cases hq:alEq t ts[k] with
   | true =>
    have HE:=ob_eql t ts[k] hq
    have HN:Hid (hasO ts t=true):=hasO_hit hlt (by rw [obEq_comm]; exact hq)
    go_wp2_with fail
    go_quiet (fail)
    go_wp2
    go_ret
    exact ⟨⟨_,rfl,by rw [HN.out]; simp⟩,HB0.out.trans (below_drewN (hB.mono HB0.out.size) _)⟩
   | false =>
    have HE:=ob_eql t ts[k] hq
    have HP2:Hid (hasO (ts.take (k + 1)) t=false):=by show _=_; rw [hasO_take hlt,HP.out,obEq_comm,hq]; rfl
    go_wp2_with fail
    go_quiet (fail)
    go_wp2
    go_roundw
    case rel=>exact ⟨k + 1,by omega,by go_num,HP2,below_drewN hB _⟩
    case measure=>first | (simp [intOf]; done) | (simp [intOf]; omega)
  ·obtain rfl:k=ts.length:=by omega
   have HN:Hid (hasO ts t=false):=by have:=HP.out; rw [List.take_length] at this; exact this
   go_wp2
   go_ret
   exact ⟨⟨-1,rfl,by rw [HN.out]; rfl⟩,HB0.out.trans (hB.mono HB0.out.size)⟩
theorem containsO_any (ad:Option Addr) (cap:Nat) (ts:List Al) (t:Al) (w:World) (hlen:ts.length≤1048576) (hs:SlA w ad ts) :
  Calls Tryz.prog 138 #[.slice ad ts.length cap,.agg #[.string t.t,.string t.s]] w fun e w'=>e=.returned (.bool (hasO ts t))∧Below w.heap.size w w':=by
 have HB0:Hid (Below w.heap.size w (w.alloc (.cells #[.string t.t,.string t.s] 45))):=(Below.refl w.heap.size w).alloc (Nat.le_refl _) _
 have HS:=toHC hs
 clear hs
 go_enter Tryz.func138,Tryz.ntmps138
 go_wp2_with fail
 refine (indexO_any ad cap ts t _ hlen (HS.out.below HB0.out)).mono ?_
 rintro e w1 ⟨⟨r,rfl,hr⟩,hb1⟩
 have HR:=toHC hr
 have HB1:=toHC (HB0.out.trans (hb1.mono HB0.out.size))
 clear hr hb1
 go_wp2
 go_ret
 exact ⟨ret_bool HR.out,HB1.out⟩
def withO (xs:List Al) (o:Al):List Al:=if hasO xs o then xs else xs ++ [o]
theorem infoObj3:∃ i,Tryz.prog.info? 45=some i∧i.zero=some (.agg #[.string ⟨#[]⟩,.string ⟨#[]⟩])∧i.size=2∧i.bytes=32 :=
 info_parts (P:=Tryz.prog) (e:=45) (z:=.agg #[.string ⟨#[]⟩,.string ⟨#[]⟩]) (size:=2) (bytes:=32) (by kernel_rfl)
theorem ownsO {w:World} {base:Nat} {v:Value} {xs:List Al} (h:w.ownsRow base 45 2 v xs.length (pairs xs)):∃ ad cap,v=.slice ad xs.length cap∧SlA w ad xs:=by
 rcases h.2 with ⟨rfl,h0⟩ | ⟨g,cap,cur,rfl,hbg,hg,hnc,-⟩
 ·exact ⟨none,0,by rw [h0],.inl (List.length_eq_zero_iff.1 h0)⟩
 ·refine ⟨_,cap,rfl,.inr ⟨g,0,rfl,(h.lt g rfl).2,fun i hi=>?_⟩⟩
  obtain ⟨h0,h1⟩:=pairs_at xs i hi
  have hl:=pairs_len xs
  refine ⟨?_,?_⟩
  ·rw [h.cellAt (0 + i * 2) (by omega),Nat.zero_add]; exact h0
  ·rw [h.cellAt (0 + i * 2 + 1) (by omega),Nat.zero_add]; exact h1
set_option maxHeartbeats 2000000 in
theorem withObject_any (B:Nat) (v:Value) (xs:List Al) (o:Al) (w:World) (hlen:xs.length≤1000) (hB:B≤w.heap.size) (hown:w.ownsRow B 45 2 v xs.length (pairs xs)) :
  Calls Tryz.prog 94 #[v,.agg #[.string o.t,.string o.s]] w fun e w'=>∃ v',e=.returned v'∧w'.ownsRow B 45 2 v' (withO xs o).length (pairs (withO xs o))∧Aside w v w' v'∧∀ B',(∀ g,v.ownBlock=some g→B'≤g)→B'≤w.heap.size→Below B' w w':=by
 obtain ⟨iO,h0,h1,h2,h3⟩:=infoObj3
 have HIO:=toHC (And.intro h0 (And.intro h1 (And.intro h2 h3)))
 obtain ⟨ad,cap,rfl,hsl⟩:=ownsO hown
 obtain ⟨W,hW⟩:∃ W,W=w.alloc (.cells #[.string o.t,.string o.s] 45):=⟨_,rfl⟩
 have HB0:Hid (Below w.heap.size w W):=by show Below _ _ _; rw [hW]; exact (Below.refl w.heap.size w).alloc (Nat.le_refl _) _
 have hz:w.heap.size < W.heap.size:=by rw [hW]; simp
 have b0:W.cell? ⟨w.heap.size,0,none⟩=some (.string o.t):=by rw [hW]; simp
 have b1:W.cell? ⟨w.heap.size,1,none⟩=some (.string o.s):=by rw [hW]; simp
 have HSL:=toHC hsl
 have HO:=toHC hown
 clear hsl hown h0 h1 h2 h3
 go_enter Tryz.func94,Tryz.ntmps94
 go_wp2_with fail
 rw [← hW]
 clear hW
 refine (containsO_any ad cap xs o _ (by omega) (HSL.out.below HB0.out)).mono ?_
 rintro e w1 ⟨rfl,hb1⟩
 have HB1:=toHC (HB0.out.trans (hb1.mono HB0.out.size))
 have c0:=keptC hb1 hz b0
 have c1:=keptC hb1 hz b1
 have HO1:=toHC (own_belowA HO.out HB1.out)
 have HA1:Hid (Aside w (.slice ad xs.length cap) w1 (.slice ad xs.length cap)):=Aside.below HB1.out
 clear hb1 b0 b1
 cases hh:hasO xs o with
 | true =>
  have HW:Hid (withO xs o=xs):=by show _=_; unfold withO; rw [hh]; rfl
  go_wp2
  go_ret
  exact ⟨_,rfl,by rw [HW.out]; exact HO1.out,HA1.out,fun B' _ hB'=>HB1.out.mono hB'⟩
 | false =>
  have HW:Hid (withO xs o=xs ++ [o]):=by show _=_; unfold withO; rw [hh]; rfl
  obtain ⟨W2,hW2⟩:∃ W2,W2=w1.alloc (.cells #[.string o.t,.string o.s] 45):=⟨_,rfl⟩
  have HO2:Hid (W2.ownsRow B 45 2 (.slice ad xs.length cap) xs.length (pairs xs)):=by show World.ownsRow _ _ _ _ _ _ _; rw [hW2]; exact HO1.out.alloc _
  have HA2:Hid (Aside w (.slice ad xs.length cap) W2 (.slice ad xs.length cap)):=by show Aside _ _ _ _; rw [hW2]; exact HA1.out.trans (Aside.below ((Below.refl _ _).alloc (Nat.le_refl _) _))
  have HBW2:Hid (Below w.heap.size w W2):=by show Below _ _ _; rw [hW2]; exact HB1.out.alloc HB1.out.size _
  have HN2:Hid (∀ j u,[Value.string o.t,Value.string o.s][j]?=some u→W2.cell? ((⟨w1.heap.size,0,none⟩:Addr).add j)=some u):=fun j u hu=>by
   rw [hW2]
   match j,hu with
   | 0,hu=>simp at hu; subst hu; simp [Addr.add]
   | 1,hu=>simp at hu; subst hu; simp [Addr.add]
  have hsz2:B≤W2.heap.size:=by have:=HB1.out.size; rw [hW2]; simp; omega
  clear hh
  go_wp2_with (at_builtin; rw [← hW2]; clear hW2; refine wpList_append_own_at _ rfl _ _ 51 rfl B 45 iO (.agg #[.string ⟨#[]⟩,.string ⟨#[]⟩]) 2 32 Tryz.underlying51 HIO.out.1 HIO.out.2.1 HIO.out.2.2.1 HIO.out.2.2.2 rfl (by decide) _ xs.length (pairs xs) rfl HO2.out ⟨w1.heap.size,0,none⟩ 1 1 [.string o.t,.string o.s] rfl rfl HN2.out (by simp [Value.oneCell']) (by unfold maxLen; omega) (by omega) hsz2 ?_)
  intro v' w3 hown hgr _ hat
  have HE:Hid (w3.ownsRow B 45 2 v' (withO xs o).length (pairs (withO xs o))):=by
   show World.ownsRow _ _ _ _ _ _ _
   rw [HW.out,List.length_append]
   have:pairs (xs ++ [o])=pairs xs ++ [.string o.t,.string o.s]:=by simp [pairs]
   rw [this]; exact hown
  have HA3:Hid (Aside w (.slice ad xs.length cap) w3 v'):=HA2.out.trans (Aside.app hgr hat)
  have HBL:Hid (∀ B',(∀ g,(Value.slice ad xs.length cap).ownBlock=some g→B'≤g)→B'≤w.heap.size→Below B' w w3):=fun B' hv hB'=>(HBW2.out.mono hB').grown hgr (Nat.le_trans hB' HBW2.out.size) hv
  clear hown hgr hat
  go_wp2
  go_ret
  exact ⟨_,rfl,HE.out,HA3.out,HBL.out⟩
end Go.Proofs.YtogjfppkbkgaeaaGreat
namespace Go.Proofs.YtogjfppkbkgaeaaGreat
set_option linter.unusedVariables false
set_option maxRecDepth 100000
open Go.ChangeShapes Go.WideShapes Go.ChangeAt Go.RowKit Go.Maps
open Pl
def rowsF (fs:List Fc):List Value:=fs.flatMap Fc.row
theorem rowsF_len:∀ fs:List Fc,(rowsF fs).length=fs.length * 5
 | []=>rfl
 | f::fs=>by have:=rowsF_len fs; simp only [rowsF,List.flatMap_cons,List.length_append,List.length_cons,Fc.row,List.length_nil] at this ⊢; omega
theorem rowsF_snoc (fs:List Fc) (f:Fc):rowsF (fs ++ [f])=rowsF fs ++ f.row:=by simp [rowsF]
theorem rowsF_at:∀ (fs:List Fc) (i:Nat) (h:i < fs.length) (c:Nat),c < 5→(rowsF fs)[i * 5 + c]?=fs[i].row[c]?
 | [],i,h,_,_=>by simp at h
 | f::fs,0,_,c,hc=>by
  simp only [rowsF,List.flatMap_cons,Nat.zero_mul,Nat.zero_add,List.getElem_cons_zero]
  rw [List.getElem?_append_left (by simp [Fc.row]; omega)]
 | f::fs,i + 1,h,c,hc=>by
  have ih:=rowsF_at fs i (by simpa using h) c hc
  simp only [rowsF,List.flatMap_cons,List.getElem_cons_succ] at ih ⊢
  rw [List.getElem?_append_right (by simp [Fc.row]; omega)]
  have:(i + 1) * 5 + c - f.row.length=i * 5 + c:=by simp [Fc.row]; omega
  rw [this]; exact ih
theorem ownsF {w:World} {base:Nat} {v:Value} {fs:List Fc} (h:w.ownsRow base 47 5 v fs.length (rowsF fs)):∃ ad cap,v=.slice ad fs.length cap∧SlF w ad fs:=by
 rcases h.2 with ⟨rfl,h0⟩ | ⟨g,cap,cur,rfl,hbg,hg,hnc,-⟩
 ·exact ⟨none,0,by rw [h0],.inl (List.length_eq_zero_iff.1 h0)⟩
 ·refine ⟨_,cap,rfl,.inr ⟨g,0,rfl,(h.lt g rfl).2,fun i hi=>?_⟩⟩
  have hl:=rowsF_len fs
  have hc:∀ c,c < 5→w.cell? ⟨g,0 + i * 5 + c,none⟩=fs[i].row[c]?:=fun c hc=>by
   rw [h.cellAt (0 + i * 5 + c) (by omega),Nat.zero_add]; exact rowsF_at fs i hi c hc
  exact ⟨hc 0 (by omega),hc 1 (by omega),hc 2 (by omega),hc 3 (by omega),hc 4 (by omega)⟩
theorem infoFac:∃ i,Tryz.prog.info? 47=some i∧i.zero=some (.agg #[.string ⟨#[]⟩,.string ⟨#[]⟩,.string ⟨#[]⟩,.string ⟨#[]⟩,.string ⟨#[]⟩])∧i.size=5∧i.bytes=80 :=
 info_parts (P:=Tryz.prog) (e:=47) (z:=.agg #[.string ⟨#[]⟩,.string ⟨#[]⟩,.string ⟨#[]⟩,.string ⟨#[]⟩,.string ⟨#[]⟩]) (size:=5) (bytes:=80) (by kernel_rfl)
theorem news5 (w:World) (f:Fc):∀ j u,f.row[j]?=some u→(w.alloc (.cells #[.string f.a,.string f.b,.string f.r,.string f.c,.string f.d] 47)).cell? ((⟨w.heap.size,0,none⟩:Addr).add j)=some u:=fun j u hu=>by
 match j,hu with
 | 0,hu=>simp [Fc.row] at hu; subst hu; simp [Addr.add]
 | 1,hu=>simp [Fc.row] at hu; subst hu; simp [Addr.add]
 | 2,hu=>simp [Fc.row] at hu; subst hu; simp [Addr.add]
 | 3,hu=>simp [Fc.row] at hu; subst hu; simp [Addr.add]
 | 4,hu=>simp [Fc.row] at hu; subst hu; simp [Addr.add]
structure OutI (w W wr:World) (v:Value) (out:List Fc):Prop where
 row:wr.ownsRow w.heap.size 47 5 v out.length (rowsF out)
 keep:∀ g o x,W.cell? ⟨g,o,none⟩=some x→wr.cell? ⟨g,o,none⟩=some x
 size:W.heap.size≤wr.heap.size
 bel:Below w.heap.size w wr
 free:∀ g,v.ownBlock=some g→∀ o,W.cell? ⟨g,o,none⟩=none
theorem cell_lt {w:World} {g o:Nat} {x:Value} (h:w.cell? ⟨g,o,none⟩=some x):g < w.heap.size:=by
 unfold World.cell? at h
 cases ho:w.heap[g]? with
 | none=>simp [ho] at h
 | some o=>exact (Array.getElem?_eq_some_iff.1 ho).1
theorem cell_ge {w:World} {g o:Nat} (h:w.heap.size≤g):w.cell? ⟨g,o,none⟩=none:=by
 cases e:w.cell? ⟨g,o,none⟩ with
 | none=>rfl
 | some x=>have:=cell_lt e; omega
theorem OutI.below {w W wr w':World} {v:Value} {out:List Fc} (h:OutI w W wr v out) (hb:Below wr.heap.size wr w'):OutI w W w' v out where
 row:=own_belowA h.row hb
 keep g o x hx:=(hb.cell (p:=⟨g,o,none⟩) (cell_lt (h.keep g o x hx))).trans (h.keep g o x hx)
 size:=Nat.le_trans h.size hb.size
 bel:=h.bel.trans (hb.mono h.bel.size)
 free:=h.free
theorem OutI.app {w W wr w':World} {v v':Value} {out:List Fc} {f:Fc} (h:OutI w W wr v out) (hown:w'.ownsRow w.heap.size 47 5 v' (out.length + 1) (rowsF out ++ f.row)) (hgr:wr.grownBy w' v.ownBlock) (hat:v'.ownBlock=v.ownBlock ∨ v'.ownBlock=some wr.heap.size):OutI w W w' v' (out ++ [f]) where
 row:=by rw [rowsF_snoc,List.length_append]; exact hown
 keep g o x hx:=by
  have h1:=h.keep g o x hx
  refine (World.cell?_of_block (w:=wr) (a:=⟨g,o,none⟩) (hgr.block g (cell_lt h1) fun e=>?_)).trans h1
  rw [h.free g e.symm o] at hx
  cases hx
 size:=Nat.le_trans h.size hgr.size
 bel:=h.bel.grown hgr h.bel.size (fun g hg=>(h.row.lt g hg).1)
 free g hg o:=by
  rcases hat with e | e
  ·rw [e] at hg; exact h.free g hg o
  ·rw [hg] at e; injection e with e; rw [e]; exact cell_ge h.size
theorem SlA.keepC {w w':World} {ad:Option Addr} {xs:List Al} (h:SlA w ad xs) (hs:w.heap.size≤w'.heap.size) (hk:∀ g o x,w.cell? ⟨g,o,none⟩=some x→w'.cell? ⟨g,o,none⟩=some x):SlA w' ad xs:=by
 rcases h with h | ⟨b,off,e,hb,hr⟩
 ·exact .inl h
 ·exact .inr ⟨b,off,e,Nat.lt_of_lt_of_le hb hs,fun i hi=>⟨hk _ _ _ (hr i hi).1,hk _ _ _ (hr i hi).2⟩⟩
theorem SlN.keepC {w w':World} {ad:Option Addr} {xs:List St} (h:SlN w ad xs) (hs:w.heap.size≤w'.heap.size) (hk:∀ g o x,w.cell? ⟨g,o,none⟩=some x→w'.cell? ⟨g,o,none⟩=some x):SlN w' ad xs:=by
 rcases h with h | ⟨b,off,e,hb,hr⟩
 ·exact .inl h
 ·exact .inr ⟨b,off,e,Nat.lt_of_lt_of_le hb hs,fun i hi=>⟨hk _ _ _ (hr i hi).1,hk _ _ _ (hr i hi).2.1,hk _ _ _ (hr i hi).2.2⟩⟩
theorem SlN.at0 {w:World} {ad:Option Addr} {xs:List St} (h:SlN w ad xs) {k:Nat} (hk:k < xs.length):∃ b off,ad=some ⟨b,off,none⟩∧At3 w b (off + k * 3) xs[k]∧b < w.heap.size:=by
 rcases h with h | ⟨b',off',e,hb,hr⟩
 ·rw [h] at hk; simp at hk
 ·exact ⟨b',off',e,hr k hk,hb⟩
def lenV:Value→Nat
 | .slice _ n _=>n
 | _=>0
def boV:Value→Nat
 | .bool true=>1
 | _=>0
end Go.Proofs.YtogjfppkbkgaeaaGreat
namespace Go.Proofs.YtogjfppkbkgaeaaGreat
open Go.ChangeShapes Go.WideShapes Go.ChangeAt Go.RowKit Go.Maps
def anyR (v:Value):Option (DataW Value × List MemPlace):=some (.held v,[])
section
variable {K:Type} (enc:K→Value) (P:Program) (k:TypeId)
def SaysAt (D:DataW Value) (kl:Lit):Option Value→Prop
 | none=>Maps.has D kl=false∧∀ z,D.atKey kl z=z
 | some v=>Maps.has D kl=true∧∀ z,D.atKey kl z=.held v
def MapV (w:World) (b n:Nat) (M:K→Option Value):Prop :=
 ∃ D:DataW Value,w.ownsMap P k anyR b n D∧∀ x kl,keyOf P k (enc x)=some kl→SaysAt D kl (M x)
def updM [DecidableEq K] (M:K→Option Value) (x:K) (v:Option Value):K→Option Value:=fun y=>if y=x then v else M y
end
section
variable {K:Type} {enc:K→Value} {P:Program} {k:TypeId} {w:World} {b n:Nat} {M:K→Option Value}
theorem updM_same [DecidableEq K] (M:K→Option Value) (x:K) (v:Option Value):updM M x v x=v:=by simp [updM]
theorem updM_other [DecidableEq K] {M:K→Option Value} {x y:K} {v:Option Value} (h:y ≠ x):updM M x v y=M y:=by simp [updM,h]
theorem mapV_made (enc:K→Value) (P:Program) (k:TypeId) (w:World):MapV enc P k (w.alloc (.map #[] 0)) w.heap.size 0 (fun _=>none) :=
 ⟨.map [],World.ownsMap_made w P k anyR,fun _ kl _=>⟨rfl,fun z=>by simp [DataW.atKey]⟩⟩
theorem MapV.lt (h:MapV enc P k w b n M):b < w.heap.size:=by obtain ⟨D,h1,-⟩:=h; exact h1.lt
theorem MapV.mono (h:MapV enc P k w b n M) {n':Nat} (hn:n≤n'):MapV enc P k w b n' M:=by obtain ⟨D,h1,h2⟩:=h; exact ⟨D,h1.mono hn,h2⟩
theorem MapV.kept {w':World} {row:Option Nat} (h:MapV enc P k w b n M) (hg:w.grownBy w' row) (hne:some b ≠ row):MapV enc P k w' b n M:=by
 obtain ⟨D,h1,h2⟩:=h; exact ⟨D,h1.kept hg hne,h2⟩
theorem MapV.below {w':World} (h:MapV enc P k w b n M) (hB:Below w.heap.size w w'):MapV enc P k w' b n M :=
 h.kept (row:=none) ⟨hB.os,hB.tape,hB.output,hB.size,fun k hk _=>hB.block k hk⟩ (by simp)
theorem MapV.setCell (h:MapV enc P k w b n M) {a:Addr} (ha:b ≠ a.block) (u:Value):MapV enc P k (w.setCell a u) b n M:=by
 obtain ⟨D,h1,h2⟩:=h; exact ⟨D,h1.setCell ha u,h2⟩
theorem MapV.look {t e:TypeId} (h:MapV enc P k w b n M) (L:Keyed P k) (ht:P.underlying t=some (.map k e)) {z:Value} (hz:(zeroValue e).run P w=.ok z w) {x:K} {kl:Lit} (hkey:keyOf P k (enc x)=some kl) :
  (Instr.lookup t (.map (some b)) (enc x) false).run P w=.ok ((M x).getD z) w:=by
 obtain ⟨D,h1,h2⟩:=h
 obtain ⟨v,ps,hrun,hv⟩:=h1.lookup L ht hz (zd:=.held z) (zp:=[]) rfl hkey
 have h3:=h2 x kl hkey
 rw [hrun]
 have:v=(M x).getD z:=by
  simp only [anyR,Option.some.injEq,Prod.mk.injEq] at hv
  cases e:M x with
  | none=>rw [e] at h3; rw [h3.2] at hv; injection hv.1 with h4
  | some u=>rw [e] at h3; rw [h3.2] at hv; injection hv.1 with h4
 rw [this]
theorem MapV.look_ok {t e:TypeId} (h:MapV enc P k w b n M) (L:Keyed P k) (ht:P.underlying t=some (.map k e)) {z:Value} (hz:(zeroValue e).run P w=.ok z w) {x:K} {kl:Lit} (hkey:keyOf P k (enc x)=some kl) :
  (Instr.lookup t (.map (some b)) (enc x) true).run P w=.ok (.tuple #[(M x).getD z,.bool (M x).isSome]) w:=by
 obtain ⟨D,h1,h2⟩:=h
 obtain ⟨v,ps,hrun,hv⟩:=h1.look_ok L ht hz (zd:=.held z) (zp:=[]) rfl hkey
 have h3:=h2 x kl hkey
 rw [hrun]
 simp only [anyR,Option.some.injEq,Prod.mk.injEq] at hv
 cases e:M x with
 | none=>rw [e] at h3; rw [h3.2] at hv; injection hv.1 with h4; rw [h4,h3.1]; rfl
 | some u=>rw [e] at h3; rw [h3.2] at hv; injection hv.1 with h4; rw [h4,h3.1]; rfl
theorem MapV.store [DecidableEq K] {t e:TypeId} (h:MapV enc P k w b n M) (L:Keyed P k) (hinj:∀ x y,enc x=enc y→x=y) (ht:P.underlying t=some (.map k e)) (hn:n < maxLen) {x:K} {kl:Lit} (hkey:keyOf P k (enc x)=some kl) (v:Value) :
  ∃ w',(Instr.mapUpdate t (.map (some b)) (enc x) v).run P w=.ok () w'∧MapV enc P k w' b (n + 1) (updM M x (some v))∧w.grownBy w' (some b):=by
 obtain ⟨D,h1,h2⟩:=h
 obtain ⟨w',hrun,h3,h4⟩:=h1.update L ht hn hkey (val:=v) (d:=.held v) (ps:=[]) rfl
 refine ⟨w',hrun,⟨D.put kl (.held v),h3,fun y ky hy=>?_⟩,h4⟩
 by_cases e:y=x
 ·subst e
  obtain rfl:ky=kl:=by rw [hkey] at hy; injection hy with hy; exact hy.symm
  rw [updM_same]
  exact ⟨has_put_same h1.isMap (L.key hkey) _,fun z=>atKey_put_same h1.isMap (L.key hkey) _ z⟩
 ·have hne:ky ≠ kl:=fun e2=>e (hinj _ _ (L.inj (by rw [e2] at hy; exact hy) hkey))
  rw [updM_other e]
  have h5:=h2 y ky hy
  cases e3:M y with
  | none=>rw [e3] at h5; exact ⟨by rw [has_put_other hne]; exact h5.1,fun z=>by rw [atKey_put_other hne]; exact h5.2 z⟩
  | some u=>rw [e3] at h5; exact ⟨by rw [has_put_other hne]; exact h5.1,fun z=>by rw [atKey_put_other hne]; exact h5.2 z⟩
end
section
variable {K:Type} {enc:K→Value} {P:Program} (w:World) {ops:Array Oper} {rest:List Oper} {o:Oper} {a:Act} {Q:Exit→Act→World→Prop}
theorem wpList_lookV (hg:o.guard=none) (m x:Operand) (t:TypeId) (hop:o.op=Op.lookup t m x false) (k e:TypeId) (L:Keyed P k) (ht:P.underlying t=some (.map k e)) {z:Value} (hz:(zeroValue e).run P w=.ok z w) (b n:Nat) (M:K→Option Value)
  (hm:a.eval m=.map (some b)) (hV:MapV enc P k w b n M) (y:K) (kl:Lit) (hx:a.eval x=enc y) (hkey:keyOf P k (enc y)=some kl)
  (hK:wpList P ops Q rest (a.put o.dst ((M y).getD z)) w):wpList P ops Q (o::rest) a w:=by
 refine wpList_plain hg fun K' hK'=>?_
 have hrun:=hV.look L ht hz hkey
 unfold Oper.wp
 simp [execOp,hop,hm,hx,hrun,Result.andThen]
 exact hK' _ _ hK
theorem wpList_lookV_ok (hg:o.guard=none) (m x:Operand) (t:TypeId) (hop:o.op=Op.lookup t m x true) (k e:TypeId) (L:Keyed P k) (ht:P.underlying t=some (.map k e)) {z:Value} (hz:(zeroValue e).run P w=.ok z w) (b n:Nat) (M:K→Option Value)
  (hm:a.eval m=.map (some b)) (hV:MapV enc P k w b n M) (y:K) (kl:Lit) (hx:a.eval x=enc y) (hkey:keyOf P k (enc y)=some kl)
  (hK:wpList P ops Q rest (a.put o.dst (.tuple #[(M y).getD z,.bool (M y).isSome])) w):wpList P ops Q (o::rest) a w:=by
 refine wpList_plain hg fun K' hK'=>?_
 have hrun:=hV.look_ok L ht hz hkey
 unfold Oper.wp
 simp [execOp,hop,hm,hx,hrun,Result.andThen]
 exact hK' _ _ hK
theorem wpList_storeV [DecidableEq K] (hg:o.guard=none) (m x v:Operand) (t:TypeId) (hop:o.op=Op.mapUpdate t m x v) (k e:TypeId) (L:Keyed P k) (hinj:∀ x y,enc x=enc y→x=y) (ht:P.underlying t=some (.map k e)) (b n:Nat) (M:K→Option Value)
  (hm:a.eval m=.map (some b)) (hV:MapV enc P k w b n M) (hn:n < maxLen) (y:K) (kl:Lit) (hx:a.eval x=enc y) (hkey:keyOf P k (enc y)=some kl) (u:Value) (hv:a.eval v=u)
  (hK:∀ w',MapV enc P k w' b (n + 1) (updM M y (some u))→w.grownBy w' (some b)→wpList P ops Q rest (a.put o.dst undef) w'):wpList P ops Q (o::rest) a w:=by
 refine wpList_plain hg fun K' hK'=>?_
 obtain ⟨w',hrun,r1,r2⟩:=hV.store L hinj ht hn hkey u
 unfold Oper.wp
 simp [execOp,hop,hm,hx,hv,hrun,Result.andThen]
 exact hK' _ _ (hK w' r1 r2)
end
end Go.Proofs.YtogjfppkbkgaeaaGreat
