/- The program's data whole: the table of relations, the relations of each level, and what is told. -/
import Derived.Test.YteoflgocljfgeaaGreatDoorTell
open Go.Proofs.Tryz
namespace Go.Proofs.YteoflgocljfgeaaGreatDoor
set_option linter.unusedVariables false
open Go.ChangeShapes Go.WideShapes Go.ChangeAt Go.RowKit Go.Maps
open Pl
def NG (r:RR):List Value:=[.string r.name,r.sl]
abbrev EH (w:World) (br nr:Nat) (Mr:KL→Option Value) (Er:List (KL × RR)):Prop:=G.Grp A9 prog 167 126 2 NG w br nr Mr Er
theorem CO {w:World} {br nr:Nat} {Mr:KL→Option Value} {Er:List (KL × RR)} (h:EH w br nr Mr Er) {k:KL} {v:Value} (hk:Mr k=some v):∃ n xs,w.ownsRow (br + 1) 126 2 v n xs:=by
 rcases h.row k with ⟨e,-⟩ | ⟨v',e,ho⟩
 ·rw [e] at hk; cases hk
 ·rw [e] at hk; injection hk with hk; subst hk; exact ⟨_,_,ho⟩
theorem pI {w:World} {br nr g:Nat} {Mr:KL→Option Value} {Er:List (KL × RR)} {e:TypeId} {cur:Array Value} (h:EH w br nr Mr Er) (hc:w.heap[g]?=some (.cells cur e (0,0))) (hne:(126:TypeId) ≠ e):G.FreeB Mr g:=fun k v hk hg=>by
 obtain ⟨n,xs,ho⟩:=CO h hk;exact hne (cz ho hg hc)
theorem CP {w:World} {br nr g:Nat} {Mr:KL→Option Value} {Er:List (KL × RR)} {es:Array MapEntry} {c:Nat} (h:EH w br nr Mr Er) (hc:w.heap[g]?=some (.map es c)):G.FreeB Mr g:=fun k v hk hg=>by
 obtain ⟨n,xs,ho⟩:=CO h hk;exact Le ho hg hc
theorem ym {K:Type} {enc:K→Value} {P:Program} {kt:TypeId} {w:World} {b n:Nat} {M:K→Option Value} (h:aJ enc P kt w b n M):∃ es c,w.heap[b]?=some (.map es c):=by
 obtain ⟨D,⟨es,c,hb,-⟩,-⟩:=h;exact ⟨es,c,hb⟩
structure DatA (w:World) (rs:List TR) (D br bp bt:Nat) (n1:Int) (nr:Nat) (Mr:KL→Option Value) (Er:List (KL × RR)) (E:List (K3 × Tp)) (xo xu:List Al) (np:Nat) (Mp:K3→Option Value) (vo vu:Value):Prop where
 dat:DatT w D br bp (.map (some bt)) n1 E xo xu np Mp vo vu
 tab:aJ bI prog 147 w bt 36 (mr rs)
 rel:EH w br nr Mr Er
 ord:bt < br∧br < bp
section
variable {w w':World} {rs:List TR} {D br bp bt:Nat} {n1:Int} {nr:Nat} {Mr:KL→Option Value} {Er:List (KL × RR)} {E:List (K3 × Tp)} {xo xu:List Al} {np:Nat} {Mp:K3→Option Value} {vo vu:Value}
theorem DatA.below (h:DatA w rs D br bp bt n1 nr Mr Er E xo xu np Mp vo vu) (hb:Below w.heap.size w w'):DatA w' rs D br bp bt n1 nr Mr Er E xo xu np Mp vo vu:=⟨h.dat.below hb,h.tab.below hb,h.rel.below hb,h.ord⟩
theorem DatA.tell (h:DatA w rs D br bp bt n1 0 (fun _=>none) [] E xo xu np Mp vo vu) {E':List (K3 × Tp)} {xo' xu':List Al} {np':Nat} {Mp':K3→Option Value} {vo' vu':Value} (hd:DatT w' D br bp (.map (some bt)) n1 E' xo' xu' np' Mp' vo' vu') (hb:Below bp w w'):DatA w' rs D br bp bt n1 0 (fun _=>none) [] E' xo' xu' np' Mp' vo' vu':=by
 obtain ⟨h1,h2⟩:=h.ord;exact ⟨hd,h.tab.of_block (hb.block bt (by omega)),⟨h.rel.map.of_block (hb.block br (by omega)),fun k=>.inl ⟨rfl,rfl⟩,fun k k' v v' _ e=>by cases e⟩,h.ord⟩
theorem DatA.list (h:DatA w rs D br bp bt n1 nr Mr Er E xo xu np Mp vo vu) {nr':Nat} {Mr':KL→Option Value} {Er':List (KL × RR)} (hg:EH w' br nr' Mr' Er') (hs:G.Stl w Mr w' Mr' br):DatA w' rs D br bp bt n1 nr' Mr' Er' E xo xu np Mp vo vu:=by
 obtain ⟨h1,h2⟩:=h.ord;have hgt:=h.dat.gt;have hlt:=h.dat.lt;obtain ⟨cur,hk⟩:=h.dat.kind;have hD:w'.heap[D]?=w.heap[D]?:=hs.block D hlt (by omega) (pI h.rel hk (by decide));have hc:∀ o,w'.cell? ⟨D,o,none⟩=w.cell? ⟨D,o,none⟩:=fun o=>World.cell?_of_block (w:=w) (a:=⟨D,o,none⟩) hD;have hO:∀ {v:Value} {n:Nat} {xs:List Value},w.ownsRow (bp + 1) 39 2 v n xs→w'.ownsRow (bp + 1) 39 2 v n xs:=fun {v n xs} ho=>fo ho fun g hg=>by
  obtain ⟨cr,e⟩:=r9 ho hg;have:=ho.lt g hg;exact hs.block g this.2 (by omega) (pI h.rel e (by decide))
 obtain ⟨es,c,eb⟩:=ym h.dat.told.map;obtain ⟨es2,c2,eb2⟩:=ym h.tab;refine ⟨⟨hgt,Nat.lt_of_lt_of_le hlt hs.size,⟨cur,hD.trans hk⟩,(hc _).trans h.dat.c0,(hc _).trans h.dat.c1,(hc _).trans h.dat.c2,(hc _).trans h.dat.c3,(hc _).trans h.dat.c4,(hc _).trans h.dat.c5,sj h.dat.told ?_ ?_,hO h.dat.objs,hO h.dat.users,h.dat.apart⟩,h.tab.of_block ?_,hg,h.ord⟩
 ·exact hs.block bp (by omega) (by omega) (CP h.rel eb)
 ·intro k v g hm hg2;obtain ⟨n,xs,ho⟩:=si h.dat.told hm;obtain ⟨cr,e⟩:=r9 ho hg2;have:=ho.lt g hg2;exact hs.block g this.2 (by omega) (pI h.rel e (by decide))
 ·exact hs.block bt (by omega) (by omega) (CP h.rel eb2)
theorem DatA.count (h:DatA w rs D br bp bt n1 nr Mr Er E xo xu np Mp vo vu) (n2:Int):DatA (w.setCell ⟨D,1,none⟩ (.int .i64 n2)) rs D br bp bt n2 nr Mr Er E xo xu np Mp vo vu:=by
 obtain ⟨h1,h2⟩:=h.ord;have hgt:=h.dat.gt;obtain ⟨cur,hk⟩:=h.dat.kind;have hne:∀ g,g ≠ D→(w.setCell ⟨D,1,none⟩ (.int .i64 n2)).heap[g]?=w.heap[g]?:=fun g e=>heap_setCell_other w ⟨D,1,none⟩ g _ e;have hc2:∀ o,o ≠ 1→(w.setCell ⟨D,1,none⟩ (.int .i64 n2)).cell? ⟨D,o,none⟩=w.cell? ⟨D,o,none⟩:=fun o ne=>jE (by omega);have hO:∀ {v:Value} {n:Nat} {xs:List Value},w.ownsRow (bp + 1) 39 2 v n xs→(w.setCell ⟨D,1,none⟩ (.int .i64 n2)).ownsRow (bp + 1) 39 2 v n xs:=fun {v n xs} ho=>fo ho fun g hg=>hne g fun e=>absurd (cz ho (e ▸ hg) hk) (by decide);refine ⟨⟨hgt,by simpa using h.dat.lt,⟨_,heap_setCell_same w D 1 cur _ _ hk⟩,(hc2 0 (by omega)).trans h.dat.c0,Gq h.dat.c1,(hc2 2 (by omega)).trans h.dat.c2,(hc2 3 (by omega)).trans h.dat.c3,(hc2 4 (by omega)).trans h.dat.c4,(hc2 5 (by omega)).trans h.dat.c5,sj h.dat.told (hne bp (by omega)) ?_,hO h.dat.objs,hO h.dat.users,h.dat.apart⟩,h.tab.of_block (hne bt (by omega)),⟨h.rel.map.of_block (hne br (by omega)),fun k=>?_,h.rel.apart⟩,h.ord⟩
 ·intro k v g hm hg2;obtain ⟨n,xs,ho⟩:=si h.dat.told hm;exact hne g fun e=>absurd (cz ho (e ▸ hg2) hk) (by decide)
 ·rcases h.rel.row k with e | ⟨v,e,ho⟩
  ·exact .inl e
  ·exact .inr ⟨v,e,fo ho fun g hg=>hne g fun e2=>absurd (cz ho (e2 ▸ hg) hk) (by decide)⟩
end
end Go.Proofs.YteoflgocljfgeaaGreatDoor
