/- The program's data whole: the table of relations, the relations of each level, and what is told. -/
import Derived.Test.YteoflgocljfgeaaGreatDoorTell
open Go.Proofs.Tryz
set_option maxHeartbeats 80000000
namespace Go.Proofs.YteoflgocljfgeaaGreatDoor
set_option linter.unusedVariables false
open Go.ChangeShapes Go.WideShapes Go.ChangeAt Go.RowKit Go.Maps
open Pl
def NG (r:RR):List Value:=[.string r.name,r.sl]
abbrev EH (w:World) (br nr:Nat) (Mr:KL→Option Value) (Er:List (KL × RR)):Prop:=G.Grp A9 prog 167 126 2 NG w br nr Mr Er
theorem CO {w:World} {br nr:Nat} {Mr:KL→Option Value} {Er:List (KL × RR)} (h:EH w br nr Mr Er) {k:KL} {v:Value} (hk:Mr k=some v):∃ n xs,w.ownsRow (br + 1) 126 2 v n xs:=by
 rcases h.row k with ⟨e,-⟩ | ⟨v',e,ho⟩
 ·rw [e] at hk; cases hk
 ·rw [e] at hk; injection hk with hk; subst hk; exact ⟨_,_,ho⟩
theorem pI {w:World} {br nr g:Nat} {Mr:KL→Option Value} {Er:List (KL × RR)} {e:TypeId} {cur:Array Value} (h:EH w br nr Mr Er) (hc:w.heap[g]?=some (.cells cur e (0,0))) (hne:(126:TypeId) ≠ e):G.FreeB Mr g:=fun k v hk hg=>by
 obtain ⟨n,xs,ho⟩:=CO h hk;exact hne (cz ho hg hc)
theorem CP {w:World} {br nr g:Nat} {Mr:KL→Option Value} {Er:List (KL × RR)} {es:Array MapEntry} {c:Nat} (h:EH w br nr Mr Er) (hc:w.heap[g]?=some (.map es c)):G.FreeB Mr g:=fun k v hk hg=>by
 obtain ⟨n,xs,ho⟩:=CO h hk;exact Le ho hg hc
theorem ym {K:Type} {enc:K→Value} {P:Program} {kt:TypeId} {w:World} {b n:Nat} {M:K→Option Value} (h:aJ enc P kt w b n M):∃ es c,w.heap[b]?=some (.map es c):=by
 obtain ⟨D,⟨es,c,hb,-⟩,-⟩:=h;exact ⟨es,c,hb⟩
structure DatA (w:World) (rs:List TR) (D br bp bt:Nat) (n1:Int) (nr:Nat) (Mr:KL→Option Value) (Er:List (KL × RR)) (E:List (K3 × Tp)) (xo xu:List Al) (np:Nat) (Mp:K3→Option Value) (vo vu:Value):Prop where
 dat:DatT w D br bp (.map (some bt)) n1 E xo xu np Mp vo vu
 tab:aJ bI prog 147 w bt 36 (mr rs)
 rel:EH w br nr Mr Er
 ord:bt < br∧br < bp
section
variable {w w':World} {rs:List TR} {D br bp bt:Nat} {n1:Int} {nr:Nat} {Mr:KL→Option Value} {Er:List (KL × RR)} {E:List (K3 × Tp)} {xo xu:List Al} {np:Nat} {Mp:K3→Option Value} {vo vu:Value}
theorem DatA.below (h:DatA w rs D br bp bt n1 nr Mr Er E xo xu np Mp vo vu) (hb:Below w.heap.size w w'):DatA w' rs D br bp bt n1 nr Mr Er E xo xu np Mp vo vu:=⟨h.dat.below hb,h.tab.below hb,h.rel.below hb,h.ord⟩
theorem DatA.tell (h:DatA w rs D br bp bt n1 0 (fun _=>none) [] E xo xu np Mp vo vu) {E':List (K3 × Tp)} {xo' xu':List Al} {np':Nat} {Mp':K3→Option Value} {vo' vu':Value} (hd:DatT w' D br bp (.map (some bt)) n1 E' xo' xu' np' Mp' vo' vu') (hb:Below bp w w'):DatA w' rs D br bp bt n1 0 (fun _=>none) [] E' xo' xu' np' Mp' vo' vu':=by
 obtain ⟨h1,h2⟩:=h.ord;exact ⟨hd,h.tab.of_block (hb.block bt (by omega)),⟨h.rel.map.of_block (hb.block br (by omega)),fun k=>.inl ⟨rfl,rfl⟩,fun k k' v v' _ e=>by cases e⟩,h.ord⟩
theorem DatA.list (h:DatA w rs D br bp bt n1 nr Mr Er E xo xu np Mp vo vu) {nr':Nat} {Mr':KL→Option Value} {Er':List (KL × RR)} (hg:EH w' br nr' Mr' Er') (hs:G.Stl w Mr w' Mr' br):DatA w' rs D br bp bt n1 nr' Mr' Er' E xo xu np Mp vo vu:=by
 obtain ⟨h1,h2⟩:=h.ord;have hgt:=h.dat.gt;have hlt:=h.dat.lt;obtain ⟨cur,hk⟩:=h.dat.kind;have hD:w'.heap[D]?=w.heap[D]?:=hs.block D hlt (by omega) (pI h.rel hk (by decide));have hc:∀ o,w'.cell? ⟨D,o,none⟩=w.cell? ⟨D,o,none⟩:=fun o=>World.cell?_of_block (w:=w) (a:=⟨D,o,none⟩) hD;have hO:∀ {v:Value} {n:Nat} {xs:List Value},w.ownsRow (bp + 1) 39 2 v n xs→w'.ownsRow (bp + 1) 39 2 v n xs:=fun {v n xs} ho=>fo ho fun g hg=>by
  obtain ⟨cr,e⟩:=r9 ho hg;have:=ho.lt g hg;exact hs.block g this.2 (by omega) (pI h.rel e (by decide))
 obtain ⟨es,c,eb⟩:=ym h.dat.told.map;obtain ⟨es2,c2,eb2⟩:=ym h.tab;refine ⟨⟨hgt,Nat.lt_of_lt_of_le hlt hs.size,⟨cur,hD.trans hk⟩,(hc _).trans h.dat.c0,(hc _).trans h.dat.c1,(hc _).trans h.dat.c2,(hc _).trans h.dat.c3,(hc _).trans h.dat.c4,(hc _).trans h.dat.c5,sj h.dat.told ?_ ?_,hO h.dat.objs,hO h.dat.users,h.dat.apart⟩,h.tab.of_block ?_,hg,h.ord⟩
 ·exact hs.block bp (by omega) (by omega) (CP h.rel eb)
 ·intro k v g hm hg2;obtain ⟨n,xs,ho⟩:=si h.dat.told hm;obtain ⟨cr,e⟩:=r9 ho hg2;have:=ho.lt g hg2;exact hs.block g this.2 (by omega) (pI h.rel e (by decide))
 ·exact hs.block bt (by omega) (by omega) (CP h.rel eb2)
theorem DatA.count (h:DatA w rs D br bp bt n1 nr Mr Er E xo xu np Mp vo vu) (n2:Int):DatA (w.setCell ⟨D,1,none⟩ (.int .i64 n2)) rs D br bp bt n2 nr Mr Er E xo xu np Mp vo vu:=by
 obtain ⟨h1,h2⟩:=h.ord;have hgt:=h.dat.gt;obtain ⟨cur,hk⟩:=h.dat.kind;have hne:∀ g,g ≠ D→(w.setCell ⟨D,1,none⟩ (.int .i64 n2)).heap[g]?=w.heap[g]?:=fun g e=>heap_setCell_other w ⟨D,1,none⟩ g _ e;have hc2:∀ o,o ≠ 1→(w.setCell ⟨D,1,none⟩ (.int .i64 n2)).cell? ⟨D,o,none⟩=w.cell? ⟨D,o,none⟩:=fun o ne=>jE (by omega);have hO:∀ {v:Value} {n:Nat} {xs:List Value},w.ownsRow (bp + 1) 39 2 v n xs→(w.setCell ⟨D,1,none⟩ (.int .i64 n2)).ownsRow (bp + 1) 39 2 v n xs:=fun {v n xs} ho=>fo ho fun g hg=>hne g fun e=>absurd (cz ho (e ▸ hg) hk) (by decide);refine ⟨⟨hgt,by simpa using h.dat.lt,⟨_,heap_setCell_same w D 1 cur _ _ hk⟩,(hc2 0 (by omega)).trans h.dat.c0,Gq h.dat.c1,(hc2 2 (by omega)).trans h.dat.c2,(hc2 3 (by omega)).trans h.dat.c3,(hc2 4 (by omega)).trans h.dat.c4,(hc2 5 (by omega)).trans h.dat.c5,sj h.dat.told (hne bp (by omega)) ?_,hO h.dat.objs,hO h.dat.users,h.dat.apart⟩,h.tab.of_block (hne bt (by omega)),⟨h.rel.map.of_block (hne br (by omega)),fun k=>?_,h.rel.apart⟩,h.ord⟩
 ·intro k v g hm hg2;obtain ⟨n,xs,ho⟩:=si h.dat.told hm;exact hne g fun e=>absurd (cz ho (e ▸ hg2) hk) (by decide)
 ·rcases h.rel.row k with e | ⟨v,e,ho⟩
  ·exact .inl e
  ·exact .inr ⟨v,e,fo ho fun g hg=>hne g fun e2=>absurd (cz ho (e2 ▸ hg) hk) (by decide)⟩
end
set_option maxRecDepth 100000
def EJ (ts:List Ty) (w:World) (e:Ending) (w':World):Prop :=
 ((∃ (b n:Nat) (σ:Ky→Option Int),e=.returned (.tuple #[.map (some b),.bool true])∧bC ts∧aJ bI prog 147 w' b n (gF σ)∧Least ts (fun k=>(σ k).getD 0)∧∀ k,(∃ x,σ k=some x) ↔ k ∈ az ts) ∨ (e=.returned (.tuple #[.map none,.bool false])∧¬ bC ts))∧Below w.heap.size w w'
theorem G8:∀ ts:List Tp,(lT ts).length≤2 * ts.length:=by
 have key:∀ (ts:List Tp) (xs:List Al),(ts.foldl mQ xs).length≤xs.length + 2 * ts.length:=by
  intro ts
  induction ts with
  | nil=>intro xs; simp
  | cons t ts ih =>
   intro xs;have h1:=ih (mQ xs t);have h2:=CJ xs t;simp only [List.foldl_cons,List.length_cons];omega
 intro ts;have:=key ts [];simpa [lT] using this
theorem EK:∀ ts:List Tp,(ja ts).length≤ts.length:=by
 have key:∀ (ts:List Tp) (xs:List Al),(ts.foldl iD xs).length≤xs.length + ts.length:=by
  intro ts
  induction ts with
  | nil=>intro xs; simp
  | cons t ts ih =>
   intro xs;have h1:=ih (iD xs t);have h2:=CK xs t;simp only [List.foldl_cons,List.length_cons];omega
 intro ts;have:=key ts [];simpa [ja] using this
def gJ (fit:Tp→Bool) (rs:List TR) (ts:List Tp):Bool:=aA (ah rs) && dH ts && ts.all fit
def oI (f:ByteArray × ByteArray→Int) (rs:List TR):List (KL × RR):=rs.flatMap fun t=>t.rows.map fun r=>((t.name,f (t.name,r.name)),r)
def mR (E:List (KL × RR)):Int:=E.foldl (fun m x=>max m (x.1.2 + 1)) 0
def Nz (fit:Tp→Bool) (rs:List TR) (ts:List Tp) (w:World) (e:Ending) (w':World):Prop :=
 Below w.heap.size w w'∧((gJ fit rs ts=false∧e=.returned (.tuple #[.pointer none,.bool false])) ∨
  (gJ fit rs ts=true∧∃ (D br bp bt nr np:Nat) (Mr:KL→Option Value) (Mp:K3→Option Value) (vo vu:Value) (f:ByteArray × ByteArray→Int),e=.returned (.tuple #[.pointer (some ⟨D,0,none⟩),.bool true])∧w.heap.size≤bt∧Least (ah rs) f ∧
   DatA w' rs D br bp bt (mR (oI f rs)) nr Mr (oI f rs) (lU ts) (lT ts) (ja ts) np Mp vo vu))
theorem J7 {w:World} {rs:List TR} {bt:Nat} (ht:aJ bI prog 147 w bt 36 (mr rs)) (hl:bt < w.heap.size) :
  DatA (((w.alloc (.map #[] 0)).alloc (.map #[] 0)).alloc (.cells #[.map (some bt),.int .i64 0,.map (some w.heap.size),.map (some (w.heap.size + 1)),.slice none 0 0,.slice none 0 0] 107)) rs (w.heap.size + 2) w.heap.size (w.heap.size + 1) bt 0 0 (fun _=>none) [] [] [] [] 0 (fun _=>none) (.slice none 0 0) (.slice none 0 0):=by
 obtain ⟨w1,h1⟩:∃ w1,w1=w.alloc (.map #[] 0):=⟨_,rfl⟩;obtain ⟨w2,h2⟩:∃ w2,w2=w1.alloc (.map #[] 0):=⟨_,rfl⟩;have s1:w1.heap.size=w.heap.size + 1:=by rw [h1]; simp
 have s2:w2.heap.size=w.heap.size + 2:=by rw [h2]; simp; omega
 rw [← h1,← h2];have b1:Below w.heap.size w w1:=by rw [h1]; exact (Below.refl _ _).alloc (Nat.le_refl _) _
 have b2:Below w1.heap.size w1 w2:=by rw [h2]; exact (Below.refl _ _).alloc (Nat.le_refl _) _
 have b3:∀ o,Below w2.heap.size w2 (w2.alloc o):=fun o=>(Below.refl _ _).alloc (Nat.le_refl _) _;have g1:EH w1 w.heap.size 0 (fun _=>none) []:=by rw [h1]; exact G.grp_made w
 have g2:G.Grp oH prog 214 41 6 Tp.row w2 (w.heap.size + 1) 0 (fun _=>none) []:=by
  have:=G.grp_made (enc:=oH) (P:=prog) (kt:=214) (et:=41) (sz:=6) (cl:=Tp.row) w1;rw [s1] at this; rw [h2]; exact this
 rw [← s2];refine ⟨⟨by omega,by simp,⟨_,heap_alloc_new w2 _⟩,by simp,by simp,by simp,by simp,by simp,by simp,g2.below (b3 _),World.ownsRow_nil _ _ _ _,World.ownsRow_nil _ _ _ _,fun g e=>by simp [Value.ownBlock] at e⟩,((ht.below b1).below b2).below (b3 _),(g1.below b2).below (b3 _),hl,by omega⟩
theorem J8 {p:Tp→Bool} {ts:List Tp} {k:Nat} (h:k < ts.length):(ts.take (k + 1)).all p=((ts.take k).all p && p ts[k]):=by
 rw [List.take_succ_eq_append_getElem h,List.all_append]; simp
theorem Lf {p:Tp→Bool} {ts:List Tp} {k:Nat} (h:k < ts.length) (hp:p ts[k]=false):ts.all p=false:=by
 rw [List.all_eq_false];exact ⟨_,List.getElem_mem h,by rw [hp]; decide⟩
theorem Lg {rs:List TR} (h6:rs.length≤6) (hr:∀ r ∈ rs,r.rows.length≤6):(az (ah rs)).length≤36:=by
 have key:∀ l:List TR,(∀ r ∈ l,r.rows.length≤6)→(az (ah l)).length≤6 * l.length:=by
  intro l
  induction l with
  | nil=>intro _; simp [az,ah]
  | cons r l ih =>
   intro h;have h1:=ih fun q hq=>h q (List.mem_cons_of_mem _ hq);have h2:=h r (by simp);have e:az (ah (r::l))=zb r.p ++ az (ah l):=by simp [az,ah]
   have e2:(zb r.p).length=r.rows.length:=by unfold zb; rw [List.length_map]; exact qQ _
   rw [e,List.length_append,e2,List.length_cons];omega
 have:=key rs hr;omega
theorem J9 {rs:List TR} {σ:Ky→Option Int} (hS:bC (ah rs)) (h6:rs.length≤6) (hr:∀ r ∈ rs,r.rows.length≤6) (hL:Least (ah rs) (fun k=>(σ k).getD 0)) (hk:∀ k,(∃ x,σ k=some x) ↔ k ∈ az (ah rs)) (y:Ky):0≤(σ y).getD 0∧(σ y).getD 0≤36:=by
 refine ⟨hL.sol.pos y,?_⟩;cases e:σ y with
 | none=>simp
 | some x =>
  have hy:y ∈ az (ah rs):=(hk y).1 ⟨x,e⟩;obtain ⟨g,hg,hb⟩:=hL.sol.few (nQ hS.2.1);have h1:=hL.low y hy g hg;have h2:=hb y hy;have h3:=Lg h6 hr;simp only [e] at h1;omega
def tN (f:Ky→Int) (n:ByteArray) (r:RR):KL × RR:=((n,f (n,r.name)),r)
theorem G9 (f:Ky→Int) {rs:List TR} {k:Nat} (h:k < rs.length):oI f (rs.take (k + 1))=oI f (rs.take k) ++ rs[k].rows.map (tN f rs[k].name):=by
 unfold oI;rw [List.take_succ_eq_append_getElem h,List.flatMap_append];simp [tN]
theorem CQ (E:List (KL × RR)) (x:KL × RR):mR (E ++ [x])=max (mR E) (x.1.2 + 1):=by simp [mR]
theorem Ka:∃ i,prog.info? 126=some i∧i.zero=some (.agg #[.string ⟨#[]⟩,.slice none 0 0])∧i.size=2∧i.bytes=40 :=
 info_parts (P:=prog) (e:=126) (z:=.agg #[.string ⟨#[]⟩,.slice none 0 0]) (size:=2) (bytes:=40) (by kernel_rfl)
theorem MU (u:World):(zeroValue 61).run prog u=.ok (.slice none 0 0) u:=by kernel_rfl
theorem Lh (u:World):(zeroValue 2).run prog u=.ok (.int .i64 0) u:=by kernel_rfl
theorem Ha {w:World} {br nr:Nat} {Mr:KL→Option Value} {E:List (KL × RR)} (h:EH w br nr Mr E) (k:KL):w.ownsRow (br + 1) 126 2 ((Mr k).getD (.slice none 0 0)) (G.lookL E k).length (G.flatG NG (G.lookL E k)):=by
 rcases h.row k with ⟨e,e2⟩ | ⟨v,e,ho⟩
 ·rw [e,e2]; exact World.ownsRow_nil _ _ _ _
 ·rw [e]; exact ho
theorem Kb {w W w':World} {D g:Nat} {y x0 x1 x2 x3 x4 x5:Value} (h:W.cell? ⟨D,0,none⟩=some y∧W.cell? ⟨g,0,none⟩=some x0∧W.cell? ⟨g,1,none⟩=some x1∧W.cell? ⟨g,2,none⟩=some x2∧W.cell? ⟨g,3,none⟩=some x3∧W.cell? ⟨g,4,none⟩=some x4∧W.cell? ⟨g,5,none⟩=some x5∧D < W.heap.size∧g < W.heap.size∧Below w.heap.size w W) (hb:Below W.heap.size W w'):w'.cell? ⟨D,0,none⟩=some y∧w'.cell? ⟨g,0,none⟩=some x0∧w'.cell? ⟨g,1,none⟩=some x1∧w'.cell? ⟨g,2,none⟩=some x2∧w'.cell? ⟨g,3,none⟩=some x3∧w'.cell? ⟨g,4,none⟩=some x4∧w'.cell? ⟨g,5,none⟩=some x5∧D < w'.heap.size∧g < w'.heap.size∧Below w.heap.size w w':=by
 obtain ⟨h0,g0,g1,g2,g3,g4,g5,hn,hm,hB⟩:=h;have hc:∀ o,w'.cell? ⟨D,o,none⟩=W.cell? ⟨D,o,none⟩:=fun o=>hb.cell (p:=⟨D,o,none⟩) hn;have hd:∀ o,w'.cell? ⟨g,o,none⟩=W.cell? ⟨g,o,none⟩:=fun o=>hb.cell (p:=⟨g,o,none⟩) hm;exact ⟨(hc _).trans h0,(hd _).trans g0,(hd _).trans g1,(hd _).trans g2,(hd _).trans g3,(hd _).trans g4,(hd _).trans g5,Nat.lt_of_lt_of_le hn hb.size,Nat.lt_of_lt_of_le hm hb.size,hB.trans (hb.mono hB.size)⟩
theorem EL (fit:Tp→Bool) (ad:Option Addr) (cap:Nat) (rs:List TR) (ad':Option Addr) (cap':Nat) (ts:List Tp) (w:World) (hlen:rs.length≤1048576) (hs:gp w ad rs) (hl:∀ r ∈ rs,r.light) (hfr:∀ r ∈ rs,r.fits) (hC:Calls prog 73 #[.slice ad rs.length cap] w (EJ (ah rs) w)) (hfb:aA (ah rs)=true→∀ t:Tp,t.ok=true→ou (ah rs) t.a t.r ⟨t.c,t.s⟩=fit t) (hlt:ts.length≤1048576) (hst:Sl w ad' ts) (hft:∀ x ∈ ts,x.fits) :
  Calls prog 55 #[.slice ad rs.length cap,.slice ad' ts.length cap'] w (Nz fit rs ts w):=by
 have HS:=aM hs;have HL:=aM hl;have HFR:=aM hfr;have HST:=aM hst;have HFT:=aM hft;have HC:=aM hC;have HFB:=aM hfb;obtain ⟨iR,i0,i1,i2,i3⟩:=Ka;have HIR:=aM (And.intro i0 (And.intro i1 (And.intro i2 i3)));clear i0 i1 i2 i3;have hml:ts.length≤maxLen:=by unfold maxLen; omega
 clear hs hl hfr hC hfb hst hft;go_enter func55,ntmps55;go_wp2_with fail;refine HC.out.mono ?_;rintro e w1 ⟨hL,hb1⟩;have HB1:=aM hb1;clear HC hb1;rcases hL with ⟨bS,nS,σ,rfl,hS,hM,hLe,hk⟩ | ⟨rfl,hno⟩
 ·have HSD:Hid (aA (ah rs)=true):=dG.2 hS;have HM:=aM hM;have HLE:=aM hLe;have HKE:=aM hk;have hSP:=hS;obtain ⟨h6,hr6,-⟩:=dF hSP.1;have HTAB:=aM (wN hSP.1);have HR6:=aM hr6;clear hM hLe hk hS hSP hr6;go_wp2_with fail;refine (lG ad' cap' ts _ hml (HST.out.below HB1.out) HFT.out).mono ?_;rintro e w2 ⟨he,hb2⟩;have HB2:=aM (HB1.out.trans (hb2.mono HB1.out.size));have HM2:=aM (HM.out.below hb2);clear hb2 HM;cases h2:dH ts with
  | false =>
   rw [h2] at he; subst he;have HN:Hid (gJ fit rs ts=false):=by show _=_; unfold gJ; rw [h2]; simp
   clear h2;go_wp2;exact bodyPost_ret (v:=.tuple #[.pointer none,.bool false]) (by simp [results,Tryz.results55,go_sem]) rfl ⟨HB2.out,.inl ⟨HN.out,rfl⟩⟩
  | true =>
   rw [h2] at he; subst he;have HTU:=aM (xG h2);have HRB:Hid (gJ fit rs ts=ts.all (fit)):=by show _=_; unfold gJ; rw [h2,HSD.out]; simp
   have h40:ts.length≤40:=HTU.out.2.2;have HTBL:=aM (nU ad cap rs w2 h6 (HS.out.below HB2.out) HR6.out HFR.out);clear h2;go_wp2_with fail;refine HTBL.out.mono ?_;rintro e w3 ⟨rfl,hV3,hb3⟩;have HB3:=aM (HB2.out.trans (hb3.mono HB2.out.size));have hbt:w2.heap.size < w3.heap.size:=hV3.lt;have hw2:w.heap.size≤w2.heap.size:=HB2.out.size;have HM3:=aM (HM2.out.below hb3);have HDN:=aM (J7 hV3 hbt);obtain ⟨bt,hbte⟩:∃ b,b=w2.heap.size:=⟨_,rfl⟩;obtain ⟨br,hbre⟩:∃ b,b=w3.heap.size:=⟨_,rfl⟩;rw [← hbte] at HDN hbt hw2 ⊢;obtain ⟨W,hW⟩:∃ W,W=((w3.alloc (.map #[] 0)).alloc (.map #[] 0)).alloc (.cells #[.map (some bt),.int .i64 0,.map (some w3.heap.size),.map (some (w3.heap.size + 1)),.slice none 0 0,.slice none 0 0] 107):=⟨_,rfl⟩;rw [← hW] at HDN;have hmm:=@run_makeMap prog;have HBW0:Hid (Below w3.heap.size w3 W):=by
    show Below _ _ _;rw [hW];exact (((Below.refl _ _).alloc (Nat.le_refl _) _).alloc (by simp) _).alloc (by simp; omega) _
   have HMW:=aM (HM3.out.below HBW0.out);have HBW:=aM (HB3.out.trans (HBW0.out.mono HB3.out.size));have hbS:bS < br:=by rw [hbre]; exact HM3.out.lt
   clear hb3 hV3 HTBL hbte;obtain ⟨D,hDe⟩:∃ b,b=br + 2:=⟨_,rfl⟩;obtain ⟨bp,hbpe⟩:∃ b,b=br + 1:=⟨_,rfl⟩;rw [← hbre] at HDN;rw [← hDe,← hbpe] at HDN;have hDW:D < W.heap.size:=HDN.out.dat.lt;go_wp2_with fail;rw [← hW,show w3.heap.size + 1 + 1=D by omega,show w3.heap.size + 1=bp by omega,← hbre];have hwbr:w.heap.size≤br:=by rw [hbre]; exact HB3.out.size
   have hbtr:bt < br:=by rw [hbre]; exact hbt
   clear hbt;clear hbre hDe hbpe hW hmm HBW0;go_loopw [37] (fun i wr=>∃ k:Nat,k≤ts.length∧i=.int .i64 (k:Int)∧Hid ((ts.take k).all (fit)=true)∧Hid (∃ Mp vo vu,DatA wr rs D br bp bt 0 0 (fun _=>none) [] (lU (ts.take k)) (lT (ts.take k)) (ja (ts.take k)) k Mp vo vu)∧Hid (Below br W wr)) (fun i _=>ts.length - (intOf i).toNat);case atStart=>exact ⟨0,Nat.zero_le _,rfl,rfl,⟨_,_,_,by simpa [lU,lT,ja] using HDN.out⟩,Below.refl _ _⟩
   case round =>
    obtain ⟨k,hk,rfl,HAL,HDA,HB⟩:=hrel;have HBwr:Hid (Below w.heap.size w wr):=HBW.out.trans (HB.out.mono hwbr);by_cases hkl:k < ts.length
    ·rcases HST.out.below HBwr.out with hnil | ⟨b,off,rfl,hb,hr⟩
     ·rw [hnil] at hkl; simp at hkl
     obtain ⟨t0,t1,t2,t3,t4,t5⟩:=hr k hkl;have hk1:=bR k;have hk2:(k:Int) < (ts.length:Int):=by omega
     have HAT:=aM (J8 (p:=fit) hkl);have HAH:=aM (Lf (p:=fit) hkl);have HXF:=aM (HFT.out _ (List.getElem_mem hkl));have HXO:=aM (HTU.out.2.1 _ (List.getElem_mem hkl));have HTK:Hid (ts.take (k + 1)=ts.take k ++ [ts[k]]):=List.take_succ_eq_append_getElem hkl;obtain ⟨x,hx⟩:∃ x,x=ts[k]:=⟨_,rfl⟩;rw [← hx] at t0 t1 t2 t3 t4 t5 HAT HAH HXF HXO HTK;obtain ⟨W4,hW4⟩:∃ W4,W4=wr.alloc (.cells #[.string x.a,.string x.b,.string x.r,.string x.c,.string x.d,.string x.s] 41):=⟨_,rfl⟩;have hb4:Below wr.heap.size wr W4:=by rw [hW4]; exact (Below.refl _ _).alloc (Nat.le_refl _) _
     have hx4:mZ W4 wr.heap.size x:=by rw [hW4]; exact rP wr x _
     obtain ⟨Mp,vo,vu,hDA⟩:=HDA.out;have HD4:=aM (hDA.below hb4);have HX4:=aM hx4;have HBw4:=aM (HBwr.out.trans (hb4.mono HBwr.out.size));have HBW4:=aM (HB.out.trans (hb4.mono (by have:=HB.out.size; have:=HDN.out.ord; have:=HDN.out.dat.gt; omega)));have HLF:Hid (∀ W',(fun w'=>w'.cell? ⟨D,0,none⟩=some (.map (some bt))∧w'.cell? ⟨wr.heap.size,0,none⟩=some (.string x.a)∧w'.cell? ⟨wr.heap.size,1,none⟩=some (.string x.b)∧w'.cell? ⟨wr.heap.size,2,none⟩=some (.string x.r)∧w'.cell? ⟨wr.heap.size,3,none⟩=some (.string x.c)∧w'.cell? ⟨wr.heap.size,4,none⟩=some (.string x.d)∧w'.cell? ⟨wr.heap.size,5,none⟩=some (.string x.s)∧D < w'.heap.size∧wr.heap.size < w'.heap.size∧Below W4.heap.size W4 w') W'→Calls prog 42 #[.map (some bt),.agg #[.string x.a,.string x.b,.string x.r,.string x.c,.string x.d,.string x.s]] W' fun e w'=>e=.returned (.bool (fit x))∧Below W'.heap.size W' w'):=fun W' hS'=>by
      have hb':=hS'.2.2.2.2.2.2.2.2.2;refine (xJ bt 36 rs ad (mr rs) x.a x.b x.r x.c x.d x.s W' ((HD4.out.tab).below hb') HTAB.out (HS.out.below (HBw4.out.trans (hb'.mono HBw4.out.size))) HL.out HXF.out.1 HXF.out.2.2.1).mono ?_;rintro e w6 ⟨rfl,hb6⟩;exact ⟨by rw [HFB.out HSD.out x HXO.out],hb6⟩
     have H0:Hid ((fun w'=>w'.cell? ⟨D,0,none⟩=some (.map (some bt))∧w'.cell? ⟨wr.heap.size,0,none⟩=some (.string x.a)∧w'.cell? ⟨wr.heap.size,1,none⟩=some (.string x.b)∧w'.cell? ⟨wr.heap.size,2,none⟩=some (.string x.r)∧w'.cell? ⟨wr.heap.size,3,none⟩=some (.string x.c)∧w'.cell? ⟨wr.heap.size,4,none⟩=some (.string x.d)∧w'.cell? ⟨wr.heap.size,5,none⟩=some (.string x.s)∧D < w'.heap.size∧wr.heap.size < w'.heap.size∧Below W4.heap.size W4 w') W4.drew):=⟨HD4.out.dat.c0,hx4.1,hx4.2.1,hx4.2.2.1,hx4.2.2.2.1,hx4.2.2.2.2.1,hx4.2.2.2.2.2.1,HD4.out.dat.lt,hx4.2.2.2.2.2.2,(Below.refl _ _).drew⟩;have ho40:=G8 (ts.take k);have hu40:=EK (ts.take k);have hte:(lU (ts.take k)).length≤40:=by unfold lU; simp; omega
     have htl:(ts.take k).length≤40:=by rw [List.length_take]; omega
     have HALK:=HAL;clear hr hx hx4 hDA hb4 HDA HB HAL;cases hfx:fit x with
     | false =>
      rw [hfx] at HLF;go_wp2_with fail;rw [← hW4]; clear hW4
      go_region_held3 (fun w'=>w'.cell? ⟨D,0,none⟩=some (.map (some bt))∧w'.cell? ⟨wr.heap.size,0,none⟩=some (.string x.a)∧w'.cell? ⟨wr.heap.size,1,none⟩=some (.string x.b)∧w'.cell? ⟨wr.heap.size,2,none⟩=some (.string x.r)∧w'.cell? ⟨wr.heap.size,3,none⟩=some (.string x.c)∧w'.cell? ⟨wr.heap.size,4,none⟩=some (.string x.d)∧w'.cell? ⟨wr.heap.size,5,none⟩=some (.string x.s)∧D < w'.heap.size∧wr.heap.size < w'.heap.size∧Below W4.heap.size W4 w')
       (first | assumption | exact Kb (by assumption) hbx | exact H0.out)
       (first | (go_at_call 42; refine (HLF.out _ (by assumption)).mono ?_; rintro e w' ⟨rfl,hbx⟩))
      rename_i hH;have HBE:Hid (Below w.heap.size w _):=HBw4.out.trans (hH.2.2.2.2.2.2.2.2.2.mono HBw4.out.size);have HN:Hid (gJ fit rs ts=false):=HRB.out.trans (HAH.out hfx);clear hH;go_wp2;exact bodyPost_ret (v:=.tuple #[.pointer none,.bool false]) (by simp [results,Tryz.results55,go_sem]) rfl ⟨HBE.out,.inl ⟨HN.out,rfl⟩⟩
     | true =>
      rw [hfx] at HLF;go_wp2_with fail;rw [← hW4]; clear hW4
      go_region_held3 (fun w'=>w'.cell? ⟨D,0,none⟩=some (.map (some bt))∧w'.cell? ⟨wr.heap.size,0,none⟩=some (.string x.a)∧w'.cell? ⟨wr.heap.size,1,none⟩=some (.string x.b)∧w'.cell? ⟨wr.heap.size,2,none⟩=some (.string x.r)∧w'.cell? ⟨wr.heap.size,3,none⟩=some (.string x.c)∧w'.cell? ⟨wr.heap.size,4,none⟩=some (.string x.d)∧w'.cell? ⟨wr.heap.size,5,none⟩=some (.string x.s)∧D < w'.heap.size∧wr.heap.size < w'.heap.size∧Below W4.heap.size W4 w')
       (first | assumption | exact Kb (by assumption) hbx | exact H0.out)
       (first | (go_at_call 42; refine (HLF.out _ (by assumption)).mono ?_; rintro e w' ⟨rfl,hbx⟩))
      rename_i hH;obtain ⟨-,y0,y1,y2,y3,y4,y5,-,yl,hbH⟩:=hH;rename_i w5;have HD5:=aM (HD4.out.below hbH);have HBw5:=aM (HBw4.out.trans (hbH.mono HBw4.out.size));have HBW5:=aM (HBW4.out.trans (hbH.mono (by have:=HD4.out.ord; have:=HD4.out.dat.gt; have:=HD4.out.dat.lt; omega)));have HALN:Hid ((ts.take (k + 1)).all fit=true):=by show _=_; rw [HAT.out,HALK.out,hfx]; rfl
      clear hbH;go_wp2_with fail;refine (J6 D br bp _ 0 _ _ _ k Mp vo vu x _ HD5.out.dat (by omega) (by omega) (by omega) (by omega) HXF.out).mono ?_;rintro e w6 ⟨rfl,⟨Mp',vo',vu',hd6⟩,hb6⟩;have HDN6:Hid (∃ Mp vo vu,DatA w6 rs D br bp bt 0 0 (fun _=>none) [] (lU (ts.take (k + 1))) (lT (ts.take (k + 1))) (ja (ts.take (k + 1))) (k + 1) Mp vo vu):=by
       rw [HTK.out,EG,EF,CG];exact ⟨Mp',vo',vu',HD5.out.tell hd6 hb6⟩
      have HBW6:Hid (Below br W w6):=HBW5.out.trans (hb6.mono (by have:=HD4.out.ord; omega));clear hd6 hb6;go_wp2;go_roundw;case rel=>exact ⟨k + 1,by omega,by go_num,HALN,HDN6,HBW6⟩
      case measure=>simp [intOf] <;> omega
    ·obtain rfl:k=ts.length:=by omega
     rw [List.take_length] at HAL HDA;have HRT:Hid (gJ fit rs ts=true):=HRB.out.trans HAL.out;obtain ⟨Mp,vo,vu,hDA⟩:=HDA.out;have HD0:=aM hDA;obtain ⟨f,hf⟩:∃ f:Ky→Int,f=fun k=>(σ k).getD 0:=⟨_,rfl⟩;have HF:=aM hf;have HLS:Hid (Least (ah rs) f):=by rw [hf]; exact HLE.out
     have HF36:Hid (∀ y,0≤f y∧f y≤36):=by rw [hf]; exact J9 (dG.1 HSD.out) h6 HR6.out HLE.out HKE.out
     obtain ⟨wz,hwz⟩:∃ wz,wz=wr:=⟨_,rfl⟩;subst hwz;have hkk:decide ((ts.length:Int) < (ts.length:Int))=false:=by simp
     clear hDA HDA HAL hf HLE HTU HRB;go_wp2_with fail;go_loopw [54] (fun i wr=>∃ k:Nat,k≤rs.length∧i=.int .i64 (k:Int)∧Hid ((oI f (rs.take k)).length≤6 * k)∧Hid (∃ nr Mr,nr≤6 * k∧DatA wr rs D br bp bt (mR (oI f (rs.take k))) nr Mr (oI f (rs.take k)) (lU ts) (lT ts) (ja ts) ts.length Mp vo vu)∧Hid (Below br W wr)) (fun i _=>rs.length - (intOf i).toNat);case atStart=>exact ⟨0,Nat.zero_le _,rfl,Nat.zero_le _,⟨0,_,Nat.zero_le _,HD0.out⟩,HB⟩
     case round =>
      clear HD0 HB HBwr;obtain ⟨k,hk,rfl,HEL,HDA,HB⟩:=hrel;have HBwr:Hid (Below w.heap.size w wr):=HBW.out.trans (HB.out.mono hwbr);by_cases hkl:k < rs.length
      ·rcases HS.out.below HBwr.out with hnil | ⟨b,off,rfl,hb,hr,hok⟩
       ·rw [hnil] at hkl; simp at hkl
       obtain ⟨t0,t1⟩:=hr k hkl;have hk1:=bR k;have hk2:(k:Int) < (rs.length:Int):=by omega
       have h6k:rs[k].rows.length≤6:=HR6.out _ (List.getElem_mem hkl);have z0:rs[k].name.size≤maxLen:=(HFR.out _ (List.getElem_mem hkl)).1;have HFRk:Hid (∀ q ∈ rs[k].rows,q.fits):=(HFR.out _ (List.getElem_mem hkl)).2.2;have HSU:=aM (G9 f hkl);obtain ⟨W1,hW1⟩:∃ W1,W1=wr.alloc (.cells #[.string rs[k].name,.slice rs[k].ad rs[k].rows.length rs[k].cap] 63):=⟨_,rfl⟩;have hal:Below wr.heap.size wr W1:=by rw [hW1]; exact (Below.refl _ _).alloc (Nat.le_refl _) _
       obtain ⟨nr,Mr,hnr,hDA⟩:=HDA.out;have HD1:=aM (hDA.below hal);have hbrz:br < wr.heap.size:=by have:=hDA.ord; have:=hDA.dat.gt; have:=hDA.dat.lt; omega
       have HB1:Hid (Below br W W1):=HB.out.trans (hal.mono (by omega));have HT1:Hid (W1.heap[wr.heap.size]?=some (.cells #[.string rs[k].name,.slice rs[k].ad rs[k].rows.length rs[k].cap] 63 (0,0))):=by rw [hW1]; exact heap_alloc_new wr _
       have a1:W1.cell? ⟨wr.heap.size,1,none⟩=some (.slice rs[k].ad rs[k].rows.length rs[k].cap):=by rw [hW1]; simp
       clear hr hok hal hDA HDA;go_wp2_with fail;rw [← hW1];clear hW1 t0 t1 a1 HB;obtain ⟨wo,hwo⟩:∃ wo,wo=wr:=⟨_,rfl⟩;subst hwo;go_loopw [61] (fun i w2=>∃ j:Nat,j≤rs[k].rows.length∧i=.int .i64 (j:Int)∧Hid (∃ nr Mr,nr≤6 * k + j∧DatA w2 rs D br bp bt (mR (oI f (rs.take k) ++ (rs[k].rows.take j).map (tN f rs[k].name))) nr Mr (oI f (rs.take k) ++ (rs[k].rows.take j).map (tN f rs[k].name)) (lU ts) (lT ts) (ja ts) ts.length Mp vo vu)∧Hid (w2.heap[wo.heap.size]?=some (.cells #[.string rs[k].name,.slice rs[k].ad rs[k].rows.length rs[k].cap] 63 (0,0)))∧Hid (Below br W w2)) (fun i _=>rs[k].rows.length - (intOf i).toNat);case atStart=>exact ⟨0,Nat.zero_le _,rfl,⟨nr,Mr,by omega,by simpa using HD1.out⟩,HT1,HB1⟩
       case round =>
        clear HD1 HT1 HB1 HBwr;obtain ⟨j,hj,rfl,HDA,HT,HB⟩:=hrel;have HBwr:Hid (Below w.heap.size w wr):=HBW.out.trans (HB.out.mono hwbr);by_cases hjl:j < rs[k].rows.length
        ·rcases HS.out.below HBwr.out with hnil | ⟨b',off',he,hb2,hr,hok⟩
         ·rw [hnil] at hkl; simp at hkl
         injection he with he; injection he with he1 he2; subst he1; subst he2;have ok:=hok rs[k] (List.getElem_mem hkl);rcases ok with hnil | ⟨b2,off2,had,hbb,hr2,-⟩
         ·rw [hnil] at hjl; simp at hjl
         obtain ⟨q0,q1⟩:=hr2 j hjl;have z1:rs[k].rows[j].name.size≤maxLen:=(HFRk.out _ (List.getElem_mem hjl)).1;have hj1:=bR j;have hj2:(j:Int) < (rs[k].rows.length:Int):=by omega
         obtain ⟨kl,hkl'⟩:=jo (rs[k].name,rs[k].rows[j].name) z0 z1;have HKL:=aM hkl';obtain ⟨nr,Mr,hnr,hDA⟩:=HDA.out;have HTKE:Hid ((rs[k].rows.take (j + 1)).map (tN f rs[k].name)=(rs[k].rows.take j).map (tN f rs[k].name) ++ [tN f rs[k].name rs[k].rows[j]]):=by show _=_; rw [List.take_succ_eq_append_getElem hjl,List.map_append]; rfl
         have hEl:((rs[k].rows.take j).map (tN f rs[k].name)).length=j:=by rw [List.length_map,List.length_take]; omega
         obtain ⟨E0,hE0⟩:∃ E0,E0=oI f (rs.take k) ++ (rs[k].rows.take j).map (tN f rs[k].name):=⟨_,rfl⟩;have hE0l:E0.length≤36:=by rw [hE0,List.length_append,hEl]; have:=HEL.out; omega
         rw [← hE0] at hDA;have HE0:=aM hE0;obtain ⟨fv,hfv⟩:∃ fv,fv=f (rs[k].name,rs[k].rows[j].name):=⟨_,rfl⟩;have hfv36:=HF36.out (rs[k].name,rs[k].rows[j].name);rw [← hfv] at hfv36;obtain ⟨hfv0,hfv1⟩:=hfv36;have HFV:=aM hfv;have HLK:Hid ((gF σ (rs[k].name,rs[k].rows[j].name)).getD (.int .i64 0)=.int .i64 fv):=by
          show _=_;rw [hfv,HF.out]; unfold gF;cases h:σ (rs[k].name,rs[k].rows[j].name) <;> simp [h]
         obtain ⟨W2,hW2⟩:∃ W2,W2=wr.alloc (.cells #[.string rs[k].rows[j].name,.slice rs[k].rows[j].ad rs[k].rows[j].rows.length rs[k].rows[j].cap] 126):=⟨_,rfl⟩;obtain ⟨W3,hW3⟩:∃ W3,W3=W2.alloc (.cells #[.string rs[k].name,.int .i64 fv] 167):=⟨_,rfl⟩;have hs2:W2.heap.size=wr.heap.size + 1:=by rw [hW2]; simp
         have hs3:W3.heap.size=wr.heap.size + 2:=by rw [hW3]; simp; omega
         have hal2:Below wr.heap.size wr W2:=by rw [hW2]; exact (Below.refl _ _).alloc (Nat.le_refl _) _
         have hal3:Below W2.heap.size W2 W3:=by rw [hW3]; exact (Below.refl _ _).alloc (Nat.le_refl _) _
         have hwol:wo.heap.size < wr.heap.size:=by
          rcases Nat.lt_or_ge wo.heap.size wr.heap.size with h | h
          ·exact h
          ·have:=HT.out; rw [Array.getElem?_eq_none h] at this; cases this
         have HFRB:Hid (G.FreeB Mr wr.heap.size):=hDA.rel.fresh (Nat.le_refl _);have HM2:Hid (aJ bI prog 147 W2 bS nS (gF σ)):=HMW.out.of_block (by rw [hal2.block bS (by omega),HB.out.block bS hbS]);have HD3:=aM ((hDA.below hal2).below hal3);have HB3':Hid (Below br W W3):=(HB.out.trans (hal2.mono (by omega))).trans (hal3.mono (by omega));have HT3:Hid (W3.heap[wo.heap.size]?=some (.cells #[.string rs[k].name,.slice rs[k].ad rs[k].rows.length rs[k].cap] 63 (0,0))):=by show _=_; rw [hal3.block _ (by omega),hal2.block _ (by omega)]; exact HT.out
         have c0:wr.cell? ⟨wo.heap.size,0,none⟩=some (.string rs[k].name):=by simp [World.cell?,HT.out]
         have c0b:W2.cell? ⟨wo.heap.size,0,none⟩=some (.string rs[k].name):=(hal2.cell (p:=⟨wo.heap.size,0,none⟩) (by show wo.heap.size < _; omega)).trans c0;have g0:W2.cell? ⟨wr.heap.size,0,none⟩=some (.string rs[k].rows[j].name):=by rw [hW2]; simp
         have HR2:Hid (W3.cell? ⟨wr.heap.size,0,none⟩=some (.string rs[k].rows[j].name)∧W3.cell? ⟨wr.heap.size,1,none⟩=some (.slice rs[k].rows[j].ad rs[k].rows[j].rows.length rs[k].rows[j].cap)∧W3.cell? ⟨wr.heap.size + 1,0,none⟩=some (.string rs[k].name)∧W3.cell? ⟨wr.heap.size + 1,1,none⟩=some (.int .i64 fv)):=by
          show _∧_;rw [hW3,hW2];refine ⟨?_,?_,?_,?_⟩ <;> simp
         rw [had];clear hr hok hr2 hkl' hDA HDA hal2 hal3 HT HB hE0 hfv hEl;go_wp2_with (first | (at_lookup; rw [← hW2]; refine il _ rfl _ _ 143 rfl 147 2 iq underlying143 (Lh _) bS nS (gF σ) rfl HM2.out (rs[k].name,rs[k].rows[j].name) kl rfl HKL.out ?_; rw [HLK.out]));rw [← hW2,← hW3];clear hW2 hW3 g0 c0b c0 q0 q1 HLK HM2;obtain ⟨row0,hr0⟩:∃ r,r=(Mr (rs[k].name,fv)).getD (.slice none 0 0):=⟨_,rfl⟩;obtain ⟨nn,hnn⟩:∃ n,n=(G.lookL E0 (rs[k].name,fv)).length:=⟨_,rfl⟩;obtain ⟨xs,hxs⟩:∃ x,x=G.flatG NG (G.lookL E0 (rs[k].name,fv)):=⟨_,rfl⟩;have HR0:=aM hr0;have HNN:=aM hnn;have HXS:=aM hxs;have hnl:nn≤36:=by rw [hnn]; exact Nat.le_trans (List.length_filterMap_le _ _) hE0l
         have HROW:Hid (∀ W0:World,Below W3.heap.size W3 W0→W0.ownsRow (br + 1) 126 2 row0 nn xs):=fun W0 hb=>by rw [hr0,hnn,hxs]; exact Ha (HD3.out.rel.below hb) _
         have HKEY:Hid (∃ kl,keyOf prog 167 (A9 (rs[k].name,fv))=some kl):=Ld _ z0 hfv0 (by show fv≤1000000; omega);have hDl:D < W3.heap.size:=HD3.out.dat.lt;have hbrD:br < D:=by have:=HD3.out.ord; have:=HD3.out.dat.gt; omega
         clear hr0 hnn hxs;obtain ⟨C2,hC2⟩:∃ C:Nat→Value,C=fun n=>(Value.pointer (some ⟨D,0,none⟩)::.pointer (some ⟨D,0,none⟩)::.pointer (some ⟨D,2,none⟩)::.map (some br)::.agg #[.string rs[k].name,.int .i64 fv]::.agg #[.string rs[k].rows[j].name,.slice rs[k].rows[j].ad rs[k].rows[j].rows.length rs[k].rows[j].cap]::[]).getD n undef:=⟨_,rfl⟩;have HC2:Hid (C2 0=Value.pointer (some ⟨D,0,none⟩)∧C2 1=Value.pointer (some ⟨D,0,none⟩)∧C2 2=Value.pointer (some ⟨D,2,none⟩)∧C2 3=Value.map (some br)∧C2 4=Value.agg #[.string rs[k].name,.int .i64 fv]∧C2 5=Value.agg #[.string rs[k].rows[j].name,.slice rs[k].rows[j].ad rs[k].rows[j].rows.length rs[k].rows[j].cap]):=by show _∧_; rw [hC2]; exact ⟨rfl,rfl,rfl,rfl,rfl,rfl⟩
         clear hC2;refine nk 11 (fun n=>(u76::u77::u78::u79::u80::u82::u83::u84::u81::u85::u86::[]).getD n undef) (fun fq=>{ tmps:=List.toArray (Value.slice (some ⟨b,off,none⟩) rs.length cap::.slice ad' ts.length cap'::undef::undef::u4::u5::.map (some bS)::.bool true::.pointer (some ⟨D,0,none⟩)::undef::u10::undef::.pointer (some ⟨wo.heap.size,0,none⟩)::undef::.pointer (some ⟨wr.heap.size,0,none⟩)::.int .i64 fv::.pointer (some ⟨wr.heap.size + 1,0,none⟩)::.tuple #[.map (some bS),.bool true]::.slice (some ⟨b,off,none⟩) rs.length cap::.tuple #[.map (some bS),.bool true]::.map (some bS)::.bool true::.bool true::.bool false::.bool false::.slice ad' ts.length cap'::.bool true::.bool false::.bool false::.slice (some ⟨b,off,none⟩) rs.length cap::.map (some bt)::.map (some br)::.map (some bp)::.agg #[.map (some bt),.int .i64 0,.map (some br),.map (some bp),.slice none 0 0,.slice none 0 0]::.pointer (some ⟨D,0,none⟩)::.slice ad' ts.length cap'::.int .i64 ts.length::.int .i64 ts.length::.bool false::u39::u40::u41::u42::u43::u44::u45::u46::u47::u48::u49::u50::u51::.slice (some ⟨b,off,none⟩) rs.length cap::.int .i64 rs.length::.int .i64 k::.bool true::.pointer (some ⟨b,off + k * 2,none⟩)::.agg #[.string rs[k].name,.slice (some ⟨b2,off2,none⟩) rs[k].rows.length rs[k].cap]::.pointer (some ⟨wo.heap.size,1,none⟩)::.slice (some ⟨b2,off2,none⟩) rs[k].rows.length rs[k].cap::.int .i64 rs[k].rows.length::.int .i64 j::.bool true::.pointer (some ⟨b2,off2 + j * 2,none⟩)::.agg #[.string rs[k].rows[j].name,.slice rs[k].rows[j].ad rs[k].rows[j].rows.length rs[k].rows[j].cap]::.map (some bS)::.pointer (some ⟨wo.heap.size,0,none⟩)::.string rs[k].name::.pointer (some ⟨wr.heap.size,0,none⟩)::.string rs[k].rows[j].name::.agg #[.string rs[k].name,.string rs[k].rows[j].name]::.int .i64 fv::.pointer (some ⟨wo.heap.size,0,none⟩)::.string rs[k].name::.int .i64 fv::.agg #[.string rs[k].name,.int .i64 fv]::(fq 0)::(fq 1)::(fq 2)::(fq 3)::(fq 4)::(fq 8)::(fq 5)::(fq 6)::(fq 7)::(fq 9)::(fq 10)::u87::u88::u89::u90::u91::u92::u93::u94::u95::u96::u97::u98::undef::[]),defers:=[] }) (G.EI C2 #[.string rs[k].rows[j].name,.slice rs[k].rows[j].ad rs[k].rows[j].rows.length rs[k].rows[j].cap] 126 2 W3 br row0 nn xs (G.Back A9 prog 167 103 br nr Mr (rs[k].name,fv))) (by kernel_rfl) rfl (by kernel_rfl) (by kernel_rfl) rfl (G.ei_start W3) ?stepA ?finA;case stepA =>
          rintro i hi o ho l fq w' hli hI hpre;have HI:Hid (G.EI C2 #[.string rs[k].rows[j].name,.slice rs[k].rows[j].ad rs[k].rows[j].rows.length rs[k].rows[j].cap] 126 2 W3 br row0 nn xs (G.Back A9 prog 167 103 br nr Mr (rs[k].name,fv)) l fq w'):=hI;have HPR:Hid (∀ e ∈ o.after,Region.binds .any e=true→l e.on=true):=hpre;clear hI hpre;have hc:=Bf (i:=i) (by omega);clear hi
          repeat' rcases hc with rfl | hc
          ·obtain rfl:=Option.some.inj ho;have hA:=HI.out.early (i:=0) (by omega) hli;clear ho HPR HI;refine aa rfl fun K HK=>?_;go_simp;exact HK.out _ _ ⟨Value.pointer (some ⟨D,0,none⟩),by simp [upd, *],hA.put (by omega) HC2.out.1.symm⟩
          ·obtain rfl:=Option.some.inj ho;have hA:=HI.out.early (i:=1) (by omega) hli;have e0:=(hA.val 0 (by omega) (HPR.out ⟨0,.data⟩ (by simp) rfl)).trans HC2.out.1;clear ho HPR HI;refine aa rfl fun K HK=>?_;simp only [e0];go_simp;exact HK.out _ _ ⟨Value.pointer (some ⟨D,0,none⟩),by simp [upd, *],hA.put (by omega) HC2.out.2.1.symm⟩
          ·obtain rfl:=Option.some.inj ho;have hA:=HI.out.early (i:=2) (by omega) hli;have e1:=(hA.val 1 (by omega) (HPR.out ⟨1,.data⟩ (by simp) rfl)).trans HC2.out.2.1;clear ho HPR HI;refine aa rfl fun K HK=>?_;simp only [e1];go_simp;exact HK.out _ _ ⟨Value.pointer (some ⟨D,2,none⟩),by simp [upd, *],hA.put (by omega) HC2.out.2.2.1.symm⟩
          ·obtain rfl:=Option.some.inj ho;have hA:=HI.out.early (i:=3) (by omega) hli;have e2:=(hA.val 2 (by omega) (HPR.out ⟨2,.data⟩ (by simp) rfl)).trans HC2.out.2.2.1;have hb':=hA.bel;have d2:=(hb'.cell (p:=⟨D,2,none⟩) hDl).trans HD3.out.dat.c2;clear ho HPR HI;refine aa rfl fun K HK=>?_;simp only [e2];go_simp;exact HK.out _ _ ⟨Value.map (some br),by simp [upd, *],hA.put (by omega) HC2.out.2.2.2.1.symm⟩
          ·obtain rfl:=Option.some.inj ho;have hA:=HI.out.early (i:=4) (by omega) hli;have hb':=hA.bel;have k0:=(hb'.cell (p:=⟨wr.heap.size + 1,0,none⟩) (by show wr.heap.size + 1 < _; omega)).trans HR2.out.2.2.1;have k1:=(hb'.cell (p:=⟨wr.heap.size + 1,1,none⟩) (by show wr.heap.size + 1 < _; omega)).trans HR2.out.2.2.2;clear ho HPR HI;refine aa rfl fun K HK=>?_;go_simp;exact HK.out _ _ ⟨Value.agg #[.string rs[k].name,.int .i64 fv],by simp [upd, *],hA.put (by omega) HC2.out.2.2.2.2.1.symm⟩
          ·obtain rfl:=Option.some.inj ho;have hA:=HI.out.early (i:=5) (by omega) hli;have hb':=hA.bel;have k0:=(hb'.cell (p:=⟨wr.heap.size,0,none⟩) (by show wr.heap.size < _; omega)).trans HR2.out.1;have k1:=(hb'.cell (p:=⟨wr.heap.size,1,none⟩) (by show wr.heap.size < _; omega)).trans HR2.out.2.1;clear ho HPR HI;refine aa rfl fun K HK=>?_;go_simp;exact HK.out _ _ ⟨Value.agg #[.string rs[k].rows[j].name,.slice rs[k].rows[j].ad rs[k].rows[j].rows.length rs[k].rows[j].cap],by simp [upd, *],hA.put (by omega) HC2.out.2.2.2.2.2.symm⟩
          ·obtain rfl:=Option.some.inj ho;have hA:=HI.out.early (i:=6) (by omega) hli;have e5:=(hA.val 5 (by omega) (HPR.out ⟨5,.data⟩ (by simp) rfl)).trans HC2.out.2.2.2.2.2;clear ho HPR HI;refine aa rfl fun K HK=>?_;simp only [e5];go_simp;exact HK.out _ _ ⟨_,by simp [upd,e5],hA.lay⟩
          ·obtain rfl:=Option.some.inj ho;have hA:=HI.out.early (i:=7) (by omega) hli;have e3:=(hA.val 3 (by omega) (HPR.out ⟨3,.data⟩ (by simp) rfl)).trans HC2.out.2.2.2.1;have e4:=(hA.val 4 (by omega) (HPR.out ⟨4,.data⟩ (by simp) rfl)).trans HC2.out.2.2.2.2.1;have hall:∀ k,k≤6→l k=true:=fun k hk=>by
            have hc:=M4 (i:=k) (by omega)
            repeat' rcases hc with rfl | hc
            ·exact HPR.out ⟨0,.phase⟩ (by simp) rfl
            ·exact HPR.out ⟨1,.phase⟩ (by simp) rfl
            ·exact HPR.out ⟨2,.phase⟩ (by simp) rfl
            ·exact HPR.out ⟨3,.phase⟩ (by simp) rfl
            ·exact HPR.out ⟨4,.phase⟩ (by simp) rfl
            ·exact HPR.out ⟨5,.phase⟩ (by simp) rfl
            ·exact HPR.out ⟨6,.phase⟩ (by simp) rfl
           have hD':=HD3.out.below hA.bel;obtain ⟨kl2,hkl2⟩:=HKEY.out;obtain ⟨st,w1',hrun,hg,hback⟩:=hD'.rel.map.entry MQ JY underlying103 MU (by unfold maxLen; omega) hkl2;rw [← HR0.out] at hrun;have hrun':(Instr.mapEntry 103 (.map (some br)) (Value.agg #[.string rs[k].name,.int .i64 fv])).run prog w'=.ok (.tuple #[row0,goInt st]) w1':=hrun;clear ho HPR HI;refine aa rfl fun K HK=>?_;simp only [e3,e4];go_simp;exact HK.out _ _ ⟨_,by simp [upd,e3,e4,goInt],hA.took hall hg hback⟩
          ·obtain rfl:=Option.some.inj ho;have h7:=HPR.out ⟨7,.data⟩ (by simp) rfl;have hB:=HI.out.midB h7 (i:=8) (by omega) hli;obtain ⟨st,e7⟩:=HI.out.seven h7;clear ho HPR HI;refine aa rfl fun K HK=>?_;simp only [e7];go_simp;exact HK.out _ _ ⟨_,by simp [upd,e7,goInt],hB.first⟩
          ·obtain rfl:=Option.some.inj ho;have h7:=HPR.out ⟨7,.chain⟩ (by simp) rfl;have h8:=HPR.out ⟨8,.data⟩ (by simp) rfl;have hB:=HI.out.midB h7 (i:=9) (by omega) hli;obtain ⟨W0,st,g,hm1,hm2,hm3,hm4,hm5,e7,hm7,hm8,hm9⟩:=hB.mid;have e8:=hm8 h8;have hown:=(HROW.out W0 hm1).kept hm5 (by
            rcases h:row0.ownBlock with _ | g'
            ·exact .inl rfl
            ·right; intro e; injection e with e; have:=((HROW.out W0 hm1).lt g' h).1; omega)
           have hnew:w'.heap[g]?=some (.cells #[.string rs[k].rows[j].name,.slice rs[k].rows[j].ad rs[k].rows[j].rows.length rs[k].rows[j].cap] 126 (0,0)):=by
            have hgl:g < W0.heap.size:=by
             rcases Nat.lt_or_ge g W0.heap.size with h | h
             ·exact h
             ·rw [Array.getElem?_eq_none h] at hm4; cases hm4
            rw [hm5.block g hgl (fun e=>by injection e with e; omega)]; exact hm4
           clear ho HPR HI;refine jC w' rfl rfl _ _ 61 rfl (br + 1) 126 iR _ 2 40 underlying61 HIR.out.1 HIR.out.2.1 HIR.out.2.2.1 HIR.out.2.2.2 rfl (by decide) row0 nn xs (by simp [Act.eval,e8]) hown ⟨g,0,none⟩ 1 1 [Value.string rs[k].rows[j].name,.slice rs[k].rows[j].ad rs[k].rows[j].rows.length rs[k].rows[j].cap] (by simp [Act.eval,hm2]) rfl (fun j u hu=>news_of_block hnew j u hu) (by simp [Value.oneCell']) (by unfold maxLen; omega) (by omega) (by have:=hm5.size; have:=hm1.size; omega) ?_;intro v' w2' hown2 hgr2 hloc2;exact ⟨v',by simp [upd,Act.put],hB.app h8 hgr2 hown2 hloc2⟩
          ·obtain rfl:=Option.some.inj ho;have h7:=HPR.out ⟨7,.data⟩ (by simp) rfl;obtain ⟨st,e7⟩:=HI.out.seven h7;have HI2:=HI.out.second h7 e7;clear ho HPR HI;refine aa rfl fun K HK=>?_;simp only [e7];go_simp;exact HK.out _ _ ⟨_,by simp [upd,e7,goInt],HI2⟩
         case finA =>
          rintro o ho l fq w' hall hI;obtain rfl:=Option.some.inj ho;have hC:=hI.last hall;obtain ⟨W0,w1',st,hm1,hm2,hm3,hm4,hm5,hm6,-,hm8⟩:=hC.mid;have e10:=hm8 (hall 10 (by omega));have e3:=(hC.val 3 (by omega)).trans HC2.out.2.2.2.1;obtain ⟨w7,hrun,hM3,hg3⟩:=hm6 w' (fq 9) (hm3.block br (by have:=hm2.size; have:=hm1.size; omega) (fun e=>by have:=(HROW.out W0 hm1).lt br e.symm; omega));have hst:=(HD3.out.rel.below hm1).step (y:=(rs[k].name,fv)) (s:=rs[k].rows[j]) hm2 (by rw [← HNN.out,← HXS.out]; exact hm4) (by rw [← HR0.out]; exact hm3) (by rw [← HR0.out]; exact hm5) hg3 hM3;have HD7:=aM ((HD3.out.below hm1).list hst.1 hst.2);have HB7:Hid (Below br W w7):=by
           have b0:Below br W W0:=HB3'.out.trans (hm1.mono (by omega));have b1:Below br W w1':=b0.grown hm2 (by have:=hm1.size; omega) (fun i hi=>by injection hi with hi; omega);have b2:Below br W w':=b1.grown hm3 (by have:=hm2.size; have:=hm1.size; omega) (fun i hi=>by have:=((HROW.out W0 hm1).lt i hi).1; omega);exact b2.grown hg3 (by have:=hm3.size; have:=hm2.size; have:=hm1.size; omega) (fun i hi=>by injection hi with hi; omega)
          have HT7:Hid (w7.heap[wo.heap.size]?=some (.cells #[.string rs[k].name,.slice rs[k].ad rs[k].rows.length rs[k].cap] 63 (0,0))):=by
           show _=_;have h0:W0.heap[wo.heap.size]?=_:=(hm1.block wo.heap.size (by omega)).trans HT3.out;rw [hst.2.block wo.heap.size (by have:=hm1.size; omega) (by omega) (pI (HD3.out.rel.below hm1) h0 (by decide))]; exact h0
          have hrun2:(Instr.entryStore 103 (.map (some br)) (.int .i64 st) (fq 9)).run prog w'=.ok () w7:=hrun;obtain ⟨Mn,hMn⟩:∃ M,M=kD Mr (rs[k].name,fv) (some (fq 9)):=⟨_,rfl⟩;rw [← hMn] at HD7;refine aa rfl fun K HK=>?_;simp only [e3,e10];go_simp;refine HK.out _ _ ?_;obtain ⟨n0,hn0⟩:∃ n,n=mR E0:=⟨_,rfl⟩;have HN0:=aM hn0;rw [← hn0] at HD7;have d1:=HD7.out.dat.c1;have fz:=fun o=>gH HD7.out.dat.kind.choose_spec o;have hDw:=HD7.out.dat.lt;clear hst hrun hrun2 hM3 hg3 hm1 hm2 hm3 hm4 hm5 hm6 hm8 hC hI hall ho HK K e3 e10 HD3 HT3 HB3' HROW HC2 HKEY hMn HR0 HNN HXS HR2 HFRB hn0 hDl hbrD;obtain ⟨w8,hw8⟩:∃ x,x=w7.setCell ⟨D,1,none⟩ (Value.int .i64 (max n0 (fv + 1))):=⟨_,rfl⟩;have HEQ:Hid (oI f (rs.take k) ++ (rs[k].rows.take (j + 1)).map (tN f rs[k].name)=E0 ++ [((rs[k].name,fv),rs[k].rows[j])]):=by show _=_; rw [HTKE.out,← List.append_assoc,← HE0.out]; unfold tN; rw [← HFV.out]
          have HD8:Hid (∃ nr Mr,nr≤6 * k + (j + 1)∧DatA w8 rs D br bp bt (mR (oI f (rs.take k) ++ (rs[k].rows.take (j + 1)).map (tN f rs[k].name))) nr Mr (oI f (rs.take k) ++ (rs[k].rows.take (j + 1)).map (tN f rs[k].name)) (lU ts) (lT ts) (ja ts) ts.length Mp vo vu):=by
           rw [HEQ.out,CQ,← HN0.out,hw8];exact ⟨nr + 1,Mn,by omega,HD7.out.count (max n0 (fv + 1))⟩
          have HT8:Hid (w8.heap[wo.heap.size]?=some (.cells #[.string rs[k].name,.slice rs[k].ad rs[k].rows.length rs[k].cap] 63 (0,0))):=by
           show _=_;rw [hw8,heap_setCell_other w7 ⟨D,1,none⟩ wo.heap.size _ (fun e=>by
            have e':wo.heap.size=D:=e;have h1:=HT7.out;obtain ⟨cur,h2⟩:=HD7.out.dat.kind;rw [e',h2] at h1;injection h1 with h1;injection h1 with _ h3;exact absurd h3 (by decide))]
           exact HT7.out
          have HB8:Hid (Below br W w8):=by show Below _ _ _; rw [hw8]; exact HB7.out.setCell (by show br≤D; have:=HD7.out.ord; have:=HD7.out.dat.gt; omega) _
          rw [had] at HT8;clear HD7 HT7 HB7;go_wp2;rw [← hw8];go_roundw;case rel=>exact ⟨j + 1,by omega,by go_num,HD8,HT8,HB8⟩
          case measure=>simp [intOf] <;> omega
        ·obtain rfl:j=rs[k].rows.length:=by omega
         have HDN2:Hid (∃ nr Mr,nr≤6 * (k + 1)∧DatA wr rs D br bp bt (mR (oI f (rs.take (k + 1)))) nr Mr (oI f (rs.take (k + 1))) (lU ts) (lT ts) (ja ts) ts.length Mp vo vu):=by
          obtain ⟨nr,Mr,hnr,hDA⟩:=HDA.out;rw [List.take_length] at hDA;rw [HSU.out];exact ⟨nr,Mr,by omega,hDA⟩
         have HEL2:Hid ((oI f (rs.take (k + 1))).length≤6 * (k + 1)):=by
          show _≤_;rw [HSU.out,List.length_append,List.length_map];have:=HEL.out;omega
         clear HDA HT;go_wp2;go_roundw;case rel=>exact ⟨k + 1,by omega,by go_num,HEL2,HDN2,HB⟩
         case measure=>simp [intOf] <;> omega
      ·obtain rfl:k=rs.length:=by omega
       rw [List.take_length] at HDA;obtain ⟨nr,Mr,-,hDA⟩:=HDA.out;have HDE:=aM hDA;clear hDA HDA;go_wp2;exact bodyPost_ret (v:=.tuple #[.pointer (some ⟨D,0,none⟩),.bool true]) (by simp [results,Tryz.results55,go_sem]) rfl ⟨HBwr.out,.inr ⟨HRT.out,D,br,bp,bt,nr,ts.length,Mr,Mp,vo,vu,f,rfl,hw2,HLS.out,HDE.out⟩⟩
 ·have HN:Hid (gJ fit rs ts=false):=by
   show _=_;unfold gJ;cases hh:aA (ah rs) with
   | false=>simp
   | true=>exact absurd (dG.1 hh) hno
  clear hno;go_wp2;exact bodyPost_ret (v:=.tuple #[.pointer none,.bool false]) (by simp [results,Tryz.results55,go_sem]) rfl ⟨HB1.out,.inl ⟨HN.out,rfl⟩⟩
end Go.Proofs.YteoflgocljfgeaaGreatDoor
