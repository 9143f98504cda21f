/- The code of an error, as the program tells it. -/
import Derived.Test.YteoflgocljfgeaaGreatDoorChanged
open Go.Proofs.Tryz
namespace Go.Proofs.YteoflgocljfgeaaGreatDoor
set_option maxRecDepth 100000
set_option linter.unusedVariables false
open Go.ChangeShapes Go.WideShapes Go.ChangeAt Go.RowKit
open Pl
structure ErrsD (w:World) (a:Nat→Addr):Prop where
 cell:∀ g,g≤6→g ≠ 1→g < w.heap.size∧w.cell? ⟨g,0,none⟩=some (.iface 283 (.pointer (some (a g))))∧(a g).block < w.heap.size∧∃ c T,w.heap[(a g).block]?=some (.cells c T (0,0))
 apart:∀ g h,g≤6→h≤6→g ≠ 1→h ≠ 1→g ≠ h→a g ≠ a h
 typ:1 < w.heap.size∧w.cell? ⟨1,0,none⟩=some (.iface 174 (.agg #[.pointer (some ⟨8,67,none⟩)]))
theorem ErrsD.below {w w':World} {a:Nat→Addr} (h:ErrsD w a) (hb:Below w.heap.size w w'):ErrsD w' a where
 cell g h6 h1:=by
  obtain ⟨hl,hc,hbl,c,T,e⟩:=h.cell g h6 h1;exact ⟨Nat.lt_of_lt_of_le hl hb.size,(hb.cell (p:=⟨g,0,none⟩) hl).trans hc,Nat.lt_of_lt_of_le hbl hb.size,c,T,(hb.block _ hbl).trans e⟩
 apart:=h.apart
 typ:=⟨Nat.lt_of_lt_of_le h.typ.1 hb.size,(hb.cell (p:=⟨1,0,none⟩) h.typ.1).trans h.typ.2⟩
theorem ErrsD.errs {w:World} {a:Nat→Addr} (h:ErrsD w a):GX w:=fun g h2 h6=>by
 obtain ⟨hl,hc,_⟩:=h.cell g h6 (by omega);exact ⟨hl,_,_,hc⟩
theorem Ew (a:Nat→Addr) (w:World) (h:ErrsD w a):Calls prog 30 #[.nilIface] w fun e w'=>e=.returned (.int .i64 0)∧w'=w:=by
 have H:Hid (ErrsD w a):=h;clear h;obtain ⟨-,c0,-,k0,T0,b0⟩:=H.out.cell 0 (by omega) (by omega);obtain ⟨-,c2,-,k2,T2,b2⟩:=H.out.cell 2 (by omega) (by omega);obtain ⟨-,c3,-,k3,T3,b3⟩:=H.out.cell 3 (by omega) (by omega);obtain ⟨-,c4,-,k4,T4,b4⟩:=H.out.cell 4 (by omega) (by omega);obtain ⟨-,c5,-,k5,T5,b5⟩:=H.out.cell 5 (by omega) (by omega);obtain ⟨-,c6,-,k6,T6,b6⟩:=H.out.cell 6 (by omega) (by omega);go_enter func30,ntmps30;go_wp2_with fail;refine (tL (a 0) _).mono ?_;rintro e w' ⟨rfl,rfl⟩;go_wp2_with fail;refine (tL (a 2) _).mono ?_;rintro e w' ⟨rfl,rfl⟩;go_wp2_with fail;refine (tL (a 3) _).mono ?_;rintro e w' ⟨rfl,rfl⟩;go_wp2_with fail;refine (tL (a 4) _).mono ?_;rintro e w' ⟨rfl,rfl⟩;go_wp2_with fail;refine (tL (a 5) _).mono ?_;rintro e w' ⟨rfl,rfl⟩;go_wp2_with fail;refine (tL (a 6) _).mono ?_;rintro e w' ⟨rfl,rfl⟩;go_wp2;go_ret;exact ⟨rfl,rfl⟩
theorem A8 (a:Nat→Addr) (w:World) (h:ErrsD w a):Calls prog 30 #[.iface 283 (.pointer (some (a 0)))] w fun e w'=>e=.returned (.int .i64 1)∧w'=w:=by
 have H:Hid (ErrsD w a):=h;clear h;obtain ⟨-,c0,-,k0,T0,b0⟩:=H.out.cell 0 (by omega) (by omega);obtain ⟨-,c2,-,k2,T2,b2⟩:=H.out.cell 2 (by omega) (by omega);obtain ⟨-,c3,-,k3,T3,b3⟩:=H.out.cell 3 (by omega) (by omega);obtain ⟨-,c4,-,k4,T4,b4⟩:=H.out.cell 4 (by omega) (by omega);obtain ⟨-,c5,-,k5,T5,b5⟩:=H.out.cell 5 (by omega) (by omega);obtain ⟨-,c6,-,k6,T6,b6⟩:=H.out.cell 6 (by omega) (by omega);go_enter func30,ntmps30;go_wp2_with fail;refine (La (a 0) _).mono ?_;rintro e w' ⟨rfl,rfl⟩;go_wp2;go_ret;exact ⟨rfl,rfl⟩
theorem JR (a:Nat→Addr) (p:Nat) (w:World) (h:ErrsD w a) (h1:w.cell? ⟨p,0,none⟩=some (.iface 283 (.pointer (some (a 2))))):Calls prog 30 #[.iface 70 (.pointer (some ⟨p,0,none⟩))] w fun e w'=>e=.returned (.int .i64 2)∧w'=w:=by
 have H:Hid (ErrsD w a):=h;clear h;obtain ⟨-,c0,-,k0,T0,b0⟩:=H.out.cell 0 (by omega) (by omega);obtain ⟨-,c2,-,k2,T2,b2⟩:=H.out.cell 2 (by omega) (by omega);obtain ⟨-,c3,-,k3,T3,b3⟩:=H.out.cell 3 (by omega) (by omega);obtain ⟨-,c4,-,k4,T4,b4⟩:=H.out.cell 4 (by omega) (by omega);obtain ⟨-,c5,-,k5,T5,b5⟩:=H.out.cell 5 (by omega) (by omega);obtain ⟨-,c6,-,k6,T6,b6⟩:=H.out.cell 6 (by omega) (by omega);go_enter func30,ntmps30;go_wp2_with fail;refine (aX p (a 2) (a 0) _ _ _ _ _ h1 (H.out.apart 2 0 (by omega) (by omega) (by omega) (by omega) (by omega)) b2 b0).mono ?_;rintro e w' ⟨rfl,rfl⟩;go_wp2_with fail;refine (jy p (a 2) _ h1).mono ?_;rintro e w' ⟨rfl,rfl⟩;go_wp2;go_ret;exact ⟨rfl,rfl⟩
theorem JS (a:Nat→Addr) (p:Nat) (w:World) (h:ErrsD w a) (h1:w.cell? ⟨p,0,none⟩=some (.iface 283 (.pointer (some (a 3))))):Calls prog 30 #[.iface 70 (.pointer (some ⟨p,0,none⟩))] w fun e w'=>e=.returned (.int .i64 3)∧w'=w:=by
 have H:Hid (ErrsD w a):=h;clear h;obtain ⟨-,c0,-,k0,T0,b0⟩:=H.out.cell 0 (by omega) (by omega);obtain ⟨-,c2,-,k2,T2,b2⟩:=H.out.cell 2 (by omega) (by omega);obtain ⟨-,c3,-,k3,T3,b3⟩:=H.out.cell 3 (by omega) (by omega);obtain ⟨-,c4,-,k4,T4,b4⟩:=H.out.cell 4 (by omega) (by omega);obtain ⟨-,c5,-,k5,T5,b5⟩:=H.out.cell 5 (by omega) (by omega);obtain ⟨-,c6,-,k6,T6,b6⟩:=H.out.cell 6 (by omega) (by omega);go_enter func30,ntmps30;go_wp2_with fail;refine (aX p (a 3) (a 0) _ _ _ _ _ h1 (H.out.apart 3 0 (by omega) (by omega) (by omega) (by omega) (by omega)) b3 b0).mono ?_;rintro e w' ⟨rfl,rfl⟩;go_wp2_with fail;refine (aX p (a 3) (a 2) _ _ _ _ _ h1 (H.out.apart 3 2 (by omega) (by omega) (by omega) (by omega) (by omega)) b3 b2).mono ?_;rintro e w' ⟨rfl,rfl⟩;go_wp2_with fail;refine (jy p (a 3) _ h1).mono ?_;rintro e w' ⟨rfl,rfl⟩;go_wp2;go_ret;exact ⟨rfl,rfl⟩
theorem JU (a:Nat→Addr) (p:Nat) (w:World) (h:ErrsD w a) (h1:w.cell? ⟨p,0,none⟩=some (.iface 283 (.pointer (some (a 4))))):Calls prog 30 #[.iface 70 (.pointer (some ⟨p,0,none⟩))] w fun e w'=>e=.returned (.int .i64 4)∧w'=w:=by
 have H:Hid (ErrsD w a):=h;clear h;obtain ⟨-,c0,-,k0,T0,b0⟩:=H.out.cell 0 (by omega) (by omega);obtain ⟨-,c2,-,k2,T2,b2⟩:=H.out.cell 2 (by omega) (by omega);obtain ⟨-,c3,-,k3,T3,b3⟩:=H.out.cell 3 (by omega) (by omega);obtain ⟨-,c4,-,k4,T4,b4⟩:=H.out.cell 4 (by omega) (by omega);obtain ⟨-,c5,-,k5,T5,b5⟩:=H.out.cell 5 (by omega) (by omega);obtain ⟨-,c6,-,k6,T6,b6⟩:=H.out.cell 6 (by omega) (by omega);go_enter func30,ntmps30;go_wp2_with fail;refine (aX p (a 4) (a 0) _ _ _ _ _ h1 (H.out.apart 4 0 (by omega) (by omega) (by omega) (by omega) (by omega)) b4 b0).mono ?_;rintro e w' ⟨rfl,rfl⟩;go_wp2_with fail;refine (aX p (a 4) (a 2) _ _ _ _ _ h1 (H.out.apart 4 2 (by omega) (by omega) (by omega) (by omega) (by omega)) b4 b2).mono ?_;rintro e w' ⟨rfl,rfl⟩;go_wp2_with fail;refine (aX p (a 4) (a 3) _ _ _ _ _ h1 (H.out.apart 4 3 (by omega) (by omega) (by omega) (by omega) (by omega)) b4 b3).mono ?_;rintro e w' ⟨rfl,rfl⟩;go_wp2_with fail;refine (jy p (a 4) _ h1).mono ?_;rintro e w' ⟨rfl,rfl⟩;go_wp2;go_ret;exact ⟨rfl,rfl⟩
theorem JV (a:Nat→Addr) (p:Nat) (w:World) (h:ErrsD w a) (h1:w.cell? ⟨p,0,none⟩=some (.iface 283 (.pointer (some (a 5))))):Calls prog 30 #[.iface 70 (.pointer (some ⟨p,0,none⟩))] w fun e w'=>e=.returned (.int .i64 5)∧w'=w:=by
 have H:Hid (ErrsD w a):=h;clear h;obtain ⟨-,c0,-,k0,T0,b0⟩:=H.out.cell 0 (by omega) (by omega);obtain ⟨-,c2,-,k2,T2,b2⟩:=H.out.cell 2 (by omega) (by omega);obtain ⟨-,c3,-,k3,T3,b3⟩:=H.out.cell 3 (by omega) (by omega);obtain ⟨-,c4,-,k4,T4,b4⟩:=H.out.cell 4 (by omega) (by omega);obtain ⟨-,c5,-,k5,T5,b5⟩:=H.out.cell 5 (by omega) (by omega);obtain ⟨-,c6,-,k6,T6,b6⟩:=H.out.cell 6 (by omega) (by omega);go_enter func30,ntmps30;go_wp2_with fail;refine (aX p (a 5) (a 0) _ _ _ _ _ h1 (H.out.apart 5 0 (by omega) (by omega) (by omega) (by omega) (by omega)) b5 b0).mono ?_;rintro e w' ⟨rfl,rfl⟩;go_wp2_with fail;refine (aX p (a 5) (a 2) _ _ _ _ _ h1 (H.out.apart 5 2 (by omega) (by omega) (by omega) (by omega) (by omega)) b5 b2).mono ?_;rintro e w' ⟨rfl,rfl⟩;go_wp2_with fail;refine (aX p (a 5) (a 3) _ _ _ _ _ h1 (H.out.apart 5 3 (by omega) (by omega) (by omega) (by omega) (by omega)) b5 b3).mono ?_;rintro e w' ⟨rfl,rfl⟩;go_wp2_with fail;refine (aX p (a 5) (a 4) _ _ _ _ _ h1 (H.out.apart 5 4 (by omega) (by omega) (by omega) (by omega) (by omega)) b5 b4).mono ?_;rintro e w' ⟨rfl,rfl⟩;go_wp2_with fail;refine (jy p (a 5) _ h1).mono ?_;rintro e w' ⟨rfl,rfl⟩;go_wp2;go_ret;exact ⟨rfl,rfl⟩
theorem JW (a:Nat→Addr) (p:Nat) (w:World) (h:ErrsD w a) (h1:w.cell? ⟨p,0,none⟩=some (.iface 283 (.pointer (some (a 6))))):Calls prog 30 #[.iface 70 (.pointer (some ⟨p,0,none⟩))] w fun e w'=>e=.returned (.int .i64 6)∧w'=w:=by
 have H:Hid (ErrsD w a):=h;clear h;obtain ⟨-,c0,-,k0,T0,b0⟩:=H.out.cell 0 (by omega) (by omega);obtain ⟨-,c2,-,k2,T2,b2⟩:=H.out.cell 2 (by omega) (by omega);obtain ⟨-,c3,-,k3,T3,b3⟩:=H.out.cell 3 (by omega) (by omega);obtain ⟨-,c4,-,k4,T4,b4⟩:=H.out.cell 4 (by omega) (by omega);obtain ⟨-,c5,-,k5,T5,b5⟩:=H.out.cell 5 (by omega) (by omega);obtain ⟨-,c6,-,k6,T6,b6⟩:=H.out.cell 6 (by omega) (by omega);go_enter func30,ntmps30;go_wp2_with fail;refine (aX p (a 6) (a 0) _ _ _ _ _ h1 (H.out.apart 6 0 (by omega) (by omega) (by omega) (by omega) (by omega)) b6 b0).mono ?_;rintro e w' ⟨rfl,rfl⟩;go_wp2_with fail;refine (aX p (a 6) (a 2) _ _ _ _ _ h1 (H.out.apart 6 2 (by omega) (by omega) (by omega) (by omega) (by omega)) b6 b2).mono ?_;rintro e w' ⟨rfl,rfl⟩;go_wp2_with fail;refine (aX p (a 6) (a 3) _ _ _ _ _ h1 (H.out.apart 6 3 (by omega) (by omega) (by omega) (by omega) (by omega)) b6 b3).mono ?_;rintro e w' ⟨rfl,rfl⟩;go_wp2_with fail;refine (aX p (a 6) (a 4) _ _ _ _ _ h1 (H.out.apart 6 4 (by omega) (by omega) (by omega) (by omega) (by omega)) b6 b4).mono ?_;rintro e w' ⟨rfl,rfl⟩;go_wp2_with fail;refine (aX p (a 6) (a 5) _ _ _ _ _ h1 (H.out.apart 6 5 (by omega) (by omega) (by omega) (by omega) (by omega)) b6 b5).mono ?_;rintro e w' ⟨rfl,rfl⟩;go_wp2_with fail;refine (jy p (a 6) _ h1).mono ?_;rintro e w' ⟨rfl,rfl⟩;go_wp2;go_ret;exact ⟨rfl,rfl⟩
theorem Ey (a:Nat→Addr) (p g:Nat) (w:World) (h:ErrsD w a) (h2:2≤g) (h6:g≤6) (h1:w.cell? ⟨p,0,none⟩=some (.iface 283 (.pointer (some (a g))))):Calls prog 30 #[.iface 70 (.pointer (some ⟨p,0,none⟩))] w fun e w'=>e=.returned (.int .i64 (g:Int))∧w'=w:=by
 have hc:g=2 ∨ g=3 ∨ g=4 ∨ g=5 ∨ g=6:=by omega
 repeat' rcases hc with rfl | hc
 ·exact JR a p w h h1
 ·exact JS a p w h h1
 ·exact JU a p w h h1
 ·exact JV a p w h h1
 ·exact JW a p w h h1
end Go.Proofs.YteoflgocljfgeaaGreatDoor
namespace Go.Proofs.YteoflgocljfgeaaGreatDoor.G
open Go.ChangeShapes Go.WideShapes Go.ChangeAt Go.RowKit Go.Maps
open Pl
variable {K α:Type} {enc:K→Value} {P:Program} {kt et:TypeId} {sz:Nat} {cl:α→List Value}
def FreeB (M:K→Option Value) (g:Nat):Prop:=∀ k v,M k=some v→v.ownBlock ≠ some g
structure Stl (W:World) (M:K→Option Value) (w2:World) (M2:K→Option Value) (bL:Nat):Prop where
 size:W.heap.size≤w2.heap.size
 block:∀ g,g < W.heap.size→g ≠ bL→FreeB M g→w2.heap[g]?=W.heap[g]?
 free:∀ g,g < W.heap.size→FreeB M g→FreeB M2 g
theorem Stl.refl (W:World) (M:K→Option Value) (bL:Nat):Stl W M W M bL:=⟨Nat.le_refl _,fun _ _ _ _=>rfl,fun _ _ h=>h⟩
theorem Stl.trans {W w2 w3:World} {M M2 M3:K→Option Value} {bL:Nat} (h:Stl W M w2 M2 bL) (h2:Stl w2 M2 w3 M3 bL):Stl W M w3 M3 bL where
 size:=Nat.le_trans h.size h2.size
 block g hg hb hf:=(h2.block g (Nat.lt_of_lt_of_le hg h.size) hb (h.free g hg hf)).trans (h.block g hg hb hf)
 free g hg hf:=h2.free g (Nat.lt_of_lt_of_le hg h.size) (h.free g hg hf)
theorem Stl.below {W w2:World} {M:K→Option Value} {bL:Nat} (hB:Below W.heap.size W w2):Stl W M w2 M bL:=⟨hB.size,fun g hg _ _=>hB.block g hg,fun _ _ h=>h⟩
structure Cel (w:World) (M:K→Option Value) (bL g o:Nat) (u:Value):Prop where
 cell:w.cell? ⟨g,o,none⟩=some u
 lt:g < w.heap.size
 free:FreeB M g
 ne:g ≠ bL
theorem Cel.stl {w w2:World} {M M2:K→Option Value} {bL g o:Nat} {u:Value} (h:Cel w M bL g o u) (hS:Stl w M w2 M2 bL):Cel w2 M2 bL g o u where
 cell:=(World.cell?_of_block (w:=w) (hS.block g h.lt h.ne h.free)).trans h.cell
 lt:=Nat.lt_of_lt_of_le h.lt hS.size
 free:=hS.free g h.lt h.free
 ne:=h.ne
theorem Ez {w w':World} {base:Nat} {e:TypeId} {size:Nat} {v:Value} {n:Nat} {xs:List Value} (h:w.ownsRow base e size v n xs) (hb:Below w.heap.size w w'):w'.ownsRow base e size v n xs:=by
 have hl:=fun g hg=>(h.lt g hg).2;refine ⟨h.1,?_⟩;rcases h.2 with h0 | ⟨g,cap,cur,rfl,h1,h2,h3⟩
 ·exact .inl h0
 ·exact .inr ⟨g,cap,cur,rfl,h1,(hb.block g (hl g rfl)).trans h2,h3⟩
variable [DecidableEq K]
def flatG (cl:α→List Value) (xs:List α):List Value:=xs.flatMap cl
theorem ED (cl:α→List Value) (xs:List α) (x:α):flatG cl (xs ++ [x])=flatG cl xs ++ cl x:=by simp [flatG]
def lookL (E:List (K × α)) (k:K):List α:=E.filterMap fun p=>if p.1=k then some p.2 else none
theorem iC (E F:List (K × α)) (k:K):lookL (E ++ F) k=lookL E k ++ lookL F k:=by unfold lookL; rw [List.filterMap_append]
theorem qH (E:List (K × α)) (k:K) (s:α):lookL (E ++ [(k,s)]) k=lookL E k ++ [s]:=by rw [iC]; simp [lookL]
theorem oz (E:List (K × α)) {k y:K} (s:α) (h:k ≠ y):lookL (E ++ [(y,s)]) k=lookL E k:=by rw [iC]; simp [lookL,Ne.symm h]
theorem sZ {E:List (K × α)} {k:K} {s:α}:s ∈ lookL E k ↔ (k,s) ∈ E:=by
 unfold lookL;rw [List.mem_filterMap];constructor
 ·rintro ⟨⟨a,b⟩,h1,h2⟩;simp only at h2;split at h2
  ·rename_i e; injection h2 with h2; rw [← e,← h2]; exact h1
  ·cases h2
 ·intro h; exact ⟨(k,s),h,by simp⟩
structure Grp (enc:K→Value) (P:Program) (kt et:TypeId) (sz:Nat) (cl:α→List Value) (w:World) (bL n:Nat) (M:K→Option Value) (E:List (K × α)):Prop where
 map:aJ enc P kt w bL n M
 row:∀ k,(M k=none∧lookL E k=[]) ∨ ∃ v,M k=some v∧w.ownsRow (bL + 1) et sz v (lookL E k).length (flatG cl (lookL E k))
 apart:∀ k k' v v',k ≠ k'→M k=some v→M k'=some v'→∀ g,v.ownBlock=some g→v'.ownBlock ≠ some g
theorem Grp.lt {w:World} {bL n:Nat} {M:K→Option Value} {E:List (K × α)} (h:Grp enc P kt et sz cl w bL n M E) {k:K} {v:Value} (hk:M k=some v) {g:Nat} (hg:v.ownBlock=some g):bL < g∧g < w.heap.size:=by
 rcases h.row k with ⟨e,-⟩ | ⟨v',e,ho⟩
 ·rw [e] at hk; cases hk
 ·rw [e] at hk; injection hk with hk; subst hk;have:=ho.lt g hg;exact ⟨by omega,this.2⟩
theorem Grp.fresh {w:World} {bL n:Nat} {M:K→Option Value} {E:List (K × α)} (h:Grp enc P kt et sz cl w bL n M E) {g:Nat} (hg:w.heap.size≤g):FreeB M g:=fun k v hk e=>by
 have:=(h.lt hk e).2; omega
theorem Grp.mono {w:World} {bL n n':Nat} {M:K→Option Value} {E:List (K × α)} (h:Grp enc P kt et sz cl w bL n M E) (hn:n≤n'):Grp enc P kt et sz cl w bL n' M E:=⟨h.map.mono hn,h.row,h.apart⟩
theorem Grp.below {w w':World} {bL n:Nat} {M:K→Option Value} {E:List (K × α)} (h:Grp enc P kt et sz cl w bL n M E) (hB:Below w.heap.size w w'):Grp enc P kt et sz cl w' bL n M E where
 map:=h.map.below hB
 row k:=by
  rcases h.row k with e | ⟨v,e,ho⟩
  ·exact .inl e
  ·exact .inr ⟨v,e,Ez ho hB⟩
 apart:=h.apart
theorem grp_made (w:World):Grp enc P kt et sz cl (w.alloc (.map #[] 0)) w.heap.size 0 (fun _=>none) [] where
 map:=oQ _ _ _ w
 row k:=.inl ⟨rfl,rfl⟩
 apart k k' v v' _ h:=by cases h
theorem Grp.step {W0 w1 w2 w3:World} {bL n:Nat} {M:K→Option Value} {E:List (K × α)} {y:K} {v':Value} {s:α} (h:Grp enc P kt et sz cl W0 bL n M E) (hg1:W0.grownBy w1 (some bL)) (hown:w2.ownsRow (bL + 1) et sz v' ((lookL E y).length + 1) (flatG cl (lookL E y) ++ cl s))
  (hg2:w1.grownBy w2 ((M y).getD (.slice none 0 0)).ownBlock) (hloc:v'.ownBlock=((M y).getD (.slice none 0 0)).ownBlock ∨ v'.ownBlock=some w1.heap.size) (hg3:w2.grownBy w3 (some bL)) (hM:aJ enc P kt w3 bL (n + 1) (kD M y (some v'))) :
  Grp enc P kt et sz cl w3 bL (n + 1) (kD M y (some v')) (E ++ [(y,s)])∧Stl W0 M w3 (kD M y (some v')) bL:=by
 have hrow0:∀ k v,M k=some v→∃ xs m,W0.ownsRow (bL + 1) et sz v m xs:=fun k v hk=>by
  rcases h.row k with ⟨e,-⟩ | ⟨v1,e,ho⟩
  ·rw [e] at hk; cases hk
  ·rw [e] at hk; injection hk with hk; subst hk; exact ⟨_,_,ho⟩
 have hne2:∀ k v,k ≠ y→M k=some v→v.ownBlock=none ∨ v.ownBlock ≠ ((M y).getD (.slice none 0 0)).ownBlock:=fun k v hky hk=>by
  cases e:v.ownBlock with
  | none=>exact .inl rfl
  | some g =>
   right;cases ey:M y with
   | none=>simp [Value.ownBlock]
   | some vy=>intro e2; exact h.apart k y v vy hky hk ey g e (by simpa using e2.symm)
 have hnb:∀ v,(∃ k,M k=some v)→v.ownBlock=none ∨ v.ownBlock ≠ some bL:=fun v ⟨k,hk⟩=>by
  cases e:v.ownBlock with
  | none=>exact .inl rfl
  | some g=>right; have:=(h.lt hk e).1; intro e2; injection e2 with e2; omega
 have hnew:∀ g,v'.ownBlock=some g→bL < g:=fun g e=>by have:=(hown.lt g e).1; omega
 have hv'b:v'.ownBlock=none ∨ v'.ownBlock ≠ some bL:=by
  cases e:v'.ownBlock with
  | none=>exact .inl rfl
  | some g=>right; have:=hnew g e; intro e2; injection e2 with e2; omega
 constructor
 ·refine ⟨hM,fun k=>?_,fun k k' v u hkk hk hk' g e=>?_⟩
  ·by_cases ek:k=y
   ·subst ek;rw [dP,qH];refine .inr ⟨v',rfl,?_⟩;rw [ED,List.length_append];exact hown.kept hg3 hv'b
   ·rw [bJ ek,oz _ _ ek];rcases h.row k with e | ⟨v,e,ho⟩
    ·exact .inl e
    ·exact .inr ⟨v,e,((ho.kept hg1 (hnb v ⟨k,e⟩)).kept hg2 (hne2 k v ek e)).kept hg3 (hnb v ⟨k,e⟩)⟩
  ·by_cases ek:k=y
   ·subst ek;rw [dP] at hk; injection hk with hk; subst hk;rw [bJ (Ne.symm hkk)] at hk';intro e2;rcases hloc with el | el
    ·rw [e] at el;cases ey:M k with
     | none=>rw [ey] at el; simp [Value.ownBlock] at el
     | some vy=>rw [ey] at el; exact h.apart k k' vy u hkk ey hk' g (by simpa using el.symm) e2
    ·rw [e] at el; injection el with el;have:=(h.lt hk' e2).2;have:=hg1.size;omega
   ·rw [bJ ek] at hk;by_cases ek':k'=y
    ·subst ek';rw [dP] at hk'; injection hk' with hk'; subst hk';intro e2;rcases hloc with el | el
     ·rw [e2] at el;cases ey:M k' with
      | none=>rw [ey] at el; simp [Value.ownBlock] at el
      | some vy=>rw [ey] at el; exact h.apart k k' v vy hkk hk ey g e (by simpa using el.symm)
     ·rw [e2] at el; injection el with el;have:=(h.lt hk e).2;have:=hg1.size;omega
    ·rw [bJ ek'] at hk';exact h.apart k k' v u hkk hk hk' g e
 ·refine ⟨Nat.le_trans hg1.size (Nat.le_trans hg2.size hg3.size),fun g hg hb hf=>?_,fun g hg hf k v hk=>?_⟩
  ·have h1:=hg1.block g hg (fun e=>hb (by injection e));have h2:=hg2.block g (Nat.lt_of_lt_of_le hg hg1.size) (fun e=>by
    cases ey:M y with
    | none=>rw [ey] at e; simp [Value.ownBlock] at e
    | some vy=>rw [ey] at e; exact hf y vy ey (by simpa using e.symm))
   have h3:=hg3.block g (Nat.lt_of_lt_of_le hg (Nat.le_trans hg1.size hg2.size)) (fun e=>hb (by injection e));rw [h3,h2,h1]
  ·by_cases ek:k=y
   ·subst ek;rw [dP] at hk; injection hk with hk; subst hk;intro e2;rcases hloc with el | el
    ·rw [e2] at el;cases ey:M k with
     | none=>rw [ey] at el; simp [Value.ownBlock] at el
     | some vy=>rw [ey] at el; exact hf k vy ey (by simpa using el.symm)
    ·rw [e2] at el; injection el with el; have:=hg1.size; omega
   ·rw [bJ ek] at hk;exact hf k v hk
end Go.Proofs.YteoflgocljfgeaaGreatDoor.G
namespace Go.Proofs.YteoflgocljfgeaaGreatDoor
open Go.RowKit
section
variable {P:Program} {ops:Array Oper} {Q:Exit→Act→World→Prop}
theorem nk {id:Nat} {a:Act} {w:World} (L:Nat) (f0:Nat→Value) (F:(Nat→Value)→Act) (I:(Nat→Bool)→(Nat→Value)→World→Prop)
  (hm:P.follows .mixedOrders=true) (hsz:ops.size=L + 1) (hord:vT ops=true) (hlo:vG ops L=true)
  (h0:a=F f0) (hI0:I (fun _=>false) f0 w.drew)
  (hstep:∀ i,i < L→∀ o,ops[i]?=some o→∀ (l:Nat→Bool) f w',l i=false→I l f w'→(∀ e ∈ o.after,Region.binds .any e=true→l e.on=true) →
   wpOp P ops Q i (fun a' w''=>∃ v,a'=F (upd f i v)∧I (fun k=>if k=i then true else l k) (upd f i v) w'') (F f) w')
  (hfin:∀ o,ops[L]?=some o→∀ (l:Nat→Bool) f w',(∀ k,k < L→l k=true)→I l f w'→wpOp P ops Q L (fun a' w''=>Q .normal a' w'') (F f) w') :
  (Code.region id ops true).wp P Q a w:=by
 refine eZ (fun listed a' w'=>listed.size=L + 1∧((listed.getD L false=false∧∃ f,a'=F f∧I (fun k=>listed.getD k false) f w') ∨ ((∀ j,j≤L→listed.getD j true=true)∧Q .normal a' w'))) hm ?_ ?_ ?_
 ·refine ⟨by simpa using hsz,Or.inl ⟨?_,_,h0,?_⟩⟩
  ·rw [Array.getD_eq_getD_getElem?,Array.getElem?_replicate]; split <;> rfl
  ·have:(fun k=>(Array.replicate ops.size false).getD k false)=fun _=>false:=funext fun k=>by rw [Array.getD_eq_getD_getElem?,Array.getElem?_replicate]; split <;> rfl
   rw [this]; exact hI0
 ·rintro listed a' w' ⟨hs,h⟩ i hi;obtain ⟨hl,o,ho,hpre⟩:=mem_ready.1 hi;have hiL:i < L + 1:=by have:=(Array.getElem?_eq_some_iff.1 ho).1; omega
  rcases h with ⟨hn,f,rfl,hI⟩ | ⟨hall,-⟩
  ·by_cases e:i=L
   ·subst e;have hall:∀ k,k < i→listed.getD k false=true:=fun k hk=>by
     obtain ⟨e,he,rfl,hb⟩:=yL hlo o ho k hk;exact hpre e he hb
    refine wpOp_mono (fun a'' w'' hq=>⟨by simpa using hs,Or.inr ⟨fun j hj=>?_,hq⟩⟩) (hfin o ho _ f w' hall hI);rw [mX (by simp; omega),aW _ _ _ (by omega)];by_cases e:j=i
    ·simp [e]
    ·rw [if_neg e]; exact hall j (by omega)
   ·refine wpOp_mono ?_ (hstep i (by omega) o ho _ f w' (by rw [← mX (by omega)]; exact hl) hI (fun e he hb=>hpre e he hb));rintro a'' w'' ⟨v,rfl,hI'⟩;refine ⟨by simpa using hs,Or.inl ⟨?_,_,rfl,?_⟩⟩
    ·rw [aW _ _ _ (by omega),if_neg (Ne.symm e)]; exact hn
    ·have:(fun k=>(listed.setIfInBounds i true).getD k false)=fun k=>if k=i then true else listed.getD k false:=funext fun k=>aW _ _ _ (by omega)
     rw [this]; exact hI'
  ·rw [hall i (by omega)] at hl; cases hl
 ·rintro listed a' w' ⟨hs,h⟩ hr;rcases h with ⟨hn,-⟩ | ⟨-,hq⟩
  ·have:=nD hr hsz (oN hord) hs L (by omega);rw [mX (by omega)] at this;rw [this] at hn; cases hn
  ·exact hq
end
end Go.Proofs.YteoflgocljfgeaaGreatDoor
namespace Go.Proofs.YteoflgocljfgeaaGreatDoor.G
set_option linter.unusedVariables false
open Go.ChangeShapes Go.WideShapes Go.ChangeAt Go.RowKit Go.Maps
open Pl
def Back {K:Type} [DecidableEq K] (enc:K→Value) (P:Program) (kt t:TypeId) (bp n:Nat) (M:K→Option Value) (y:K) (st:Nat) (w:World):Prop :=
 ∀ (w2:World) (val:Value),w2.heap[bp]?=w.heap[bp]?→∃ w3,(Instr.entryStore t (.map (some bp)) (goInt st) val).run P w2=.ok () w3∧aJ enc P kt w3 bp (n + 1) (kD M y (some val))∧w2.grownBy w3 (some bp)
def put (l:Nat→Bool) (i:Nat):Nat→Bool:=fun k=>if k=i then true else l k
structure EA (C:Nat→Value) (NEW:Array Value) (et:TypeId) (W:World) (l:Nat→Bool) (f:Nat→Value) (w:World):Prop where
 late:∀ k,7≤k→k≤10→l k=false
 bel:Below W.heap.size W w
 val:∀ k,k≤5→l k=true→f k=C k
 row:l 6=true→∃ g,f 6=.slice (some ⟨g,0,none⟩) 1 1∧W.heap.size≤g∧w.heap[g]?=some (.cells NEW et (0,0))
structure EB (C:Nat→Value) (NEW:Array Value) (et:TypeId) (W:World) (bp:Nat) (row0:Value) (BK:Nat→World→Prop) (l:Nat→Bool) (f:Nat→Value) (w:World):Prop where
 low:∀ k,k≤7→l k=true
 l9:l 9=false
 val:∀ k,k≤5→f k=C k
 mid:∃ (W0:World) (st g:Nat),Below W.heap.size W W0∧f 6=.slice (some ⟨g,0,none⟩) 1 1∧W.heap.size≤g∧W0.heap[g]?=some (.cells NEW et (0,0))∧W0.grownBy w (some bp)∧f 7=.tuple #[row0,goInt st]∧BK st w∧(l 8=true→f 8=row0)∧(l 10=true→f 10=goInt st)
structure EC (C:Nat→Value) (NEW:Array Value) (et:TypeId) (sz:Nat) (W:World) (bp:Nat) (row0:Value) (nn:Nat) (xs:List Value) (BK:Nat→World→Prop) (l:Nat→Bool) (f:Nat→Value) (w:World):Prop where
 low:∀ k,k≤9→l k=true
 val:∀ k,k≤5→f k=C k
 mid:∃ (W0 w1:World) (st:Nat),Below W.heap.size W W0∧W0.grownBy w1 (some bp)∧w1.grownBy w row0.ownBlock∧w.ownsRow (bp + 1) et sz (f 9) (nn + 1) (xs ++ NEW.toList)∧((f 9).ownBlock=row0.ownBlock ∨ (f 9).ownBlock=some w1.heap.size)∧BK st w1∧f 7=.tuple #[row0,goInt st]∧(l 10=true→f 10=goInt st)
def EI (C:Nat→Value) (NEW:Array Value) (et:TypeId) (sz:Nat) (W:World) (bp:Nat) (row0:Value) (nn:Nat) (xs:List Value) (BK:Nat→World→Prop) (l:Nat→Bool) (f:Nat→Value) (w:World):Prop :=
 EA C NEW et W l f w ∨ EB C NEW et W bp row0 BK l f w ∨ EC C NEW et sz W bp row0 nn xs BK l f w
section
variable {C:Nat→Value} {NEW:Array Value} {et:TypeId} {sz:Nat} {W:World} {bp:Nat} {row0:Value} {nn:Nat} {xs:List Value} {BK:Nat→World→Prop} {l:Nat→Bool} {f:Nat→Value} {w:World}
theorem ei_start (W:World):EI C NEW et sz W bp row0 nn xs BK (fun _=>false) f W.drew:=.inl ⟨fun _ _ _=>rfl,(Below.refl _ _).drew,fun _ _ h=>(by cases h),fun h=>(by cases h)⟩
theorem EI.early (h:EI C NEW et sz W bp row0 nn xs BK l f w) {i:Nat} (hi:i≤7) (hl:l i=false):EA C NEW et W l f w:=by
 rcases h with h | h | h
 ·exact h
 ·rw [h.low i hi] at hl; cases hl
 ·rw [h.low i (by omega)] at hl; cases hl
theorem EA.put {i:Nat} (h:EA C NEW et W l f w) (hi:i≤5) {v:Value} (hv:v=C i):EI C NEW et sz W bp row0 nn xs BK (fun k=>if k=i then true else l k) (upd f i v) w:=by
 refine .inl ⟨fun k h7 h10=>?_,h.bel,fun k hk hl=>?_,fun hl=>?_⟩
 ·show (if _=_ then true else _)=_; rw [if_neg (by omega)]; exact h.late k h7 h10
 ·by_cases e:k=i
  ·subst e; simp [upd,hv]
  ·simp only [if_neg e] at hl;simp only [upd,if_neg e]; exact h.val k hk hl
 ·replace hl:(if _=_ then true else _)=true:=hl;rw [if_neg (by omega)] at hl;simp only [upd];rw [if_neg (by omega)];exact h.row hl
theorem EA.lay (h:EA C NEW et W l f w):EI C NEW et sz W bp row0 nn xs BK (fun k=>if k=6 then true else l k) (upd f 6 (.slice (some ⟨w.heap.size,0,none⟩) 1 1)) (w.alloc (.cells NEW et)):=by
 refine .inl ⟨fun k h7 h10=>?_,h.bel.alloc h.bel.size _,fun k hk hl=>?_,fun _=>⟨w.heap.size,by simp [upd],h.bel.size,heap_alloc_new w _⟩⟩
 ·show (if _=_ then true else _)=_; rw [if_neg (by omega)]; exact h.late k h7 h10
 ·replace hl:(if _=_ then true else _)=true:=hl;rw [if_neg (by omega)] at hl;simp only [upd];rw [if_neg (by omega)]; exact h.val k hk hl
theorem EA.took (h:EA C NEW et W l f w) (hall:∀ k,k≤6→l k=true) {st:Nat} {w1:World} (hg:w.grownBy w1 (some bp)) (hb:BK st w1):EI C NEW et sz W bp row0 nn xs BK (fun k=>if k=7 then true else l k) (upd f 7 (.tuple #[row0,goInt st])) w1:=by
 obtain ⟨g,e6,hg6,hc⟩:=h.row (hall 6 (by omega));refine .inr (.inl ⟨fun k hk=>?_,?_,fun k hk=>?_,w,st,g,h.bel,?_,hg6,hc,hg,?_,hb,fun h8=>?_,fun h10=>?_⟩)
 ·by_cases e:k=7
  ·simp [e]
  ·simp only [if_neg e]; exact hall k (by omega)
 ·show (if (9:Nat)=7 then true else l 9)=false;rw [if_neg (by omega)]; exact h.late 9 (by omega) (by omega)
 ·simp only [upd]; rw [if_neg (by omega)]; exact h.val k hk (hall k (by omega))
 ·simp only [upd]; rw [if_neg (by omega)]; exact e6
 ·simp [upd]
 ·have:(if (8:Nat)=7 then true else l 8)=true:=h8;rw [if_neg (by omega),h.late 8 (by omega) (by omega)] at this; cases this
 ·have:(if (10:Nat)=7 then true else l 10)=true:=h10;rw [if_neg (by omega),h.late 10 (by omega) (by omega)] at this; cases this
theorem EI.midB (h:EI C NEW et sz W bp row0 nn xs BK l f w) (h7:l 7=true) {i:Nat} (hi:i≤9) (hl:l i=false):EB C NEW et W bp row0 BK l f w:=by
 rcases h with h | h | h
 ·rw [h.late 7 (by omega) (by omega)] at h7; cases h7
 ·exact h
 ·rw [h.low i hi] at hl; cases hl
theorem EI.seven (h:EI C NEW et sz W bp row0 nn xs BK l f w) (h7:l 7=true):∃ st:Nat,f 7=.tuple #[row0,goInt st]:=by
 rcases h with h | h | h
 ·rw [h.late 7 (by omega) (by omega)] at h7; cases h7
 ·obtain ⟨_,st,_,_,_,_,_,_,e,_⟩:=h.mid; exact ⟨st,e⟩
 ·obtain ⟨_,_,st,_,_,_,_,_,_,e,_⟩:=h.mid; exact ⟨st,e⟩
theorem EB.first (h:EB C NEW et W bp row0 BK l f w):EI C NEW et sz W bp row0 nn xs BK (fun k=>if k=8 then true else l k) (upd f 8 row0) w:=by
 obtain ⟨W0,st,g,h1,h2,h3,h4,h5,h6,h7,h8,h9⟩:=h.mid;refine .inr (.inl ⟨fun k hk=>?_,?_,fun k hk=>?_,W0,st,g,h1,?_,h3,h4,h5,?_,h7,fun _=>?_,fun h10=>?_⟩)
 ·show (if _=_ then true else _)=_; rw [if_neg (by omega)]; exact h.low k hk
 ·show (if (9:Nat)=8 then true else l 9)=false;rw [if_neg (by omega)]; exact h.l9
 ·simp only [upd]; rw [if_neg (by omega)]; exact h.val k hk
 ·simp only [upd]; rw [if_neg (by omega)]; exact h2
 ·simp only [upd]; rw [if_neg (by omega)]; exact h6
 ·simp [upd]
 ·have h10':(if (10:Nat)=8 then true else l 10)=true:=h10;rw [if_neg (by omega)] at h10';simp only [upd]; rw [if_neg (by omega)]; exact h9 h10'
theorem EI.second (h:EI C NEW et sz W bp row0 nn xs BK l f w) (h7:l 7=true) {st:Nat} (e:f 7=.tuple #[row0,goInt st]):EI C NEW et sz W bp row0 nn xs BK (fun k=>if k=10 then true else l k) (upd f 10 (goInt st)) w:=by
 have same:∀ st':Nat,.tuple #[row0,goInt st']=Value.tuple #[row0,goInt st]→goInt st'=goInt st:=fun st' e=>by
  injection e with e;have:=congrArg Array.toList e;simp only [List.cons.injEq] at this;exact this.2.1
 rcases h with h | h | h
 ·rw [h.late 7 (by omega) (by omega)] at h7; cases h7
 ·obtain ⟨W0,st',g,h1,h2,h3,h4,h5,h6,hb,h8,h9⟩:=h.mid;have es:=same st' (h6.symm.trans e);refine .inr (.inl ⟨fun k hk=>?_,?_,fun k hk=>?_,W0,st',g,h1,?_,h3,h4,h5,?_,hb,fun h8'=>?_,fun _=>?_⟩)
  ·show (if _=_ then true else _)=_; rw [if_neg (by omega)]; exact h.low k hk
  ·show (if (9:Nat)=10 then true else l 9)=false;rw [if_neg (by omega)]; exact h.l9
  ·simp only [upd]; rw [if_neg (by omega)]; exact h.val k hk
  ·simp only [upd]; rw [if_neg (by omega)]; exact h2
  ·simp only [upd]; rw [if_neg (by omega)]; exact h6
  ·have h8'':(if (8:Nat)=10 then true else l 8)=true:=h8';rw [if_neg (by omega)] at h8'';simp only [upd]; rw [if_neg (by omega)]; exact h8 h8''
  ·simp [upd,es]
 ·obtain ⟨W0,w1,st',h1,h2,h3,h4,h5,hb,h6,h9⟩:=h.mid;have es:=same st' (h6.symm.trans e);refine .inr (.inr ⟨fun k hk=>?_,fun k hk=>?_,W0,w1,st',h1,h2,h3,?_,?_,hb,?_,fun _=>?_⟩)
  ·show (if _=_ then true else _)=_; rw [if_neg (by omega)]; exact h.low k hk
  ·simp only [upd]; rw [if_neg (by omega)]; exact h.val k hk
  ·simp only [upd]; rw [if_neg (by omega)]; exact h4
  ·simp only [upd]; rw [if_neg (by omega)]; exact h5
  ·simp only [upd]; rw [if_neg (by omega)]; exact h6
  ·simp [upd,es]
theorem EB.app (h:EB C NEW et W bp row0 BK l f w) (h8:l 8=true) {v':Value} {w':World} (hg:w.grownBy w' row0.ownBlock) (ho:w'.ownsRow (bp + 1) et sz v' (nn + 1) (xs ++ NEW.toList)) (hloc:v'.ownBlock=row0.ownBlock ∨ v'.ownBlock=some w.heap.size):EI C NEW et sz W bp row0 nn xs BK (fun k=>if k=9 then true else l k) (upd f 9 v') w':=by
 obtain ⟨W0,st,g,h1,h2,h3,h4,h5,h6,hb,_,h9⟩:=h.mid;refine .inr (.inr ⟨fun k hk=>?_,fun k hk=>?_,W0,w,st,h1,h5,hg,?_,?_,hb,?_,fun h10=>?_⟩)
 ·by_cases e:k=9
  ·simp [e]
  ·by_cases e8:k=8
   ·simp only [if_neg e]; rw [e8]; exact h8
   ·simp only [if_neg e]; exact h.low k (by omega)
 ·simp only [upd]; rw [if_neg (by omega)]; exact h.val k hk
 ·simp only [upd,if_true]; exact ho
 ·simp only [upd,if_true]; exact hloc
 ·simp only [upd]; rw [if_neg (by omega)]; exact h6
 ·have h10':(if (10:Nat)=9 then true else l 10)=true:=h10;rw [if_neg (by omega)] at h10';simp only [upd]; rw [if_neg (by omega)]; exact h9 h10'
theorem EI.last (h:EI C NEW et sz W bp row0 nn xs BK l f w) (hall:∀ k,k < 11→l k=true):EC C NEW et sz W bp row0 nn xs BK l f w:=by
 rcases h with h | h | h
 ·have:=hall 7 (by omega); rw [h.late 7 (by omega) (by omega)] at this; cases this
 ·have:=hall 9 (by omega); rw [h.l9] at this; cases this
 ·exact h
end
end Go.Proofs.YteoflgocljfgeaaGreatDoor.G
