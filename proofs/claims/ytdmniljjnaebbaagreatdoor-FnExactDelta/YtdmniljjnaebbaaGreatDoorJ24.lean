/- What leans on what, in the program's list and in the document's words: the same. -/
import Derived.Test.YtdmniljjnaebbaaGreatDoorSq
import Derived.Test.YtdmniljjnaebbaaGreatDoorHoldS1
import Derived.Test.YtdmniljjnaebbaaGreatDoorJ23
import Derived.Test.YtdmniljjnaebbaaGreatDoorThisI
open Go.Proofs.Tryz
set_option maxHeartbeats 80000000
namespace Go.Proofs.YtdmniljjnaebbaaGreatDoor
open Pl
theorem KP (ng:Bool) (xs:List Al):cu ng xs=(di xs).map fun a=>(⟨a.t,a.s,ng⟩:Dp):=by
 induction xs with
 | nil=>rfl
 | cons a xs ih=>simp only [cu,di]; split <;> simp [ih]
theorem BS (ts:List Ty) (typ:dB) (ng:Bool) (e:Ex) (hn:az e=true) (hd:e.kind=3→bF (aH ts typ e.over)=true):cu ng e.allow ++ mf ts typ ng e=(iy ts typ e).map fun a=>(⟨a.t,a.s,ng⟩:Dp):=by
 by_cases h1:e.kind=1
 ·unfold mf iy;rw [if_neg (by omega),if_neg (by omega),if_pos h1,List.append_nil,KP]
 rw [rf hn h1];unfold mf iy;rw [if_neg h1];by_cases h2:e.kind=2
 ·rw [if_pos h2,if_pos h2]; rfl
 rw [if_neg h2,if_neg h2];by_cases h3:e.kind=3
 ·rw [if_pos h3,if_pos h3];unfold fD;rw [if_pos (hd h3),List.map_map];rfl
 rw [if_neg h3,if_neg h3]; rfl
theorem BU {ts:List Ty} {typ:ByteArray} {es:List Ex} {d:Dp} {i:Nat} (hd:d ∈ jO ts typ es i):∀ {k:Nat},i < k→d ∈ aM ts typ es k
 | 0,h=>by omega
 | k + 1,h=>by
  simp only [aM];by_cases e:i=k
  ·subst e; exact Sz.2 (.inr hd)
  exact Sz.2 (.inl (BU hd (by omega)))
theorem zy {ts:List Ty} {t r:ByteArray} {es:List Ex} {x:Ky × St}:∀ {k:Nat},x ∈ relE ts t r es k ↔ ∃ i,i < k∧∃ e,es[i]?=some e∧x ∈ yP ts t r ((ed es).getD i false) e
 | 0=>by simp [relE]
 | k + 1=>by
  simp only [relE,Sz];rw [zy];constructor
  ·rintro (⟨i,hi,h⟩ | h)
   ·exact ⟨i,by omega,h⟩
   cases e:es[k]? with
   | none=>rw [e] at h; cases h
   | some y=>rw [e] at h; exact ⟨k,by omega,y,e,h⟩
  rintro ⟨i,hi,e,he,h⟩;by_cases ek:i=k
  ·subst ek; right; rw [he]; exact h
  exact .inl ⟨i,by omega,e,he,h⟩
theorem nW {rs:List TR} (h:bq (ag rs)=true) {t:TR} (ht:t ∈ rs) {q:RR} (hq:q ∈ t.rows):fC (ag rs) t.name q.name=some (ai q.rows):=by
 have hT:=ut h;have hs:=qA (M:=fun _=>none) (rs:=rs) (k:=(t.name,q.name)) (.inr ⟨t,ht,q,hq,rfl⟩);obtain ⟨v,hv⟩:=Option.isSome_iff_exists.1 hs;obtain ⟨t',ht',q',hq',e,-,e2,-⟩:=hT.yes _ v hv;injection e with e3 e4;have h1:t=t':=Eo h ht ht' e3;subst h1;obtain ⟨i,hi,rfl⟩:=List.mem_iff_getElem.1 ht;have h2:q=q':=Ep (mg h i hi).2.2 hq hq' e4;subst h2;exact e2
theorem iE {es:List Ex} (h:aY es=true):∀ e ∈ es,az e=true:=by
 simp only [aY,Sn] at h;exact SC.1 h.1.1.1.2
theorem FE (t r:dB) (ng:Bool):stepOf ⟨t,r,ng⟩=vO ng:=by cases ng <;> rfl
theorem Pp {rs:List TR} (h:bq (ag rs)=true) (hr:jv (ag rs)=true):Edge (ag rs) (iB (ag rs) rs):=by
 have UO:∀ t ∈ rs,∀ q ∈ t.rows,∀ e ∈ ai q.rows,az e=true∧(e.kind=3→bF (aH (ag rs) t.name e.over)=true):=by
  intro t ht q hq e he;have h1:=((bR h).2.2 t ht q hq).1;refine ⟨iE h1 e he,fun h3=>?_⟩;unfold jv at hr;rw [SC] at hr;have h2:=hr t.p (List.mem_map_of_mem ht);unfold o8 at h2;rw [SC] at h2;have h4:aP (ag rs) t.name (ai q.rows)=true:=h2 q.p (List.mem_map_of_mem hq);have h5:=(Be h4 e he).2;unfold lI at h5;rw [if_neg (by omega),if_pos h3,Sn] at h5;exact h5.1
 intro on t0 r0 s;constructor
 ·intro hm;unfold iB iA at hm;rw [SB] at hm;obtain ⟨t,ht,hm⟩:=hm;rw [SB] at hm;obtain ⟨q,hq,hm⟩:=hm;obtain ⟨i,hi,e,he,hm⟩:=zy.1 hm;unfold yP at hm;obtain ⟨a,ha,e1⟩:=Sy.1 hm;injection e1 with e2 e3;injection e3 with e4 e5 e6;subst e4; subst e5;refine ⟨o9.2 ⟨t.p,List.mem_map_of_mem ht,q.p,List.mem_map_of_mem hq,rfl⟩,⟨a.t,a.s,(ed (ai q.rows)).getD i false⟩,?_,e2,by rw [FE]; exact e6⟩;unfold gu oW;have ero:aH (ag rs) t.name q.name=ai q.rows:=by unfold aH; rw [nW h ht hq]; rfl
  simp only [ero];have hi2:i < (ai q.rows).length:=(List.getElem?_eq_some_iff.1 he).1;refine BU (i:=i) ?_ hi2;unfold jO;rw [he];obtain ⟨n1,n2⟩:=UO t ht q hq e (List.mem_of_getElem? he);simp only;rw [BS _ _ _ _ n1 n2];exact List.mem_map_of_mem (f:=fun a:Al=>(⟨a.t,a.s,(ed (ai q.rows)).getD i false⟩:Dp)) ha
 rintro ⟨hk,d,hd,e1,e2⟩;obtain ⟨t',ht',r',hr',e3⟩:=o9.1 hk;obtain ⟨t,ht,rfl⟩:=Sy.1 ht';obtain ⟨q,hq,rfl⟩:=Sy.1 hr';injection e3 with e4 e5;subst e4; subst e5;unfold gu oW at hd;have ero:aH (ag rs) t.p.name q.p.name=ai q.rows:=by
  have:=nW h ht hq;show aH (ag rs) t.name q.name=_;unfold aH; rw [this]; rfl
 simp only [ero] at hd;obtain ⟨i,hi,hd⟩:=qY hd;unfold jO at hd;split at hd
 ·cases hd
 rename_i e he;obtain ⟨n1,n2⟩:=UO t ht q hq e (List.mem_of_getElem? he);have hdn:cu ((ed (ai q.rows)).getD i false) e.allow ++ mf (ag rs) t.p.name ((ed (ai q.rows)).getD i false) e=_:=BS (ag rs) t.name _ e n1 n2;rw [hdn] at hd;obtain ⟨a,ha,rfl⟩:=Sy.1 hd;unfold iB iA;rw [SB];refine ⟨t,ht,?_⟩;rw [SB];refine ⟨q,hq,zy.2 ⟨i,by rw [aS] at hi; exact hi,e,he,?_⟩⟩;unfold yP;rw [Sy];refine ⟨a,ha,?_⟩;rw [← e1,← e2,FE];rfl
theorem ND {rs:List TR} (h:bq (ag rs)=true):∀ r ∈ rs,∀ q ∈ r.rows,∀ e ∈ q.rows,e.e.allow.length≤6:=by
 intro r hr q hq e he;have h1:=iE ((bR h).2.2 r hr q hq).1 e.e (by unfold ai; exact List.mem_map_of_mem he);by_cases h2:e.e.kind=1
 ·unfold az at h1;rw [if_pos h2] at h1;simp only [Sn,gG,SE] at h1;exact h1.1.1.1.1.2
 rw [rf h1 h2]; simp
theorem pG {α β:Type} (f:α→List β) (B:Nat):∀ (xs:List α),(∀ x ∈ xs,(f x).length≤B)→(xs.flatMap f).length≤xs.length * B
 | [],_=>by simp
 | x::xs,h=>by
  rw [List.flatMap_cons,Sr,List.length_cons,Nat.succ_mul];have h1:=h x (by simp);have h2:=pG f B xs fun q hq=>h q (by simp [hq]);omega
theorem KQ (rs:List TR) (h6:∀ r ∈ rs,r.rows.length≤6) (hex:∀ r ∈ rs,∀ q ∈ r.rows,aY (ai q.rows)=true∧q.rows.length≤15∧∀ e ∈ q.rows,dQ q.rows.length e.e.kids) (h66:∀ r ∈ rs,∀ q ∈ r.rows,∀ e ∈ q.rows,e.e.allow.length≤6) (hl:rs.length≤6:=by omega):(iB (ag rs) rs).length≤100000:=by
 have h1:∀ t ∈ rs,(iA (ag rs) t.name t.rows).length≤540:=by
  intro t ht;have h2:∀ q ∈ t.rows,(relE (ag rs) t.name q.name (ai q.rows) q.rows.length).length≤90:=by
   intro q hq;have h3:∀ k,k≤q.rows.length→(relE (ag rs) t.name q.name (ai q.rows) k).length≤k * 6:=by
    intro k
    induction k with
    | zero=>intro _; simp [relE]
    | succ k ih =>
     intro hk;rw [Br _ _ _ _ _ (by omega) _ rfl,Sr];have h4:=ih (by omega);have h5:(yP (ag rs) t.name q.name ((ed (ai q.rows)).getD k false) q.rows[k].e).length≤6:=by
      unfold yP;rw [Ta];exact Bt rs h66 _ _ (h66 t ht q hq _ (Sd (by omega)))
     omega
   have h4:=h3 q.rows.length (Sj _);have h5:=(hex t ht q hq).2.1;omega
  have h3:=pG (fun q:RR=>relE (ag rs) t.name q.name (ai q.rows) q.rows.length) 90 t.rows h2;have h4:=h6 t ht;unfold iA;omega
 have h2:=pG (fun t:TR=>iA (ag rs) t.name t.rows) 540 rs h1;unfold iB;omega
open Go.ChangeAt Go.ChangeShapes Go.Maps Go.RowKit Go.WideShapes
set_option linter.unusedVariables false
set_option maxRecDepth 100000
structure Vt (rows:List ER):Prop where
 len:rows.length≤1000
 kids:∀ q ∈ rows,q.e.kids.length≤1000
 low:Jf (ai rows)
 two:∀ e ∈ ai rows,e.kind=6→2≤e.kids.length
theorem Vt.kid {rows:List ER} (h:Vt rows) {n:Nat} (hn:n < rows.length) {i:Int} (hi:i ∈ rows[n].e.kids):0≤i∧i < (n:Int):=by
 have:=h.low n (by rw [aS]; exact hn) i;have e:(ai rows)[n]'(by rw [aS]; exact hn)=rows[n].e:=by simp [ai]
 rw [e] at this;exact this hi
theorem vV (v0:Value) (U2:Option Addr) (Uv:Nat) (ts:List Tp) (Tm:Option Addr) (capE:Nat) (rows:List ER) (UI:Option Addr) (Ui:Nat) (truth:List Fc) (f:Fc) (htl:ts.length≤1048576) (hN:Vt rows) (htr:truth.length≤1048576) :
  ∀ (k n:Nat) (adK:Option Addr) (capK:Nat) (known:List Fc) (w:World),n < k→n < rows.length→known.length≤1048576→HW w U2 ts Tm rows adK known UI truth →
  Calls prog 85 #[v0,.slice U2 ts.length Uv,.slice Tm rows.length capE,.int .i64 (n:Int),.slice adK known.length capK,.slice UI truth.length Ui,.agg #[.string f.a,.string f.b,.string f.r,.string f.c,.string f.d]] w fun e w'=>e=.returned (.bool (iX ts (ai rows) truth f k known n))∧aa w w'
 | 0,_,_,_,_,_,h,_,_,_=>absurd h (SV _)
 | k + 1,n,adK,capK,known,w,hk,hn,hkn,hW=>by
  have e:(ai rows)[n]?=some rows[n].e:=by simp [ai,hn]
  have VK:∀ (VZ:Option Addr) (U6:Nat) (known':List Fc),known'.length≤1048576→HW w U2 ts Tm rows VZ known' UI truth→∀ i ∈ rows[n].e.kids,NC v0 (.slice U2 ts.length Uv) (.slice Tm rows.length capE) (.slice VZ known'.length U6) (.slice UI truth.length Ui) f w i (iX ts (ai rows) truth f k known' i.toNat):=fun VZ U6 known' hl hW' i hi w1 hb1=>by
   have h1:=hN.kid hn hi;have h2:=vV v0 U2 Uv ts Tm capE rows UI Ui truth f htl hN htr k i.toNat VZ U6 known' w1 (by omega) (by omega) hl (hW'.below hb1);have e2:((i.toNat:Nat):Int)=i:=by omega
   rw [e2] at h2;exact h2
  unfold iX;rw [e];have hm:rows[n] ∈ rows:=Sd hn;have hme:rows[n].e ∈ ai rows:=Sy.2 ⟨_,hm,rfl⟩;by_cases k1:rows[n].e.kind=1
  ·simp only [if_pos k1];exact Dj v0 U2 Uv ts Tm capE rows n adK capK known UI Ui truth f w hW hn hN.len hkn htl k1
  by_cases k2:rows[n].e.kind=2
  ·simp only [if_neg k1,if_pos k2];exact FB v0 U2 Uv ts Tm capE rows n adK capK known UI Ui truth f w hW hn hN.len hkn k2
  by_cases k3:rows[n].e.kind=3
  ·simp only [if_neg k1,if_neg k2,if_pos k3];exact Dk v0 U2 Uv ts Tm capE rows n adK capK known UI Ui truth f w hW hn hN.len hkn htl k3
  by_cases k4:rows[n].e.kind=4
  ·simp only [if_neg k1,if_neg k2,if_neg k3,if_pos k4];exact Ap (fun i=>iX ts (ai rows) truth f k known i.toNat) v0 _ Tm capE rows n _ _ f w hW.ex hn hN.len (hN.kids _ hm) k4 (VK adK capK known hkn hW)
  by_cases k5:rows[n].e.kind=5
  ·simp only [if_neg k1,if_neg k2,if_neg k3,if_neg k4,if_pos k5];exact Dl (fun i=>iX ts (ai rows) truth f k known i.toNat) v0 _ Tm capE rows n _ _ f w hW.ex hn hN.len (hN.kids _ hm) k5 (VK adK capK known hkn hW)
  by_cases k6:rows[n].e.kind=6
  ·simp only [if_neg k1,if_neg k2,if_neg k3,if_neg k4,if_neg k5,if_pos k6];have h2:=hN.two _ hme k6;have hg:∀ q,q < 2→rows[n].e.kids.getD q 0 ∈ rows[n].e.kids:=fun q hq=>by
    rw [List.getD_eq_getElem?_getD,Sw (by omega)];exact Sd _
   exact FD _ _ v0 _ Tm capE rows n _ _ f w hW.ex hn hN.len (hN.kids _ hm) h2 k6 (VK adK capK known hkn hW _ (hg 0 (by omega))) (VK UI Ui truth htr ⟨hW.tup,hW.ex,hW.tr,hW.tr⟩ _ (hg 1 (by omega)))
  simp only [if_neg k1,if_neg k2,if_neg k3,if_neg k4,if_neg k5,if_neg k6];exact Ip v0 U2 Uv ts Tm capE rows n _ _ f w hW.ex hn hN.len k1 k2 k3 k4 k5 k6
def wM (B:Nat):Value:=.func (Fn.func 199) #[] #[.pointer (some ⟨B,0,none⟩),.pointer (some ⟨B + 1,0,none⟩),.pointer (some ⟨B + 1 + 1,0,none⟩),.pointer (some ⟨B + 1 + 1 + 1,0,none⟩)]
def Gc (w:World) (D:Nat) (vE:Value) (f:Fc) (bK:Nat) (x:ER):World :=
 (((((w.alloc (.cells #[.pointer (some ⟨D,0,none⟩)] 107)).alloc (.cells #[vE] 120)).alloc (.cells #[.string f.a,.string f.b,.string f.r,.string f.c,.string f.d] 63)).alloc (.cells #[.map (some bK)] 114)).alloc (.cells #[.int .i64 x.e.kind,.slice x.adA x.e.allow.length x.capA,.string x.e.over,.string x.e.name,.slice x.adK x.e.kids.length x.capK] 190)).alloc (.cells #[wM w.heap.size] 302)
structure NdB (w:World) (B D:Nat) (vE:Value) (f:Fc) (bK:Nat) (x:ER):Prop where
 lt:B + 1 + 1 + 1 + 1 + 1 < w.heap.size
 d:w.cell? ⟨B,0,none⟩=some (.pointer (some ⟨D,0,none⟩))
 e:w.cell? ⟨B + 1,0,none⟩=some vE
 f0:w.cell? ⟨B + 1 + 1,0,none⟩=some (.string f.a)
 f1:w.cell? ⟨B + 1 + 1,1,none⟩=some (.string f.b)
 f2:w.cell? ⟨B + 1 + 1,2,none⟩=some (.string f.r)
 f3:w.cell? ⟨B + 1 + 1,3,none⟩=some (.string f.c)
 f4:w.cell? ⟨B + 1 + 1,4,none⟩=some (.string f.d)
 k:w.cell? ⟨B + 1 + 1 + 1,0,none⟩=some (.map (some bK))
 x0:w.cell? ⟨B + 1 + 1 + 1 + 1,0,none⟩=some (.int .i64 x.e.kind)
 x1:w.cell? ⟨B + 1 + 1 + 1 + 1,1,none⟩=some (.slice x.adA x.e.allow.length x.capA)
 x2:w.cell? ⟨B + 1 + 1 + 1 + 1,2,none⟩=some (.string x.e.over)
 x3:w.cell? ⟨B + 1 + 1 + 1 + 1,3,none⟩=some (.string x.e.name)
 x4:w.cell? ⟨B + 1 + 1 + 1 + 1,4,none⟩=some (.slice x.adK x.e.kids.length x.capK)
 v:w.cell? ⟨B + 1 + 1 + 1 + 1 + 1,0,none⟩=some (wM B)
theorem NdB.below {w w':af} {B D:Nat} {vE:Value} {f:Fc} {bK:Nat} {x:ER} (h:NdB w B D vE f bK x) (hB:aa w w'):NdB w' B D vE f bK x:=by
 have hl:=h.lt;have c:∀ i o,i≤5→w'.cell? ⟨B + i,o,none⟩=w.cell? ⟨B + i,o,none⟩:=fun i o hi=>hB.cell (p:=⟨B + i,o,none⟩) (show B + i < _ by omega);have c0:∀ o,w'.cell? ⟨B,o,none⟩=w.cell? ⟨B,o,none⟩:=fun o=>hB.cell (p:=⟨B,o,none⟩) (show B < _ by omega);exact ⟨Sg hl hB.size,(c0 _).trans h.d,(c 1 _ (by omega)).trans h.e,(c 2 _ (by omega)).trans h.f0,(c 2 _ (by omega)).trans h.f1,(c 2 _ (by omega)).trans h.f2,(c 2 _ (by omega)).trans h.f3,(c 2 _ (by omega)).trans h.f4,(c 3 _ (by omega)).trans h.k,(c 4 _ (by omega)).trans h.x0,(c 4 _ (by omega)).trans h.x1,(c 4 _ (by omega)).trans h.x2,(c 4 _ (by omega)).trans h.x3,(c 4 _ (by omega)).trans h.x4,(c 5 _ (by omega)).trans h.v⟩
theorem ku (w:af) (D:Nat) (vE:Value) (f:Fc) (bK:Nat) (x:ER):aa w (Gc w D vE f bK x):=by
 unfold Gc;exact ((((((Si _ _).alloc (Sj _) _).alloc (by simp) _).alloc (by simp; omega) _).alloc (by simp; omega) _).alloc (by simp; omega) _).alloc (by simp; omega) _
theorem mP (w:af) (cs:Array Value) (T:TypeId) (o:Nat):(w.alloc (.cells cs T)).cell? ⟨w.heap.size,o,none⟩=cs[o]?:=World.cell?_alloc_mark w cs T (0,0) o
theorem kw (w:af) (D:Nat) (vE:Value) (f:Fc) (bK:Nat) (x:ER):NdB (Gc w D vE f bK x) w.heap.size D vE f bK x:=by
 unfold Gc;obtain ⟨w1,h1⟩:∃ u,u=w.alloc (.cells #[.pointer (some ⟨D,0,none⟩)] 107):=⟨_,rfl⟩;have s1:w1.heap.size=w.heap.size + 1:=by rw [h1,World.size_alloc]
 have b1:aa w w1:=by rw [h1]; exact (Si _ _).alloc (Sj _) _
 obtain ⟨w2,h2⟩:∃ u,u=w1.alloc (.cells #[vE] 120):=⟨_,rfl⟩;have s2:w2.heap.size=w.heap.size + 1 + 1:=by rw [h2,World.size_alloc,s1]
 have b2:aa w1 w2:=by rw [h2]; exact (Si _ _).alloc (Sj _) _
 obtain ⟨w3,h3⟩:∃ u,u=w2.alloc (.cells #[.string f.a,.string f.b,.string f.r,.string f.c,.string f.d] 63):=⟨_,rfl⟩;have s3:w3.heap.size=w.heap.size + 1 + 1 + 1:=by rw [h3,World.size_alloc,s2]
 have b3:aa w2 w3:=by rw [h3]; exact (Si _ _).alloc (Sj _) _
 obtain ⟨w4,h4⟩:∃ u,u=w3.alloc (.cells #[.map (some bK)] 114):=⟨_,rfl⟩;have s4:w4.heap.size=w.heap.size + 1 + 1 + 1 + 1:=by rw [h4,World.size_alloc,s3]
 have b4:aa w3 w4:=by rw [h4]; exact (Si _ _).alloc (Sj _) _
 obtain ⟨w5,h5⟩:∃ u,u=w4.alloc (.cells #[.int .i64 x.e.kind,.slice x.adA x.e.allow.length x.capA,.string x.e.over,.string x.e.name,.slice x.adK x.e.kids.length x.capK] 190):=⟨_,rfl⟩;have s5:w5.heap.size=w.heap.size + 1 + 1 + 1 + 1 + 1:=by rw [h5,World.size_alloc,s4]
 have b5:aa w4 w5:=by rw [h5]; exact (Si _ _).alloc (Sj _) _
 obtain ⟨w6,h6⟩:∃ u,u=w5.alloc (.cells #[wM w.heap.size] 302):=⟨_,rfl⟩;have s6:w6.heap.size=w.heap.size + 1 + 1 + 1 + 1 + 1 + 1:=by rw [h6,World.size_alloc,s5]
 have b6:aa w5 w6:=by rw [h6]; exact (Si _ _).alloc (Sj _) _
 rw [← h1,← h2,← h3,← h4,← h5,← h6];have c0:∀ o,w6.cell? ⟨w.heap.size,o,none⟩=(#[.pointer (some ⟨D,0,none⟩)]:Array Value)[o]?:=fun o=>by
  have e:w1.cell? ⟨w.heap.size,o,none⟩=(#[.pointer (some ⟨D,0,none⟩)]:Array Value)[o]?:=by rw [h1]; exact mP _ _ _ o
  rw [b6.cell (p:=⟨w.heap.size,o,none⟩) (show w.heap.size < _ by omega),b5.cell (p:=⟨w.heap.size,o,none⟩) (show w.heap.size < _ by omega),b4.cell (p:=⟨w.heap.size,o,none⟩) (show w.heap.size < _ by omega),b3.cell (p:=⟨w.heap.size,o,none⟩) (show w.heap.size < _ by omega),b2.cell (p:=⟨w.heap.size,o,none⟩) (show w.heap.size < _ by omega)]; exact e
 have c1:∀ o,w6.cell? ⟨w.heap.size + 1,o,none⟩=(#[vE]:Array Value)[o]?:=fun o=>by
  have e:w2.cell? ⟨w.heap.size + 1,o,none⟩=(#[vE]:Array Value)[o]?:=by rw [h2,← s1]; exact mP _ _ _ o
  rw [b6.cell (p:=⟨w.heap.size + 1,o,none⟩) (show w.heap.size + 1 < _ by omega),b5.cell (p:=⟨w.heap.size + 1,o,none⟩) (show w.heap.size + 1 < _ by omega),b4.cell (p:=⟨w.heap.size + 1,o,none⟩) (show w.heap.size + 1 < _ by omega),b3.cell (p:=⟨w.heap.size + 1,o,none⟩) (show w.heap.size + 1 < _ by omega)]; exact e
 have c2:∀ o,w6.cell? ⟨w.heap.size + 1 + 1,o,none⟩=(#[.string f.a,.string f.b,.string f.r,.string f.c,.string f.d]:Array Value)[o]?:=fun o=>by
  have e:w3.cell? ⟨w.heap.size + 1 + 1,o,none⟩=(#[.string f.a,.string f.b,.string f.r,.string f.c,.string f.d]:Array Value)[o]?:=by rw [h3,← s2]; exact mP _ _ _ o
  rw [b6.cell (p:=⟨w.heap.size + 1 + 1,o,none⟩) (show w.heap.size + 1 + 1 < _ by omega),b5.cell (p:=⟨w.heap.size + 1 + 1,o,none⟩) (show w.heap.size + 1 + 1 < _ by omega),b4.cell (p:=⟨w.heap.size + 1 + 1,o,none⟩) (show w.heap.size + 1 + 1 < _ by omega)]; exact e
 have c3:∀ o,w6.cell? ⟨w.heap.size + 1 + 1 + 1,o,none⟩=(#[.map (some bK)]:Array Value)[o]?:=fun o=>by
  have e:w4.cell? ⟨w.heap.size + 1 + 1 + 1,o,none⟩=(#[.map (some bK)]:Array Value)[o]?:=by rw [h4,← s3]; exact mP _ _ _ o
  rw [b6.cell (p:=⟨w.heap.size + 1 + 1 + 1,o,none⟩) (show w.heap.size + 1 + 1 + 1 < _ by omega),b5.cell (p:=⟨w.heap.size + 1 + 1 + 1,o,none⟩) (show w.heap.size + 1 + 1 + 1 < _ by omega)]; exact e
 have c4:∀ o,w6.cell? ⟨w.heap.size + 1 + 1 + 1 + 1,o,none⟩=(#[.int .i64 x.e.kind,.slice x.adA x.e.allow.length x.capA,.string x.e.over,.string x.e.name,.slice x.adK x.e.kids.length x.capK]:Array Value)[o]?:=fun o=>by
  have e:w5.cell? ⟨w.heap.size + 1 + 1 + 1 + 1,o,none⟩=(#[.int .i64 x.e.kind,.slice x.adA x.e.allow.length x.capA,.string x.e.over,.string x.e.name,.slice x.adK x.e.kids.length x.capK]:Array Value)[o]?:=by rw [h5,← s4]; exact mP _ _ _ o
  rw [b6.cell (p:=⟨w.heap.size + 1 + 1 + 1 + 1,o,none⟩) (show w.heap.size + 1 + 1 + 1 + 1 < _ by omega)]; exact e
 have c5:∀ o,w6.cell? ⟨w.heap.size + 1 + 1 + 1 + 1 + 1,o,none⟩=(#[wM w.heap.size]:Array Value)[o]?:=fun o=>by
  have e:w6.cell? ⟨w.heap.size + 1 + 1 + 1 + 1 + 1,o,none⟩=(#[wM w.heap.size]:Array Value)[o]?:=by rw [h6,← s5]; exact mP _ _ _ o
  exact e
 exact ⟨by omega,c0 0,c1 0,c2 0,c2 1,c2 2,c2 3,c2 4,c3 0,c4 0,c4 1,c4 2,c4 3,c4 4,c5 0⟩
def Iq (D:Nat) (vE:Value) (f:Fc) (bK:Nat) (w:World) (i:Int) (b:Bool):Prop:=∀ w1:World,aa w w1→Calls prog 175 #[.pointer (some ⟨D,0,none⟩),vE,.int .i64 i,.agg #[.string f.a,.string f.b,.string f.r,.string f.c,.string f.d],.map (some bK)] w1 fun e w'=>e=.returned (.bool b)∧aa w1 w'
theorem nX {w w1:af} {B D:Nat} {vE:Value} {f:Fc} {bK:Nat} {x:ER} {i:Int} {b:Bool} (hK:Iq D vE f bK w i b) (hb:aa w w1) (hB:NdB w1 B D vE f bK x) :
  Calls prog 199 #[.int .i64 i,.pointer (some ⟨B,0,none⟩),.pointer (some ⟨B + 1,0,none⟩),.pointer (some ⟨B + 1 + 1,0,none⟩),.pointer (some ⟨B + 1 + 1 + 1,0,none⟩)] w1 fun e w'=>e=.returned (.bool b)∧aa w1 w':=by
 have HC:=aj (hK w1 hb);obtain ⟨-,d,e,f0,f1,f2,f3,f4,k,-⟩:=hB;clear hK;go_enter func199,ntmps199;go_wp2_with fail;refine HC.out.mono ?_;rintro e w2 ⟨rfl,hb2⟩;have HB:=aj hb2;clear hb2;go_wp2;go_ret;exact ⟨rfl,HB.out⟩
theorem sV {w w1:af} {B D:Nat} {vE:Value} {f:Fc} {bK:Nat} {x:ER} {i:Int} {b:Bool} (hK:Iq D vE f bK w i b) (hb:aa w w1) (hB:NdB w1 B D vE f bK x) :
  Calls prog 200 #[.int .i64 i,.pointer (some ⟨B + 1 + 1 + 1 + 1 + 1,0,none⟩)] w1 fun e w'=>e=.returned (.bool (!b))∧aa w1 w':=by
 have HC:=aj (nX hK hb hB);have hv:=hB.v;unfold wM at hv;clear hK hB;go_enter func200,ntmps200;go_wp2_with fail;refine HC.out.mono ?_;rintro e w2 ⟨rfl,hb2⟩;have HB:=aj hb2;clear hb2;go_wp2;go_ret;exact ⟨rfl,HB.out⟩
theorem QP (xs:Array Value) (u:af):(callFunc 199 xs).run prog u=.ok (.enter 199 xs) u:=by kernel_rfl
theorem QQ (xs:Array Value) (u:af):(callFunc 200 xs).run prog u=.ok (.enter 200 xs) u:=by kernel_rfl
theorem KR (p:Int→Bool) {zs:List Int} {k:Nat} (h:k < zs.length):(zs.drop k).any p=(p zs[k] || (zs.drop (k + 1)).any p):=by rw [SH h]; rfl
theorem Ir (FC:Nat) (rc cp:Array Value) (p:Int→Bool) (ad:Option Addr) (cap:Nat) (xs:List Int) (w:af) (hlen:xs.length≤1048576) (hs:mZ w ad xs)
  (hrun:∀ (ys:Array Value) (u:World),(callFunc FC ys).run prog u=.ok (.enter FC ys) u) (hp:∀ x ∈ xs,∀ w1:World,aa w w1→Calls prog FC (rc.push (.int .i64 x) ++ cp) w1 fun e w'=>e=.returned (.bool (p x))∧aa w1 w') :
  Calls prog 216 #[.slice ad xs.length cap,.func (Fn.func FC) rc cp] w fun e w'=>(∃ r:Int,e=.returned (.int .i64 r)∧decide (0≤r)=xs.any p)∧aa w w':=by
 have HS:=aj hs;have HRUN:=aj hrun;have HP:=aj hp;clear hs hrun hp;have HD:Hid (∀ k (h:k < xs.length),(xs.drop k).any p=(p xs[k] || (xs.drop (k + 1)).any p)):=fun k h=>KR p h;go_enter func216,ntmps216;go_wp2_with fail;go_loopw [8] (fun i wr=>∃ k:Nat,k≤xs.length∧i=.int .i64 k∧Hid ((xs.drop k).any p=xs.any p)∧Hid (aa w wr)) (fun i _=>xs.length - (intOf i).toNat);case atStart=>exact ⟨0,Sm _,rfl,rfl,Si _ _⟩
 obtain ⟨k,hk,rfl,HQ,HB⟩:=hrel;by_cases hlt:k < xs.length
 ·obtain ⟨b,off,Tq,t0,hbl⟩:=mZ.at0 (HS.out.below HB.out) hlt;have HM:Hid (xs[k] ∈ xs):=Sd hlt;have hk1:=bH k;have hk2:(k:Int) < (xs.length:Int):=by omega
  have HD2:=aj (HD.out k hlt);subst Tq;go_wp2_with fail;rw [HRUN.out,Oper.upon_enter];refine (HP.out _ HM.out _ HB.out).mono ?_;rintro e w1 ⟨rfl,hb1⟩;have HB1:=jb HB hb1;clear hb1 t0;cases he:p xs[k];case true=>
   have HN:Hid (xs.any p=true):=by show _=_; rw [← HQ.out,HD2.out,he]; rfl
   go_wp2;go_ret;exact ⟨⟨k,rfl,by rw [HN.out]; simp⟩,HB1.out⟩
  have WF:Hid ((xs.drop (k + 1)).any p=xs.any p):=by show _=_; rw [← HQ.out,HD2.out,he]; rfl
  go_wp2;go_roundw;case rel=>exact ⟨k + 1,by omega,by go_num,WF,HB1⟩
  simp [intOf] <;> omega
 have HN:Hid (xs.any p=false):=by show _=_; rw [← HQ.out,List.drop_of_length_le (by omega)]; rfl
 go_wp2;go_ret;exact ⟨⟨-1,rfl,by rw [HN.out]; simp⟩,HB.out⟩
theorem qC (FC:Nat) (rc cp:Array Value) (p:Int→Bool) (ad:Option Addr) (cap:Nat) (xs:List Int) (w:af) (hlen:xs.length≤1048576) (hs:mZ w ad xs)
  (hrun:∀ (ys:Array Value) (u:World),(callFunc FC ys).run prog u=.ok (.enter FC ys) u) (hp:∀ x ∈ xs,∀ w1:World,aa w w1→Calls prog FC (rc.push (.int .i64 x) ++ cp) w1 fun e w'=>e=.returned (.bool (p x))∧aa w1 w') :
  Calls prog 203 #[.slice ad xs.length cap,.func (Fn.func FC) rc cp] w fun e w'=>e=.returned (.bool (xs.any p))∧aa w w':=by
 have HC:=aj (Ir FC rc cp p ad cap xs w hlen hs hrun hp);clear hs hrun hp;go_enter func203,ntmps203;go_wp2_with fail;refine HC.out.mono ?_;rintro e w' ⟨⟨r,rfl,hr⟩,hbx⟩;have HR:=aj hr;clear hr;go_wp2;go_ret;exact ⟨by rw [← HR.out]; rfl,hbx⟩
set_option linter.unusedSectionVars false
def jL (sts:List St) (xu:List Al) (n:Int) (o:Al) (k:Nat):List Fc:=((sts.take k).filter fun s=>s.typ.toList == o.t.toList && decide (s.n=n)).flatMap fun s=>ja o s.rel xu
def QR (sts:List St) (xu:List Al) (n:Int) (o:Al):List Fc:=jL sts xu n o sts.length
def qp (sts:List St) (xo xu:List Al) (n:Int) (i:Nat):List Fc:=(xo.take i).flatMap (QR sts xu n)
theorem KS (sts:List St) (xu:List Al) (n:Int) (o:Al):jL sts xu n o 0=[]:=rfl
theorem Pq {sts:List St} {xu:List Al} {n:Int} {o:Al} {k:Nat} (h:k < sts.length) (hc:(sts[k].typ.toList == o.t.toList && decide (sts[k].n=n))=false):jL sts xu n o (k + 1)=jL sts xu n o k:=by
 unfold jL;rw [Sk h,Te,List.flatMap_append];simp [hc]
theorem NE {sts:List St} {xu:List Al} {n:Int} {o:Al} {k:Nat} (h:k < sts.length) (hc:(sts[k].typ.toList == o.t.toList && decide (sts[k].n=n))=true):jL sts xu n o (k + 1)=jL sts xu n o k ++ ja o sts[k].rel xu:=by
 unfold jL;rw [Sk h,Te,List.flatMap_append];simp [hc]
theorem KT {sts:List St} {xo xu:List Al} {n:Int} {i:Nat} (h:i < xo.length):qp sts xo xu n (i + 1)=qp sts xo xu n i ++ jL sts xu n xo[i] sts.length:=by
 unfold qp;rw [Sk h,List.flatMap_append];simp [QR]
theorem NF {ts:List Ty} {sts:List St} (hk:gy sts=ak ts) (hn:(ak ts).Nodup) (xo xu:List Al) (n:Int):qp sts xo xu n xo.length=cB ts (eG sts) xo xu n:=by
 unfold qp cB;rw [Su];congr 1
 funext o
 unfold QR jL wC;rw [Su,Pb hk hn,List.flatMap_map];rfl
theorem KU (o:Al) (rel:dB) {xu:List Al} {j:Nat} (h:j < xu.length):ja o rel (xu.take (j + 1))=ja o rel (xu.take j) ++ [⟨o.t,o.s,rel,xu[j].t,xu[j].s⟩]:=by
 unfold ja;rw [Sk h,List.map_append]; rfl
theorem zz {e:Ex} (h:az e=true):e.kids.length≤5∧(e.kind=6→2≤e.kids.length):=by
 unfold az at h;by_cases k1:e.kind=1
 ·rw [if_pos k1] at h; simp only [Sn,SE] at h; exact ⟨by omega,fun h6=>by omega⟩
 by_cases k2:e.kind=2
 ·rw [if_neg k1,if_pos k2] at h; simp only [Sn,SE] at h; exact ⟨by omega,fun h6=>by omega⟩
 by_cases k3:e.kind=3
 ·rw [if_neg k1,if_neg k2,if_pos k3] at h; simp only [Sn,SE] at h; exact ⟨by omega,fun h6=>by omega⟩
 by_cases k4:e.kind=4 ∨ e.kind=5
 ·rw [if_neg k1,if_neg k2,if_neg k3,if_pos k4] at h; simp only [Sn,SE] at h; exact ⟨by omega,fun h6=>by omega⟩
 by_cases k6:e.kind=6
 ·rw [if_neg k1,if_neg k2,if_neg k3,if_neg k4,if_pos k6] at h; simp only [Sn,SE] at h; exact ⟨by omega,fun h6=>by omega⟩
 rw [if_neg k1,if_neg k2,if_neg k3,if_neg k4,if_neg k6] at h; cases h
theorem Jq {rows:List ER} (h:aY (ai rows)=true):Vt rows∧1≤rows.length:=by
 have hl:1≤rows.length∧rows.length≤15:=by
  unfold aY at h;simp only [Sn,SE,aS] at h;exact ⟨h.1.1.1.1.1,h.1.1.1.1.2⟩
 have hlow:=He h;have hkl:∀ q ∈ rows,q.e.kids.length≤1000:=fun q hq=>by
  have:=(zz (iE h q.e (Sy.2 ⟨q,hq,rfl⟩))).1;omega
 refine ⟨⟨by omega,hkl,hlow,fun e he h6=>?_⟩,hl.1⟩;exact (zz (iE h e he)).2 h6
section
variable [DecidableEq Fc]
theorem qh (H:List Fc→Fc→Bool) (qs:List Fc) (f:Fc) (out:List Fc):bI H (qs ++ [f]) out=fe H (bI H qs out) f:=by rw [DX]; rfl
theorem sW {H:List Fc→Fc→Bool} {out:List Fc} {f:Fc} (h:dG out f=true ∨ H out f=false):fe H out f=out:=by
 unfold fe;rw [if_pos];rcases h with h | h
 ·exact .inl (jI.1 h)
 exact .inr h
theorem BV {H:List Fc→Fc→Bool} {out:List Fc} {f:Fc} (h1:dG out f=false) (h2:H out f=true):fe H out f=out ++ [f]:=by
 unfold fe;rw [if_neg];rintro (h | h)
 ·rw [jI.2 h] at h1; cases h1
 rw [h2] at h; cases h
theorem FH (H:List Fc→Fc→Bool) (qs out:List Fc):out.length≤(bI H qs out).length:=by
 obtain ⟨n,e,-⟩:=jC (H:=H) qs out;rw [e,Sr]; omega
theorem Iu {H:List Fc→Fc→Bool} {qs out:List Fc} (h:decide (out.length < (bI H qs out).length)=false):bI H qs out=out:=by
 obtain ⟨n,e,-⟩:=jC (H:=H) qs out;rw [e,Sr,decide_eq_false_iff_not] at h;have:n=[]:=SA.1 (by omega);rw [e,this,List.append_nil]
end
end Go.Proofs.YtdmniljjnaebbaaGreatDoor
