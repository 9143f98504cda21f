/- Places of facts in a proof, and the closures that look at them. -/
import Derived.Test.YtdaoiceeidoehaaGreatJ34
open Go.Proofs.Tryz
set_option maxHeartbeats 80000000
namespace Go.Proofs.YtdaoiceeidoehaaGreat
set_option maxRecDepth 100000
set_option linter.unusedVariables false
open Go.ChangeShapes Go.WideShapes Go.ChangeAt Go.RowKit Go.Maps
open Pl
def iL (P:Fc→Option Nat) (g:Fc):Option Value:=(P g).map fun i=>.int .i64 (i:Int)
def uE (P:Fc→Option Nat) (p:Nat) (g:Fc):Bool:=match P g with
 | some i=>decide (i < p)
 | none=>false
theorem PG (xs:Array Value) (u:World):(callFunc 71 xs).run prog u=.ok (.enter 71 xs) u:=by kernel_rfl
theorem IB (xs:Array Value) (u:World):(callFunc 70 xs).run prog u=.ok (.enter 70 xs) u:=by kernel_rfl
theorem K5 {w:World} {pb sb bm n p:Nat} {P:Fc→Option Nat} (hpb:w.cell? ⟨pb,0,none⟩=some (.map (some bm))) (hpl:pb < w.heap.size) (hsb:w.cell? ⟨sb,0,none⟩=some (.int .i64 (p:Int))) (hsl:sb < w.heap.size) (hV:aD dH prog 42 w bm n (iL P)) :
  KnF w 71 #[] #[.pointer (some ⟨pb,0,none⟩),.pointer (some ⟨sb,0,none⟩)] (uE P p):=by
 refine ⟨PG,fun x hx w1 hb=>?_⟩;obtain ⟨kl,hkl⟩:=kM x hx;have Ur:=ag hkl;obtain ⟨W0,hW0⟩:∃ W0,W0=w1.alloc (.cells #[.string x.a,.string x.b,.string x.r,.string x.c,.string x.d] 42):=⟨_,rfl⟩;have hB0:Below w1.heap.size w1 W0:=by rw [hW0]; exact (R3 _ _).alloc (R4 _) _
 have hBB:Below w.heap.size w W0:=hb.trans (hB0.mono hb.size);have HV:=ag (hV.below hBB);have c0:W0.cell? ⟨w1.heap.size,0,none⟩=some (.string x.a):=by rw [hW0]; simp
 have c1:W0.cell? ⟨w1.heap.size,1,none⟩=some (.string x.b):=by rw [hW0]; simp
 have c2:W0.cell? ⟨w1.heap.size,2,none⟩=some (.string x.r):=by rw [hW0]; simp
 have c3:W0.cell? ⟨w1.heap.size,3,none⟩=some (.string x.c):=by rw [hW0]; simp
 have c4:W0.cell? ⟨w1.heap.size,4,none⟩=some (.string x.d):=by rw [hW0]; simp
 have d0:=(hb.cell (p:=⟨pb,0,none⟩) hpl).trans hpb;have d0l:pb < w1.heap.size:=RZ hpl hb.size;have d1:=(hBB.cell (p:=⟨sb,0,none⟩) hsl).trans hsb;have HB0:=ag hB0;clear hb hV hkl hB0 hBB hpb hsb;show Calls prog 71 #[.agg #[.string x.a,.string x.b,.string x.r,.string x.c,.string x.d],.pointer (some ⟨pb,0,none⟩),.pointer (some ⟨sb,0,none⟩)] w1 _;go_enter func71,ntmps71;cases hp:P x with
 | none =>
  have HM:Hid (iL P x=none):=by show _=_; unfold iL; rw [hp]; rfl
  have HK:Hid (uE P p x=false):=by show _=_; unfold uE; rw [hp]
  clear hp;go_wp2_with (at_lookup; rw [← hW0]; clear hW0; refine bW _ rfl _ _ 137 rfl 42 3 mR underlying137 (z:=.int .i64 0) (Tryz.zeroValue3 _) bm n (iL P) rfl HV.out x kl rfl Ur.out ?_; rw [HM.out]);go_wp2;go_ret;exact ⟨by rw [HK.out]; rfl,HB0.out⟩
 | some i =>
  have HM:Hid (iL P x=some (.int .i64 (i:Int))):=by show _=_; unfold iL; rw [hp]; rfl
  have HK:Hid (uE P p x=decide (i < p)):=by show _=_; unfold uE; rw [hp]
  clear hp;go_wp2_with (at_lookup; rw [← hW0]; clear hW0; refine bW _ rfl _ _ 137 rfl 42 3 mR underlying137 (z:=.int .i64 0) (Tryz.zeroValue3 _) bm n (iL P) rfl HV.out x kl rfl Ur.out ?_; rw [HM.out]);go_wp2;go_ret;exact ⟨by rw [HK.out]; simp,HB0.out⟩
section
variable [DecidableEq Fc]
def idx:List Fc→Fc→Nat
 | [],_=>0
 | x::xs,g=>if x=g then 0 else idx xs g + 1
theorem gP:∀ (Q:List Fc),Q.Nodup→∀ (i:Nat) (h:i < Q.length),idx Q Q[i]=i
 | [],_,i,h=>by simp at h
 | x::xs,hQ,0,_=>by simp [idx]
 | x::xs,hQ,i + 1,h=>by
  have h2:=List.nodup_cons.1 hQ;have hl:i < xs.length:=by simpa using h
  have hne:x ≠ xs[i]:=fun e=>h2.1 (e ▸ RY hl);simp only [List.getElem_cons_succ,idx,if_neg hne];rw [gP xs h2.2 i hl]
theorem NV {Q:List Fc} (hQ:Q.Nodup):Q.Pairwise (fun a b=>idx Q a < idx Q b):=List.pairwise_iff_getElem.2 fun i j hi hj hij=>by rw [gP Q hQ i hi,gP Q hQ j hj]; exact hij
def jr (Q S:List Fc) (g:Fc):Option Nat:=if aO S g then some (idx Q g) else none
theorem Jt {Q S T:List Fc} {x:Fc} {i:Nat} (hi:idx Q x=i) (h:∀ g,g ∈ T ↔ g ∈ S ∨ g=x):fw (iL (jr Q S)) x (some (.int .i64 (i:Int)))=iL (jr Q T):=by
 funext g
 by_cases e:g=x
 ·subst e;rw [cB];unfold iL jr;rw [if_pos (aX.2 ((h g).2 (.inr rfl))),hi]; rfl
 ·rw [bf e];unfold iL jr;have:aO T g=aO S g:=by rw [Bool.eq_iff_iff,aX,aX,h g]; simp [e]
  rw [this]
theorem PH {Q S T:List Fc} {x:Fc} (h:∀ g,g ∈ T ↔ g ∈ S∧g ≠ x):fw (iL (jr Q S)) x none=iL (jr Q T):=by
 funext g
 by_cases e:g=x
 ·subst e;rw [cB];unfold iL jr;have:aO T g=false:=by
   cases hh:aO T g with
   | false=>rfl
   | true=>exact absurd rfl ((h g).1 (aX.1 hh)).2
  rw [this]; rfl
 ·rw [bf e];unfold iL jr;have:aO T g=aO S g:=by rw [Bool.eq_iff_iff,aX,aX,h g]; simp [e]
  rw [this]
theorem PI {Q S:List Fc} {p:Nat} {g:Fc}:uE (jr Q S) p g=true ↔ g ∈ S∧idx Q g < p:=by
 unfold uE jr;cases h:aO S g with
 | true=>simp [aX.1 h]
 | false =>
  have:g ∉ S:=fun e=>by rw [aX.2 e] at h; cases h
  simp [this]
theorem NW {Q kept:List Fc} {i:Nat} (hQ:Q.Nodup) (hi:i < Q.length) (hsub:kept.Sublist (Q.drop (i + 1))) (j:Nat) (hj:j < kept.length):uE (jr Q (Q.take i ++ kept)) (idx Q kept[j])=aO (Q.take i ++ kept.take j):=by
 have hp:=(NV hQ).sublist (hsub.trans (List.drop_sublist _ _));rw [List.pairwise_iff_getElem] at hp;have hlow:∀ g ∈ Q.take i,idx Q g < i:=fun g hg=>by
  obtain ⟨a,ha,e⟩:=Sz hg;rw [Sq] at ha;rw [List.getElem_take] at e;rw [← e,gP Q hQ a (by omega)]; omega
 have hhigh:∀ g ∈ kept,i < idx Q g:=fun g hg=>by
  obtain ⟨a,ha,e⟩:=Sz (hsub.subset hg);rw [List.getElem_drop] at e;rw [List.length_drop] at ha;rw [← e,gP Q hQ (i + 1 + a) (by omega)]; omega
 funext g
 rw [Bool.eq_iff_iff,PI,aX,Sd,Sd];have hkj:=hhigh _ (RY hj);refine ⟨fun h=>?_,fun h=>?_⟩
 ·rcases h.1 with h1 | h1
  ·exact .inl h1
  ·obtain ⟨a,ha,rfl⟩:=Sz h1;have haj:a < j:=by
    by_cases c:a < j
    ·exact c
    ·by_cases e:a=j
     ·subst e; have:=h.2; omega
     ·have h3:=hp j a hj ha (by omega);have h4:=h.2;omega
   exact .inr (List.mem_iff_getElem.2 ⟨a,by rw [Sq]; omega,by rw [List.getElem_take]⟩)
 ·rcases h with h1 | h1
  ·have:=hlow g h1;exact ⟨.inl h1,by omega⟩
  ·obtain ⟨a,ha,e⟩:=Sz h1;rw [Sq] at ha;rw [List.getElem_take] at e;exact ⟨.inr (e ▸ RY (by omega)),by rw [← e]; exact hp a j (by omega) hj (by omega)⟩
def K6 (E:List (Fc × (Fc × Value))) (x:Fc):List Fc:=E.filterMap fun e=>if e.2.1=x then some e.1 else none
theorem o8 {E:List (Fc × (Fc × Value))} {x g:Fc}:g ∈ K6 E x ↔ ∃ v,(g,(x,v)) ∈ E:=by
 unfold K6;rw [List.mem_filterMap];constructor
 ·rintro ⟨⟨a,b,v⟩,h1,h2⟩;simp only at h2;split at h2
  ·rename_i e; injection h2 with h2; subst e; subst h2; exact ⟨v,h1⟩
  ·cases h2
 ·rintro ⟨v,h⟩; exact ⟨_,h,by simp⟩
theorem PK {rs:List TR} {ts:List Tp} {Q kept:List Fc} {E:List (Fc × (Fc × Value))} {i:Nat} (hQ:Q.Nodup) (hi:i < Q.length) (hsub:kept.Sublist (Q.drop (i + 1))) (hok:∀ x ∈ Q,okB x=true) (hP:z8 (dE rs ts Q) (Q.take (i + 1) ++ kept)) (hE1:∀ e ∈ E,e.2.1 ∈ kept) (hE2:∀ x ∈ kept,gu (dE rs ts Q x) (K6 E x)) :
  ((G.lookL E Q[i]).map fun p=>!(dE rs ts Q p.1 (uE (jr Q (Q.take i ++ kept)) (idx Q p.1)))).any id=!gy rs ts Q i kept:=by
 have hk:∀ x ∈ kept,x ∈ Q:=fun x hx=>List.mem_of_mem_drop (hsub.subset hx);have ht:=KX hi hok hk (K6 E) hE2 hP;have ha:=fun j hj=>NW hQ hi hsub j hj;cases hT:gy rs ts Q i kept with
 | true =>
  have h1:=ht.1 hT;rw [Bool.not_true,List.any_eq_false];intro b hb;obtain ⟨p,hp,rfl⟩:=Sa.1 hb;have hpE:=G.mem_lookL.1 hp;obtain ⟨j,hj,e⟩:=Sz (hE1 _ hpE);have h2:=h1 j hj (o8.2 ⟨p.2,by rw [e]; exact hpE⟩);rw [← ha j hj] at h2;have e':p.1=kept[j]:=e.symm;rw [e',h2]; simp
 | false =>
  rw [Bool.not_false,Sw];have h1:¬ ∀ j (hj:j < kept.length),Q[i] ∈ K6 E kept[j]→dE rs ts Q kept[j] (aO (Q.take i ++ kept.take j))=true:=fun h=>by rw [ht.2 h] at hT; cases hT
  obtain ⟨j,h1⟩:=Classical.not_forall.1 h1;obtain ⟨hj,h1⟩:=Classical.not_forall.1 h1;obtain ⟨hm,h1⟩:=Classical.not_imp.1 h1;obtain ⟨v,hv⟩:=o8.1 hm;refine ⟨_,Sa.2 ⟨(kept[j],v),G.mem_lookL.2 hv,rfl⟩,?_⟩;simp only [id];rw [ha j hj];cases h:dE rs ts Q kept[j] (aO (Q.take i ++ kept.take j)) with
  | true=>exact absurd h h1
  | false=>rfl
end
set_option linter.unusedSectionVars false
theorem IC (FC:Nat) (rc cp:Array Value) (ps:List Bool) (ad:Option Addr) (cap:Nat) (w:World) (hlen:ps.length≤1000000000000000)
  (hrun:∀ (ys:Array Value) (u:World),(callFunc FC ys).run prog u=.ok (.enter FC ys) u)
  (hs:ps=[] ∨ ∃ g,ad=some ⟨g,0,none⟩∧g < w.heap.size∧∀ (i:Nat) (h:i < ps.length),∃ u v,w.cell? ⟨g,i * 2,none⟩=some u∧w.cell? ⟨g,i * 2 + 1,none⟩=some v∧u.oneCell'=true∧v.oneCell'=true∧∀ w1:World,Below w.heap.size w w1→Calls prog FC (rc.push (.agg #[u,v]) ++ cp) w1 fun e w'=>e=.returned (.bool ps[i])∧Below w1.heap.size w1 w') :
  Calls prog 103 #[.slice ad ps.length cap,.func (Fn.func FC) rc cp] w fun e w'=>(∃ r:Int,e=.returned (.int .i64 r)∧decide (0≤r)=ps.any id)∧Below w.heap.size w w':=by
 have HS:=ag hs;have Ux:=ag hrun;clear hs hrun;have HD:Hid (∀ k (h:k < ps.length),(ps.drop k).any id=(ps[k] || (ps.drop (k + 1)).any id)):=fun k h=>BG h;go_enter func103,ntmps103;go_wp2_with fail;go_loopw [8] (fun i wr=>∃ k:Nat,k≤ps.length∧i=.int .i64 k∧Hid ((ps.drop k).any id=ps.any id)∧Hid (Below w.heap.size w wr)) (fun i _=>ps.length - (intOf i).toNat);case atStart=>exact ⟨0,R6 _,rfl,rfl,R3 _ _⟩
 case round =>
  obtain ⟨k,hk,rfl,HQ,HB⟩:=hrel;by_cases hlt:k < ps.length
  ·rcases HS.out with hnil | ⟨g,SL,hg,hrow⟩
   ·rw [hnil] at hlt; simp at hlt
   obtain ⟨u,v,hu,hv,hu1,hv1,hcall⟩:=hrow k hlt;have HC:=ag (hcall wr HB.out);have t0:=aA HB.out hg hu;have t1:=aA HB.out hg hv;have hk1:=bn k;have hk2:(k:Int) < (ps.length:Int):=by omega
   have HD2:=ag (HD.out k hlt);subst SL;clear hrow hu hv hcall;go_wp2_with fail;rw [Ux.out,Oper.upon_enter];refine HC.out.mono ?_;rintro e w1 ⟨rfl,hb1⟩;have HB1:=gY HB hb1;clear hb1 t0 t1;cases he:ps[k] with
   | true =>
    have HN:Hid (ps.any id=true):=by show _=_; rw [← HQ.out,HD2.out,he]; rfl
    go_wp2;go_ret;exact ⟨⟨k,rfl,by rw [HN.out]; simp⟩,HB1.out⟩
   | false =>
    have XR:Hid ((ps.drop (k + 1)).any id=ps.any id):=by show _=_; rw [← HQ.out,HD2.out,he]; rfl
    go_wp2;go_roundw;case rel=>exact ⟨k + 1,by omega,by go_num,XR,HB1⟩
    case measure=>simp [intOf] <;> omega
  ·have HN:Hid (ps.any id=false):=by show _=_; rw [← HQ.out,List.drop_of_length_le (by omega)]; rfl
   go_wp2;go_ret;exact ⟨⟨-1,rfl,by rw [HN.out]; simp⟩,HB.out⟩
theorem lu (FC:Nat) (rc cp:Array Value) (ps:List Bool) (ad:Option Addr) (cap:Nat) (w:World) (hlen:ps.length≤1000000000000000)
  (hrun:∀ (ys:Array Value) (u:World),(callFunc FC ys).run prog u=.ok (.enter FC ys) u)
  (hs:ps=[] ∨ ∃ g,ad=some ⟨g,0,none⟩∧g < w.heap.size∧∀ (i:Nat) (h:i < ps.length),∃ u v,w.cell? ⟨g,i * 2,none⟩=some u∧w.cell? ⟨g,i * 2 + 1,none⟩=some v∧u.oneCell'=true∧v.oneCell'=true∧∀ w1:World,Below w.heap.size w w1→Calls prog FC (rc.push (.agg #[u,v]) ++ cp) w1 fun e w'=>e=.returned (.bool ps[i])∧Below w1.heap.size w1 w') :
  Calls prog 73 #[.slice ad ps.length cap,.func (Fn.func FC) rc cp] w fun e w'=>e=.returned (.bool (ps.any id))∧Below w.heap.size w w':=by
 have HC:=ag (IC FC rc cp ps ad cap w hlen hrun hs);clear hs hrun;go_enter func73,ntmps73;go_wp2_with fail;refine HC.out.mono ?_;rintro e w' ⟨⟨r,rfl,hr⟩,hbx⟩;have HR:=ag hr;clear hr;go_wp2;go_ret;exact ⟨by rw [← HR.out]; rfl,hbx⟩
section
variable [DecidableEq Fc]
theorem K7 {w:World} {pb bm n m p:Nat} {P:Fc→Option Nat} {S:Nat→Prop} {v:Value} {G:Ru} (hpb:w.cell? ⟨pb,0,none⟩=some (.map (some bm))) (hpl:pb < w.heap.size) (hV:aD dH prog 42 w bm n (iL P)) (WA:av w S m v G) :
  Calls prog 70 #[.agg #[.int .i64 (p:Int),v],.pointer (some ⟨pb,0,none⟩)] w fun e w'=>e=.returned (.bool (!G (uE P p)))∧Below w.heap.size w w':=by
 obtain ⟨T,a,rfl,hkd⟩:=WA.kind;obtain ⟨W0,hW0⟩:∃ W0,W0=w.alloc (.cells #[.int .i64 (p:Int),.iface T a] 139):=⟨_,rfl⟩;have hB0:Below w.heap.size w W0:=by rw [hW0]; exact (R3 _ _).alloc (R4 _) _
 have c0:W0.cell? ⟨w.heap.size,0,none⟩=some (.int .i64 (p:Int)):=by rw [hW0]; simp
 have c1:W0.cell? ⟨w.heap.size,1,none⟩=some (.iface T a):=by rw [hW0]; simp
 have hsl:w.heap.size < W0.heap.size:=by rw [hW0]; simp
 have hKn:=K5 (p:=p) (P:=P) ((hB0.cell (p:=⟨pb,0,none⟩) hpl).trans hpb) (RZ hpl hB0.size) c0 hsl (hV.below hB0);have hm:=zl hkd;have hna:=NJ hkd;have Ux:=ag (Df hkd);have HFC:=ag (NU (WA.below hB0) hKn);have HB0:=ag hB0;clear WA hkd hKn hB0 hV hpb;go_enter func70,ntmps70;go_wp2_with fail
 first | rw [← hW0] | skip
 clear hW0;rw [Ux.out,Oper.upon_enter];refine HFC.out.mono ?_;rintro e w1 ⟨rfl,hb1⟩;have HB1:=gY HB0 hb1;clear hb1 hm hna Ux HFC;go_wp2;go_ret;exact ⟨rfl,HB1.out⟩
end
open Go.Shelf
theorem av.cells {w:World} {S:Nat→Prop}:∀ (n:Nat) (v:Value) (G:Ru),av w S n v G→av w (fun g=>S g∧∃ o,w.heap[g]?=some o∧o.isCells=true) n v G
 | 0,_,_,h=>h
 | n + 1,v,G,h=>by
  have row:∀ {ad:Option Addr} {Gs:List Ru},nu w S (av w S n) ad Gs→nu w (fun g=>S g∧∃ o,w.heap[g]?=some o∧o.isCells=true) (av w (fun g=>S g∧∃ o,w.heap[g]?=some o∧o.isCells=true) n) ad Gs:=fun {ad Gs} h=>by
   rcases h with h | ⟨g,e,h1,h2,h3⟩
   ·exact .inl h
   ·cases Gs with
    | nil=>exact .inl rfl
    | cons G0 Gs =>
     obtain ⟨u0,hu0,-⟩:=h3 0 (by simp);refine .inr ⟨g,e,⟨h1,cells_of_cell hu0⟩,h2,fun i hi=>?_⟩;obtain ⟨u,hu,hp⟩:=h3 i hi;exact ⟨u,hu,av.cells n u _ hp⟩
  rcases h with h | ⟨ad,cap,fs,e,hz,h1,h2,h3,h4⟩ | ⟨ad,cap,Gs,e,h1,h2,h3⟩ | ⟨ad,cap,Gs,e,h1,h2,h3⟩
  ·exact .inl h
  ·refine .inr (.inl ⟨ad,cap,fs,e,?_,h1,h2,h3,h4⟩);rcases hz with hz | ⟨g,e1,hg⟩
   ·exact .inl hz
   ·by_cases hx:fs=[]
    ·exact .inl hx
    ·rcases h1 with h1 | ⟨b,off,e2,hb,hr⟩
     ·exact absurd h1 hx
     ·rw [e1] at e2; injection e2 with e2; injection e2 with e2 e3;subst e2;exact .inr ⟨g,e1,hg,cells_of_cell (hr 0 (List.length_pos_iff.2 hx)).1⟩
  ·exact .inr (.inr (.inl ⟨ad,cap,Gs,e,h1,row h2,h3⟩))
  ·exact .inr (.inr (.inr ⟨ad,cap,Gs,e,h1,row h2,h3⟩))
theorem av.grown {w w':World} {S:Nat→Prop} {n:Nat} {v:Value} {G:Ru} (h:av w S n v G) {row:Option Nat} (hg:w.grownBy w' row) (hr:∀ r,row=some r→∃ o,w.heap[r]?=some o∧o.isCells=false):av w' S n v G :=
 av.keep hg.size (fun g h1 h2=>⟨h1.1,hg.block g h2 fun e=>by
  obtain ⟨o,h3,h4⟩:=h1.2;obtain ⟨o2,h5,h6⟩:=hr g e.symm;rw [h3] at h5; injection h5 with h5; subst h5; rw [h4] at h6; cases h6⟩) n v G (av.cells n v G h)
def Q8 (N0:Nat) (vk:Value) (M:Fc→Option Value) (g:Nat):Prop:=N0≤g∧vk.ownBlock ≠ some g∧G.FreeB M g
section
variable [DecidableEq Fc]
def zB (Q:List Fc) (p:Fc × Value):List Value:=[.int .i64 (idx Q p.1:Int),p.2]
structure NdK (w:World) (N0 bm ba bk:Nat) (BX:List (Nat × Value × TypeId)):Prop where
 m0:w.heap.size≤bm
 a0:w.heap.size≤ba
 k0:w.heap.size≤bk
 m1:bm < N0
 a1:ba < N0
 k1:bk < N0
 ma:bm ≠ ba
 bx:∀ p ∈ BX,p.1 < N0∧p.1 ≠ bk∧p.2.2 ≠ 42∧p.2.2 ≠ 139
variable {w:World} {rs:List TR} {ts:List Tp} {Q:List Fc} {N0 bm ba bk:Nat} {BX:List (Nat × Value × TypeId)}
structure NdR (w:World) (rs:List TR) (ts:List Tp) (Q:List Fc) (N0 bm ba bk:Nat) (BX:List (Nat × Value × TypeId)) (X:World) (kept:List Fc) (vk:Value) (M:Fc→Option Value) (nA:Nat) (E:List (Fc × (Fc × Value))):Prop where
 bel:Below w.heap.size w X
 n0:N0≤X.heap.size
 mp:∃ es c,X.heap[bm]?=some (.map es c)
 row:X.ownsRow N0 42 5 vk kept.length (au kept.reverse)
 bx:bZ X bk vk 38
 bxs:∀ p ∈ BX,bZ X p.1 p.2.1 p.2.2
 grp:G.Grp dH prog 42 139 2 (zB Q) X ba nA M E
 rul:∀ e ∈ E,av X (Q8 N0 vk M) 8 e.2.2 (dE rs ts Q e.2.1)
theorem zm {X X':World} {nA:Nat} {M:Fc→Option Value} {E:List (Fc × (Fc × Value))} (h:G.Grp dH prog 42 139 2 (zB Q) X ba nA M E) (h1:X'.heap[ba]?=X.heap[ba]?) (h2:∀ k v g,M k=some v→v.ownBlock=some g→X'.heap[g]?=X.heap[g]?):G.Grp dH prog 42 139 2 (zB Q) X' ba nA M E where
 map:=h.map.of_block h1
 row k:=by
  rcases h.row k with e | ⟨v,e,ho⟩
  ·exact .inl e
  ·exact .inr ⟨v,e,bz ho fun g hg=>h2 k v g e hg⟩
 apart:=h.apart
theorem pR {X:World} {nA:Nat} {M:Fc→Option Value} {E:List (Fc × (Fc × Value))} (h:G.Grp dH prog 42 139 2 (zB Q) X ba nA M E) {k:Fc} {v:Value} {g:Nat} (hk:M k=some v) (hg:v.ownBlock=some g):∃ cur,X.heap[g]?=some (.cells cur 139 (0,0)):=by
 rcases h.row k with ⟨e,-⟩ | ⟨v',e,ho⟩
 ·rw [e] at hk; cases hk
 ·rw [e] at hk; injection hk with hk; subst hk;exact dV ho hg
theorem pU {X:World} {nA:Nat} {M:Fc→Option Value} {E:List (Fc × (Fc × Value))} (h:G.Grp dH prog 42 139 2 (zB Q) X ba nA M E) {g:Nat} {o:Obj} (ho:X.heap[g]?=some o) (hne:∀ cur,o ≠ .cells cur 139 (0,0)):G.FreeB M g:=fun k v hk hg=>by
 obtain ⟨cur,e⟩:=pR h hk hg;rw [ho] at e; injection e with e;exact hne _ e
theorem NdR.chg {X X':World} {kept:List Fc} {vk:Value} {M:Fc→Option Value} {nA:Nat} {E:List (Fc × (Fc × Value))} (h:NdR w rs ts Q N0 bm ba bk BX X kept vk M nA E) (C:Nat→Prop) (hb:Below w.heap.size w X') (hs:X.heap.size≤X'.heap.size) (hsm:∀ g,g < X.heap.size→¬ C g→X'.heap[g]?=X.heap[g]?) (hm:∃ es c,X'.heap[bm]?=some (.map es c))
  (hC:∀ g,C g→g < N0) (c3:¬ C bk) (c4:∀ p ∈ BX,¬ C p.1) (c5:¬ C ba) (c6:∀ k v g,M k=some v→v.ownBlock=some g→¬ C g):NdR w rs ts Q N0 bm ba bk BX X' kept vk M nA E where
 bel:=hb
 n0:=Sb h.n0 hs
 mp:=hm
 row:=bz h.row fun g hg=>hsm g (h.row.lt g hg).2 fun c=>by have:=hC g c; have:=(h.row.lt g hg).1; omega
 bx:=(hsm _ (Array.getElem?_eq_some_iff.1 h.bx).1 c3).trans h.bx
 bxs p hp:=(hsm _ (Array.getElem?_eq_some_iff.1 (h.bxs p hp)).1 (c4 p hp)).trans (h.bxs p hp)
 grp:=zm h.grp (by
  obtain ⟨es,c,e⟩:=dR h.grp.map;exact hsm _ (Array.getElem?_eq_some_iff.1 e).1 c5) fun k v g e hg=>hsm g (h.grp.lt e hg).2 (c6 k v g e hg)
 rul e he:=av.keep hs (fun g h1 h2=>⟨h1,hsm g h2 fun c=>by have:=hC g c; have:=h1.1; omega⟩) _ _ _ (h.rul e he)
theorem NdR.below {X X':World} {kept:List Fc} {vk:Value} {M:Fc→Option Value} {nA:Nat} {E:List (Fc × (Fc × Value))} (h:NdR w rs ts Q N0 bm ba bk BX X kept vk M nA E) (hb:Below X.heap.size X X'):NdR w rs ts Q N0 bm ba bk BX X' kept vk M nA E:=by
 obtain ⟨es,c,e⟩:=h.mp;exact h.chg (fun _=>False) (h.bel.trans (hb.mono h.bel.size)) hb.size (fun g hg _=>hb.block g hg) ⟨es,c,(hb.block _ (Array.getElem?_eq_some_iff.1 e).1).trans e⟩ (fun _ c=>c.elim) id (fun _ _=>id) id (fun _ _ _ _ _=>id)
theorem NdR.plc {X X':World} {kept:List Fc} {vk:Value} {M:Fc→Option Value} {nA nP:Nat} {PM:Fc→Option Value} {E:List (Fc × (Fc × Value))} (hK:NdK w N0 bm ba bk BX) (h:NdR w rs ts Q N0 bm ba bk BX X kept vk M nA E) (hg:X.grownBy X' (some bm)) (hV:aD dH prog 42 X' bm nP PM):NdR w rs ts Q N0 bm ba bk BX X' kept vk M nA E:=by
 obtain ⟨es,c,e⟩:=h.mp;refine h.chg (fun g=>g=bm) (h.bel.grown hg h.bel.size (fun g e=>by injection e with e; have:=hK.m0; omega)) hg.size (fun g hl c=>hg.block g hl fun e=>c (by injection e)) (dR hV) (fun g c=>by have:=hK.m1; omega) ?_ ?_ (fun e=>hK.ma e.symm) ?_
 ·intro c2;have:=h.bx;unfold bZ at this;rw [c2,e] at this; cases this
 ·intro p hp c2;have:=h.bxs p hp;unfold bZ at this;rw [c2,e] at this; cases this
 ·intro k v g hk hg2 c2;obtain ⟨cur,e2⟩:=pR h.grp hk hg2;rw [c2,e] at e2; cases e2
theorem NdR.free {X:World} {kept:List Fc} {vk:Value} {M:Fc→Option Value} {nA:Nat} {E:List (Fc × (Fc × Value))} (h:NdR w rs ts Q N0 bm ba bk BX X kept vk M nA E) {g:Nat} (hg:vk.ownBlock=some g):G.FreeB M g:=by
 obtain ⟨cur,e⟩:=dV h.row hg;exact pU h.grp e fun cur2 e2=>by injection e2 with _ e2; exact absurd e2 (by decide)
theorem NdR.app {X X1 X2:World} {kept:List Fc} {vk v':Value} {M:Fc→Option Value} {nA:Nat} {E:List (Fc × (Fc × Value))} {f:Fc} (hK:NdK w N0 bm ba bk BX) (h0:NdR w rs ts Q N0 bm ba bk BX X kept vk M nA E) (hb:Below X.heap.size X X1) (hown:X2.ownsRow N0 42 5 v' (kept.length + 1) (au kept.reverse ++ f.row)) (hg:X1.grownBy X2 vk.ownBlock) (hat:v'.ownBlock=vk.ownBlock ∨ v'.ownBlock=some X1.heap.size) :
  NdR w rs ts Q N0 bm ba bk BX (X2.setCell ⟨bk,0,none⟩ v') (f::kept) v' M nA E∧(X2.setCell ⟨bk,0,none⟩ v').heap[bm]?=X.heap[bm]?∧KeepsFrom N0 X (X2.setCell ⟨bk,0,none⟩ v'):=by
 have h:=h0.below hb;obtain ⟨es,c,em⟩:=h.mp;obtain ⟨es0,c0,em0⟩:=h0.mp;have key:∀ (g:Nat) (o:Obj),X1.heap[g]?=some o→g ≠ bk→vk.ownBlock ≠ some g→(X2.setCell ⟨bk,0,none⟩ v').heap[g]?=some o:=fun g o h1 h2 h3 =>
  (heap_setCell_other X2 ⟨bk,0,none⟩ g v' h2).trans ((hg.block g (Array.getElem?_eq_some_iff.1 h1).1 (fun e=>h3 e.symm)).trans h1)
 have YY:∀ g,vk.ownBlock=some g→N0≤g:=fun g e=>(h.row.lt g e).1;have hmk:bm ≠ bk:=fun e=>by
  have:=h.bx;unfold bZ at this;rw [← e,em] at this; cases this
 have hvm:vk.ownBlock ≠ some bm:=fun e=>by have:=YY _ e; have:=hK.m1; omega
 have sz:X1.heap.size≤(X2.setCell ⟨bk,0,none⟩ v').heap.size:=by have:=hg.size; simp; omega
 have b1:Below w.heap.size w X2:=h.bel.grown hg h.bel.size (fun g e=>by have:=YY g e; have:=hK.m0; have:=hK.m1; omega);have hbk2:X2.heap[bk]?=some (.cells #[vk] 38 (0,0)):=(hg.block _ (Array.getElem?_eq_some_iff.1 h.bx).1 (fun e=>by have:=YY _ e.symm; have:=hK.k1; omega)).trans h.bx;have same:∀ g,g < X1.heap.size→g ≠ bk→vk.ownBlock ≠ some g→(X2.setCell ⟨bk,0,none⟩ v').heap[g]?=X1.heap[g]?:=fun g hl h2 h3=>by
  rw [key g _ (SG hl) h2 h3,SG hl]
 have hab:ba ≠ bk:=fun e=>by
  obtain ⟨es2,c2,e2⟩:=dR h.grp.map;have:=h.bx;unfold bZ at this;rw [← e,e2] at this; cases this
 refine ⟨⟨b1.setCell (by exact hK.k0) _,Sb h.n0 sz,⟨es,c,key _ _ em hmk hvm⟩,?_,?_,fun p hp=>?_,?_,fun e he=>?_⟩,(key _ _ em hmk hvm).trans ?_,⟨Sb hb.size sz,fun g o hB h1 hc=>?_⟩⟩
 ·rw [List.reverse_cons,jq,List.length_cons];exact bz hown fun g e=>heap_setCell_other X2 ⟨bk,0,none⟩ g v' (fun (e2:g=bk)=>by have:=(hown.lt g e).1; have:=hK.k1; omega)
 ·have:=heap_setCell_same X2 bk 0 #[vk] _ v' hbk2;unfold bZ;simpa using this
 ·have hp1:=hK.bx p hp;exact key _ _ (h.bxs p hp) hp1.2.1 (fun e=>by have:=YY _ e; omega)
 ·refine zm h.grp (same _ ?_ hab fun e=>?_) fun k v g e e2=>same g (h.grp.lt e e2).2 (fun e3=>?_) (fun e3=>h.free e3 k v e e2)
  ·obtain ⟨es2,c2,e2⟩:=dR h.grp.map;exact (Array.getElem?_eq_some_iff.1 e2).1
  ·have:=YY _ e; have:=hK.a1; omega
  ·obtain ⟨cur,e4⟩:=pR h.grp e e2;have:=h.bx;unfold bZ at this;rw [← e3,e4] at this;injection this with this;injection this with _ this;exact absurd this (by decide)
 ·refine av.keep sz (fun g h1 h2=>⟨⟨h1.1,fun e2=>?_,h1.2.2⟩,same g h2 (fun e2=>by have:=h1.1; have:=hK.k1; omega) h1.2.1⟩) _ _ _ (h.rul e he);rcases hat with e3 | e3
  ·exact h1.2.1 (e3 ▸ e2)
  ·rw [e3] at e2; injection e2 with e2; omega
 ·rw [hb.block _ (Array.getElem?_eq_some_iff.1 em0).1] at em;exact em.symm
 ·have h1':X1.heap[g]?=some o:=(hb.block _ (Array.getElem?_eq_some_iff.1 h1).1).trans h1;refine key g o h1' (fun e=>by have:=hK.k1; omega) (fun e=>?_);obtain ⟨cur,e2⟩:=dV h.row e;rw [e2] at h1'; injection h1' with h1'; subst h1'; cases hc
theorem NdR.ask {W0 w1 w2 w3:World} {kept:List Fc} {vk v' rv:Value} {M:Fc→Option Value} {nA:Nat} {E:List (Fc × (Fc × Value))} {y x:Fc} (hK:NdK w N0 bm ba bk BX) (h:NdR w rs ts Q N0 bm ba bk BX W0 kept vk M nA E) (hnew:av W0 (Q8 N0 vk M) 8 rv (dE rs ts Q x)) (hg1:W0.grownBy w1 (some ba)) (hown:w2.ownsRow (ba + 1) 139 2 v' ((G.lookL E y).length + 1) (G.flatG (zB Q) (G.lookL E y) ++ zB Q (x,rv)))
  (hg2:w1.grownBy w2 ((M y).getD (.slice none 0 0)).ownBlock) (hloc:v'.ownBlock=((M y).getD (.slice none 0 0)).ownBlock ∨ v'.ownBlock=some w1.heap.size) (hg3:w2.grownBy w3 (some ba)) (hM:aD dH prog 42 w3 ba (nA + 1) (fw M y (some v'))) :
  NdR w rs ts Q N0 bm ba bk BX w3 kept vk (fw M y (some v')) (nA + 1) (E ++ [(y,(x,rv))])∧G.Stl W0 M w3 (fw M y (some v')) ba∧KeepsFrom N0 W0 w3∧w3.heap[bm]?=W0.heap[bm]?∧av w3 (Q8 N0 vk (fw M y (some v'))) 8 rv (dE rs ts Q x):=by
 obtain ⟨hG,hS⟩:=G.Grp.step h.grp hg1 hown hg2 hloc hg3 hM;obtain ⟨es,c,em⟩:=h.mp;have Yr:∀ g,((M y).getD (.slice none 0 0)).ownBlock=some g→ba < g:=fun g e=>by
  cases ey:M y with
  | none=>rw [ey] at e; simp [Value.ownBlock] at e
  | some vy=>rw [ey] at e; exact (h.grp.lt ey (by simpa using e)).1
 have b1:Below w.heap.size w w1:=h.bel.grown hg1 h.bel.size (fun g e=>by injection e with e; have:=hK.a0; omega);have b2:Below w.heap.size w w2:=b1.grown hg2 b1.size (fun g e=>by have:=Yr g e; have:=hK.a0; omega);have b3:Below w.heap.size w w3:=b2.grown hg3 b2.size (fun g e=>by injection e with e; have:=hK.a0; omega);have nst:∀ {g:Nat} {cs:Array Value} {T:TypeId} {m:Nat × Nat},T ≠ 139→W0.heap[g]?=some (.cells cs T m)→G.FreeB M g:=fun hT h1=>pU h.grp h1 fun cur e=>hT (by injection e with _ e);have hbn:∀ {g:Nat} {cs:Array Value} {T:TypeId} {m:Nat × Nat},W0.heap[g]?=some (.cells cs T m)→g ≠ ba:=fun h1 e=>by
  obtain ⟨es2,c2,e2⟩:=dR h.grp.map;rw [e,e2] at h1; cases h1
 have hmS:w3.heap[bm]?=W0.heap[bm]?:=hS.block _ (Array.getElem?_eq_some_iff.1 em).1 hK.ma (pU h.grp em fun cur e=>by cases e);have Xg:∀ {n:Nat} {v:Value} {G:Ru},av W0 (Q8 N0 vk M) n v G→av w3 (Q8 N0 vk (fw M y (some v'))) n v G:=fun {n v G} hr =>
  av.keep hS.size (fun g h1 h2=>⟨⟨h1.1,h1.2.1,hS.free g h2 h1.2.2⟩,hS.block g h2 (fun e=>by have:=h1.1; have:=hK.a1; omega) h1.2.2⟩) _ _ _ hr
 refine ⟨⟨b3,Sb h.n0 hS.size,⟨es,c,hmS.trans em⟩,?_,?_,fun p hp=>?_,hG,fun e he=>?_⟩,hS,⟨hS.size,fun g o hB h1 hc=>?_⟩,hmS,Xg hnew⟩
 ·exact bz h.row fun g e=>by
   obtain ⟨cur,e2⟩:=dV h.row e;exact hS.block g (h.row.lt g e).2 (hbn e2) (h.free e)
 ·have hx:=h.bx;unfold bZ at hx ⊢;exact (hS.block _ (Array.getElem?_eq_some_iff.1 hx).1 (hbn hx) (nst (by decide) hx)).trans hx
 ·have hx:=h.bxs p hp;unfold bZ at hx ⊢;exact (hS.block _ (Array.getElem?_eq_some_iff.1 hx).1 (hbn hx) (nst (hK.bx p hp).2.2.2 hx)).trans hx
 ·rcases Sd.1 he with he | he
  ·exact Xg (h.rul e he)
  ·rw [Sm.1 he]; exact Xg hnew
 ·exact (hS.block g (Array.getElem?_eq_some_iff.1 h1).1 (fun e=>by have:=hK.a1; omega) (pU h.grp h1 fun cur e=>by subst e; cases hc)).trans h1
theorem NdR.kept {X X':World} {kept:List Fc} {vk:Value} {M:Fc→Option Value} {nA:Nat} {E:List (Fc × (Fc × Value))} (hK:NdK w N0 bm ba bk BX) (h:NdR w rs ts Q N0 bm ba bk BX X kept vk M nA E) {row:Option Nat} (hg:X.grownBy X' row) (hr:∀ r,row=some r→N0≤r∧(∃ o,X.heap[r]?=some o∧o.isCells=false)):NdR w rs ts Q N0 bm ba bk BX X' kept vk M nA E:=by
 obtain ⟨es,c,em⟩:=h.mp;have sm:∀ (g:Nat) (o:Obj),X.heap[g]?=some o→(g < N0 ∨ o.isCells=true)→X'.heap[g]?=X.heap[g]?:=fun g o h1 h2=>hg.block g (Array.getElem?_eq_some_iff.1 h1).1 fun e=>by
  obtain ⟨h3,o2,h4,h5⟩:=hr g e.symm;rcases h2 with h2 | h2
  ·omega
  ·rw [h1] at h4; injection h4 with h4; subst h4; rw [h2] at h5; cases h5
 exact {
  bel:=h.bel.grown hg h.bel.size (fun g e=>by have:=(hr g e).1; have:=hK.m0; have:=hK.m1; omega)
  n0:=Sb h.n0 hg.size
  mp:=⟨es,c,(sm _ _ em (.inl hK.m1)).trans em⟩
  row:=bz h.row fun g e=>by
   obtain ⟨cur,e2⟩:=dV h.row e;exact sm g _ e2 (.inr rfl)
  bx:=(sm _ _ h.bx (.inr rfl)).trans h.bx
  bxs:=fun p hp=>(sm _ _ (h.bxs p hp) (.inr rfl)).trans (h.bxs p hp)
  grp:=zm h.grp (by
   obtain ⟨es2,c2,e2⟩:=dR h.grp.map;exact sm _ _ e2 (.inl hK.a1)) fun k v g e hg2=>by
    obtain ⟨cur,e2⟩:=pR h.grp e hg2;exact sm _ _ e2 (.inr rfl)
  rul:=fun e he=>av.grown (h.rul e he) hg fun r e2=>(hr r e2).2 }
end
section
variable {K:Type} {enc:K→Value} {P:Program} {F:Fence} {nF:Nat} (w:World) {ops:Array Oper} {rest:List Oper} {o:Oper} {a:Act} {Q:Exit→Act→World→Prop}
theorem uF [DecidableEq K] (hg:o.guard=none) (m x:Operand) (t k:TypeId) (hop:o.op=Op.call { callee:=Callee.builtin Builtin.delete,args:=#[m,x],argTypes:=#[t,k] }) (e:TypeId) (L:Keyed P k) (hinj:∀ x y,enc x=enc y→x=y) (ht:P.underlying t=some (.map k e)) (b n:Nat) (M:K→Option Value)
  (hm:a.eval m=.map (some b)) (hV:aD enc P k w b n M) (y:K) (kl:Lit) (hx:a.eval x=enc y) (hkey:keyOf P k (enc y)=some kl)
  (hK:∀ w',aD enc P k w' b n (fw M y none)→w.grownBy w' (some b)→wpListIn F nF P ops Q rest (a.put o.dst (.tuple #[])) w'):wpListIn F nF P ops Q (o::rest) a w:=by
 obtain ⟨D,hown,hD⟩:=hV;refine wpListIn_delete_own w hg m x t k hop e L ht Mh b n D hm hown (enc y) kl hx hkey fun w' h1 h2=>hK w' ⟨D.del kl,h1,fun z kz hz=>?_⟩ h2.grown;by_cases e2:z=y
 ·subst e2;obtain rfl:kz=kl:=by rw [hkey] at hz; injection hz with hz; exact hz.symm
  rw [cB];exact ⟨has_del_same,fun u=>atKey_del_same u⟩
 ·have hne:kz ≠ kl:=fun e3=>e2 (hinj _ _ (L.inj (by rw [e3] at hz; exact hz) hkey));rw [bf e2];have h5:=hD z kz hz;cases e3:M z with
  | none=>rw [e3] at h5; exact ⟨by rw [has_del_other hne]; exact h5.1,fun u=>by rw [atKey_del_other hne]; exact h5.2 u⟩
  | some v=>rw [e3] at h5; exact ⟨by rw [has_del_other hne]; exact h5.1,fun u=>by rw [atKey_del_other hne]; exact h5.2 u⟩
theorem wD [DecidableEq K] (hg:o.guard=none) (m x:Operand) (t:TypeId) (hop:o.op=Op.mapEntry t m x) (k e:TypeId) (L:WideMaps.KeyLaw P k) (hinj:∀ x y,enc x=enc y→x=y) (ht:P.underlying t=some (.map k e)) {z:Value} (hz:∀ u:World,(zeroValue e).run P u=.ok z u) (b n:Nat) (M:K→Option Value)
  (hm:a.eval m=.map (some b)) (hV:aD enc P k w b n M) (hn:n < maxLen) (y:K) (kl:Lit) (hx:a.eval x=enc y) (hkey:keyOf P k (enc y)=some kl)
  (hK:∀ (st:Nat) (w1:World),w.grownBy w1 (some b)→(∀ (w2:World) (val:Value),w2.heap[b]?=w1.heap[b]?→∃ w3,(Instr.entryStore t (.map (some b)) (goInt st) val).run P w2=.ok () w3∧aD enc P k w3 b (n + 1) (fw M y (some val))∧w2.grownBy w3 (some b)) →
   wpListIn F nF P ops Q rest (a.put o.dst (.tuple #[(M y).getD z,goInt st])) w1):wpListIn F nF P ops Q (o::rest) a w:=by
 refine wpListIn_plain hg fun K' hK'=>?_;obtain ⟨st,w1,hrun,h1,h2⟩:=hV.entry L hinj ht hz hn hkey;unfold Oper.wpIn;refine ⟨by simp [Oper.about,hop],?_⟩;rw [Oper.semAt_plain F _ _ (by rw [hop]; intro c hc'; cases hc')];simp [execOp,hop,hm,hx,hrun,Result.andThen];exact hK' _ _ (hK st w1 h1 h2)
theorem o9 (hg:o.guard=none) (m s v:Operand) (t:TypeId) (hop:o.op=Op.entryStore t m s v) (b st:Nat) (hm:a.eval m=.map (some b)) (hs:a.eval s=goInt st) (u:Value) (hv:a.eval v=u) (k:TypeId) (n:Nat) (M:K→Option Value)
  (hback:∃ w3,(Instr.entryStore t (.map (some b)) (goInt st) u).run P w=.ok () w3∧aD enc P k w3 b n M∧w.grownBy w3 (some b))
  (hK:∀ w',aD enc P k w' b n M→w.grownBy w' (some b)→wpListIn F nF P ops Q rest (a.put o.dst undef) w'):wpListIn F nF P ops Q (o::rest) a w:=by
 refine wpListIn_plain hg fun K' hK'=>?_;obtain ⟨w3,hrun,h1,h2⟩:=hback;unfold Oper.wpIn;refine ⟨by simp [Oper.about,hop],?_⟩;rw [Oper.semAt_plain F _ _ (by rw [hop]; intro c hc'; cases hc')];simp [execOp,hop,hm,hs,hv,hrun,Result.andThen];exact hK' _ _ (hK w3 h1 h2)
theorem wF (hg:o.guard=none) (t:TypeId) (p x:Operand) (hop:o.op=Op.store t p x) (ad:Addr) (v:Value) (hp:a.eval p=.pointer (some ad)) (hx:a.eval x=v) (hrun:(Instr.storeAt t (.pointer (some ad)) v).run P w=.ok () (w.setCell ad v)) (hK:∀ W',W'=w.setCell ad v→wpListIn F nF P ops Q rest (a.put o.dst undef) W'):wpListIn F nF P ops Q (o::rest) a w:=by
 refine wpListIn_plain hg fun K' hK'=>?_;unfold Oper.wpIn;refine ⟨by simp [Oper.about,hop],?_⟩;rw [Oper.semAt_plain F _ _ (by rw [hop]; intro c hc'; cases hc')];simp [execOp,hop,hp,hx,hrun,Result.andThen];exact hK' _ _ (hK _ rfl)
end
def qp (L:List Fc) (k:Nat):List (Nat × Fc):=(List.range k).filterMap fun j=>(L[L.length - 1 - j]?).map fun x=>(L.length - 1 - j,x)
theorem zn {L:List Fc} {k:Nat} (h:k < L.length):qp L (k + 1)=qp L k ++ [(L.length - 1 - k,L[L.length - 1 - k])]:=by
 unfold qp;rw [List.range_succ,List.filterMap_append];simp [R8 (show L.length - 1 - k < L.length by omega)]
def NY (x:Nat × Fc):Array Value:=#[.int .i64 (x.1:Int),.agg #[.string x.2.a,.string x.2.b,.string x.2.r,.string x.2.c,.string x.2.d]]
structure BkM (W:World) (gB:Nat) (Tt:Option Addr) (SV:Nat) (L:List Fc):Prop where
 bx:W.cell? ⟨gB,0,none⟩=some (.slice Tt L.length SV)
 sl:gX W Tt L
theorem K8 (n:Nat) (hn:1≤n) (gB:Nat) (Tt:Option Addr) (SV:Nat) (L:List Fc) (hl:L.length≤1048576) (Kp:Nat→World→World→Prop) (w0:World) :
  wZ Fence.wide n prog 102 #[.pointer (some ⟨gB,0,none⟩)] NY Kp (fun _ W=>BkM W gB Tt SV L) (fun pre x=>∃ h:pre.length < L.length,x=(L.length - 1 - pre.length,L[L.length - 1 - pre.length])) (fun xs=>xs=qp L L.length) w0:=by
 intro l J W _ _ _ hJ hT hY h0;have HT:=ag hT;have HY:=ag hY;have H0:=ag h0;have hM:=hT _ _ h0;have b0:=hM.bx;have bl:=ay b0;clear hJ hT hY h0 hM;refine callsIn_of_wp func102 rfl trivial ?_ rfl;simp only [ntmps102,List.size_toArray,List.length_cons,List.length_nil,Nat.reduceAdd,Nat.reduceSub,Array.replicate_succ,Array.replicate_zero,List.push_toArray,List.append_toArray,List.nil_append,List.cons_append];gi_wp2;clear b0 bl
 gi_loopw [3] (fun i wr=>∃ q:Nat,q≤L.length∧i=.int .i64 ((L.length:Int) - 1 - (q:Int))∧Hid ((qp L q).length=q)∧Hid (J (qp L q) wr)) (fun i _=>(intOf i + 1).toNat)
 case atStart=>exact ⟨0,R6 _,by go_num,rfl,H0⟩
 case round =>
  clear H0;obtain ⟨q,hq,rfl,HLQ,HJ1⟩:=hrel;by_cases hlq:q < L.length
  ·obtain ⟨m,hm⟩:∃ m,m=L.length - 1 - q:=⟨_,rfl⟩;have e0:(L.length:Int) - 1 - (q:Int)=(m:Int):=by omega
   rw [e0];have Tv:m < L.length:=by omega
   have hM:=HT.out _ _ HJ1.out;obtain ⟨b,off,SL,⟨t0,t1,t2,t3,t4⟩,hbl⟩:=gX.at0 hM.sl Tv;have b0:=hM.bx;have hm0:=bn m;have hm1:(m:Int) < (L.length:Int):=by omega
   have HSQ:=ag (zn hlq);obtain ⟨fn,tmps,assign,body,hy,hR⟩:=HY.out _ (m,L[m]) wr HJ1.out ⟨by rw [HLQ.out]; exact hlq,by simp only [HLQ.out,← hm]⟩;have HRR:=ag hR;unfold NY at hy;have HME:=ag hm;subst SL;clear hM hR hm e0;gi_wp2;refine HRR.out.mono ?_;rintro e W5 ⟨rfl,hJ8,hK8⟩;have HJ8:Hid (J (qp L (q + 1)) W5):=by
    show J _ _;rw [HSQ.out];have e:=HME.out;subst e;exact hJ8
   have HL8:Hid ((qp L (q + 1)).length=q + 1):=by show _=_; rw [HSQ.out,R9,HLQ.out]; rfl
   have Vv:Hid ((m:Int)=(L.length:Int) - 1 - (q:Int)):=by show _=_; have:=HME.out; omega
   clear hJ8 hK8 hy t0 t1 t2 t3 t4 b0;gi_wp2;go_roundw;case rel=>exact ⟨q + 1,by omega,by rw [Vv.out]; go_num,HL8,HJ8⟩
   case measure=>simp [intOf] <;> omega
  ·have e0:(L.length:Int) - 1 - (q:Int)=-1:=by omega
   rw [e0];have HE:Hid (J (qp L L.length) wr):=by
    have e:q=L.length:=by omega
    rw [← e]; exact HJ1
   gi_wp2
   go_end0
   exact ⟨⟨_,rfl⟩,_,rfl,HE.out⟩
theorem Dh (Tt:Option Addr) (n SV:Nat) (w:World) :
  Calls prog 72 #[.slice Tt n SV] w fun e w'=>e=.returned (.func (.func 102) #[] #[.pointer (some ⟨w.heap.size,0,none⟩)])∧w'=w.alloc (.cells #[.slice Tt n SV] 38):=by
 go_enter func72,ntmps72;go_wp2;go_ret;exact ⟨rfl,rfl⟩
section
variable [DecidableEq Fc]
theorem flat_get {Q:List Fc}:∀ (l:List (Fc × Value)) (i:Nat) (h:i < l.length),(G.flatG (zB Q) l)[i * 2]?=some (.int .i64 (idx Q l[i].1:Int))∧(G.flatG (zB Q) l)[i * 2 + 1]?=some l[i].2
 | [],i,h=>by simp at h
 | p::l,0,_=>by simp [G.flatG,zB]
 | p::l,i + 1,h=>by
  have ih:=flat_get (Q:=Q) l i (by simpa using h);have e:G.flatG (zB Q) (p::l)=zB Q p ++ G.flatG (zB Q) l:=by simp [G.flatG]
  have e1:(i + 1) * 2=i * 2 + 2:=by omega
  rw [e,e1,List.getElem_cons_succ];have e2:(zB Q p).length=2:=rfl;refine ⟨?_,?_⟩
  ·rw [List.getElem?_append_right (by rw [e2]; omega),e2,Nat.add_sub_cancel]; exact ih.1
  ·rw [List.getElem?_append_right (by rw [e2]; omega),e2,show i * 2 + 2 + 1 - 2=i * 2 + 1 by omega]; exact ih.2
theorem zo {w:World} {base g n cap:Nat} {T:TypeId} {xs:List Value} (h:w.ownsRow base T 2 (.slice (some ⟨g,0,none⟩) n cap) n xs) (i:Nat) {u:Value} (hu:xs[i]?=some u):w.cell? ⟨g,i,none⟩=some u:=by
 rcases h.2 with ⟨e,-⟩ | ⟨g',cap',cur,e,-,hc,h1⟩
 ·cases e
 ·injection e with e _ _; injection e with e; injection e with e;subst e;obtain ⟨-,-,-,hx⟩:=h1;rw [← hx] at hu;obtain ⟨hi,e2⟩:=List.getElem?_eq_some_iff.1 hu;rw [List.getElem_take] at e2;have hi2:i < cur.size:=by simp at hi; omega
  simp [World.cell?,hc,← e2,hi2]
variable {w:World} {rs:List TR} {ts:List Tp} {Q:List Fc} {N0 bm ba bk:Nat} {BX:List (Nat × Value × TypeId)}
theorem zq {X:World} {kept:List Fc} {vk:Value} {M:Fc→Option Value} {nA nP pb:Nat} {P:Fc→Option Nat} {E:List (Fc × (Fc × Value))} (h:NdR w rs ts Q N0 bm ba bk BX X kept vk M nA E) (hpb:X.cell? ⟨pb,0,none⟩=some (.map (some bm))) (hV:aD dH prog 42 X bm nP (iL P)) (hl:E.length≤1000000000000000) (f:Fc) :
  ∃ adA capA,(M f).getD (.slice none 0 0)=.slice adA (G.lookL E f).length capA∧Calls prog 73 #[.slice adA (G.lookL E f).length capA,.func (Fn.func 70) #[] #[.pointer (some ⟨pb,0,none⟩)]] X fun e w'=>e=.returned (.bool (((G.lookL E f).map fun p=>!(dE rs ts Q p.1 (uE P (idx Q p.1)))).any id))∧Below X.heap.size X w':=by
 have hpl:=ay hpb;have hll:(G.lookL E f).length≤E.length:=by unfold G.lookL; exact List.length_filterMap_le _ _
 have hlm:((G.lookL E f).map fun p=>!(dE rs ts Q p.1 (uE P (idx Q p.1)))).length=(G.lookL E f).length:=by simp
 rcases h.grp.row f with ⟨e,e2⟩ | ⟨v,e,ho⟩
 ·refine ⟨none,0,by rw [e,e2]; rfl,?_⟩;have:=lu 70 #[] #[.pointer (some ⟨pb,0,none⟩)] [] none 0 X (by simp) IB (.inl rfl);rw [e2]; exact this
 ·rw [e];rcases ho.2 with ⟨ev,h0⟩ | ⟨g,cap,cur,ev,hbg,hc,h1⟩
  ·have e2:G.lookL E f=[]:=Si.1 h0;refine ⟨none,0,by rw [e2]; exact ev,?_⟩;have:=lu 70 #[] #[.pointer (some ⟨pb,0,none⟩)] [] none 0 X (by simp) IB (.inl rfl);rw [e2]; exact this
  ·refine ⟨some ⟨g,0,none⟩,cap,ev,?_⟩;subst ev;have:=lu 70 #[] #[.pointer (some ⟨pb,0,none⟩)] ((G.lookL E f).map fun p=>!(dE rs ts Q p.1 (uE P (idx Q p.1)))) (some ⟨g,0,none⟩) cap X (by rw [hlm]; omega) IB (.inr ⟨g,rfl,(ho.lt g rfl).2,fun i hi=>?_⟩)
   ·rw [hlm] at this; exact this
   ·have hi2:i < (G.lookL E f).length:=by rw [hlm] at hi; exact hi
    obtain ⟨t0,t1⟩:=flat_get (Q:=Q) (G.lookL E f) i hi2;have hm:=G.mem_lookL.1 (RY hi2);have hr:=h.rul _ hm;obtain ⟨T,a,ek,-⟩:=hr.kind;have ek':(G.lookL E f)[i].2=.iface T a:=ek;refine ⟨_,_,zo ho _ t0,zo ho _ t1,rfl,by rw [ek']; rfl,fun w1 hb=>?_⟩;have hf:=K7 (p:=idx Q (G.lookL E f)[i].1) (aA hb hpl hpb) (RZ hpl hb.size) (hV.below hb) (hr.below hb);rw [List.getElem_map];exact hf
end
end Go.Proofs.YtdaoiceeidoehaaGreat
