/- Contracts of the two functions that look at a list of tuples. -/
import Derived.Maps.RangeWalk
import Derived.Test.YtdaoiceeidoehaaGreatAhead
open Go.Proofs.Tryz
set_option maxHeartbeats 80000000
namespace Go.Proofs.YtdaoiceeidoehaaGreat
open Go.ChangeShapes Go.WideShapes Go.ChangeAt Go.RowKit
open Pl
attribute [local go_sem ↓] Go.wp_at_zero Go.wp_at_succ
def Tp.ok (t:Tp):Bool:=bi t.a t.b t.r t.c t.d t.s
def Tp.ahead (t u:Tp):Bool:=dQ t.a t.b t.r t.c t.d t.s u.a u.b u.r u.c u.d u.s
def sF (ts:List Tp) (i:Nat):Bool:=match ts[i]? with
 | none=>true
 | some t=>t.ok && (match i with
  | 0=>true
  | j + 1=>match ts[j]? with
   | none=>true
   | some u=>u.ahead t)
def qJ (ts:List Tp) (k:Nat):Bool:=(List.range k).all (sF ts)
def dX (ts:List Tp):Bool:=decide (ts.length≤40) && qJ ts ts.length
theorem mQ (ts:List Tp) (k:Nat):qJ ts (k + 1)=(qJ ts k && sF ts k):=by simp [qJ,List.range_succ]
theorem pO {ts:List Tp} {k:Nat} (hk:k < ts.length) (h:sF ts k=false):dX ts=false:=by
 have:qJ ts ts.length=false:=by
  unfold qJ;rw [List.all_eq_false];exact ⟨k,by simpa using hk,by simp [h]⟩
 simp [dX,this]
theorem qK {ts:List Tp} (h:0 < ts.length):sF ts 0=ts[0].ok:=by simp [sF,List.getElem?_eq_getElem h]
theorem mR {ts:List Tp} {j:Nat} (h:j + 1 < ts.length):sF ts (j + 1)=(ts[j + 1].ok && ts[j].ahead ts[j + 1]):=by
 have h':j < ts.length:=by omega
 simp [sF,List.getElem?_eq_getElem h,List.getElem?_eq_getElem h']
theorem ES {ts:List Tp} {k:Nat} (h:k < ts.length) (hn:ts[k].ok=false):sF ts k=false:=by
 simp [sF,List.getElem?_eq_getElem h,hn]
theorem jk {P:Program} {ops:Array Oper} {Q:Exit→Act→World→Prop} {md:Region.Mode} {S:World→Prop} {i:Nat} {oi:Oper} {v:Value} {fuel:Nat} {listed:Array Bool} {a:Act} {w:World} (d:Nat) (hi:ops[i]?=some oi) (hd:oi.dst=some d)
  (hs:Region.noSelect ops=true) (hf:Region.free md ops listed i=true) (hr:(Region.ready md ops listed).contains i=true)
  (hQ:∀ c a w,Q (.panic c) (a.put oi.dst v) w→Q (.panic c) a w) (hy:YieldsIf P ops S oi v a) (hS:S w)
  (h:wpAnyH P md ops Q S fuel (listed.setIfInBounds i true) (a.put (some d) v) w):wpAnyH P md ops Q S (fuel + 1) listed a w :=
 wpAnyH_take hi hs hf hr hQ hy hS (by rw [hd]; exact h)
theorem tk {P:Program} {ops:Array Oper} {Q:Exit→Act→World→Prop} {md:Region.Mode} {S:World→Prop} {oi:Oper} {v:Value} {fuel:Nat} {listed:Array Bool} {a:Act} {w:World} (i d:Nat)
  (h:wpAnyH P md ops Q S fuel (listed.setIfInBounds i true) (a.put (some d) v) w) (hi:ops[i]?=some oi:=by rfl) (hd:oi.dst=some d:=by rfl) (hs:Region.noSelect ops=true:=by kernel_rfl) (hf:Region.free md ops listed i=true:=by kernel_rfl) (hr:(Region.ready md ops listed).contains i=true:=by kernel_rfl)
  (hQ:∀ c a w,Q (.panic c) (a.put oi.dst v) w→Q (.panic c) a w:=by exact fun _ _ _ h=>h) (hy:YieldsIf P ops S oi v a:=by refine Or.inl ⟨by rfl,?_⟩; intro w hSw; (try dsimp only at hSw); go_simp <;> with_reducible rfl) (hS:S w:=by assumption):wpAnyH P md ops Q S (fuel + 1) listed a w :=
 jk d hi hd hs hf hr hQ hy hS h
theorem jr {P:Program} {ops:Array Oper} {Q:Exit→Act→World→Prop} {md:Region.Mode} {S:World→Prop} {oi:Oper} {fuel:Nat} {listed:Array Bool} {a:Act} {w:World} (i d:Nat)
  (h:wpAnyH P md ops Q S fuel (listed.setIfInBounds i true) (a.put (some d) undef) w) (hi:ops[i]?=some oi:=by rfl) (hd:oi.dst=some d:=by rfl) (hs:Region.noSelect ops=true:=by kernel_rfl) (hf:Region.free md ops listed i=true:=by kernel_rfl) (hr:(Region.ready md ops listed).contains i=true:=by kernel_rfl)
  (hQ:∀ c a w,Q (.panic c) (a.put oi.dst undef) w→Q (.panic c) a w:=by exact fun _ _ _ h=>h) (hy:YieldsIf P ops S oi undef a:=by exact Or.inr ⟨by rfl,rfl⟩) (hS:S w:=by assumption):wpAnyH P md ops Q S (fuel + 1) listed a w :=
 jk d hi hd hs hf hr hQ hy hS h
theorem ET {w W w':World} {b o0 o1 o2 o3 o4 o5 n:Nat} {x0 x1 x2 x3 x4 x5:Value} (hb:b < n)
  (h:W.cell? ⟨b,o0,none⟩=some x0∧W.cell? ⟨b,o1,none⟩=some x1∧W.cell? ⟨b,o2,none⟩=some x2∧W.cell? ⟨b,o3,none⟩=some x3∧W.cell? ⟨b,o4,none⟩=some x4∧W.cell? ⟨b,o5,none⟩=some x5∧n≤W.heap.size∧Below n w W)
  (hB:Below W.heap.size W w') :
  w'.cell? ⟨b,o0,none⟩=some x0∧w'.cell? ⟨b,o1,none⟩=some x1∧w'.cell? ⟨b,o2,none⟩=some x2∧w'.cell? ⟨b,o3,none⟩=some x3∧w'.cell? ⟨b,o4,none⟩=some x4∧w'.cell? ⟨b,o5,none⟩=some x5∧n≤w'.heap.size∧Below n w w':=by
 obtain ⟨h0,h1,h2,h3,h4,h5,hn,hW⟩:=h;have hc:∀ o,w'.cell? ⟨b,o,none⟩=W.cell? ⟨b,o,none⟩:=fun o=>hB.cell (p:=⟨b,o,none⟩) (Nat.lt_of_lt_of_le hb hn);exact ⟨by rw [hc]; exact h0,by rw [hc]; exact h1,by rw [hc]; exact h2,by rw [hc]; exact h3,by rw [hc]; exact h4,by rw [hc]; exact h5,Nat.le_trans hn hB.size,hW.trans (hB.mono hn)⟩
theorem uQ {w W w':World} {b b' o0 o1 o2 o3 o4 o5 o6 o7 o8 o9 o10 o11 n:Nat} {x0 x1 x2 x3 x4 x5 x6 x7 x8 x9 x10 x11:Value} (hb:b < n)
  (h:W.cell? ⟨b,o0,none⟩=some x0∧W.cell? ⟨b,o1,none⟩=some x1∧W.cell? ⟨b,o2,none⟩=some x2∧W.cell? ⟨b,o3,none⟩=some x3∧W.cell? ⟨b,o4,none⟩=some x4∧W.cell? ⟨b,o5,none⟩=some x5∧W.cell? ⟨b',o6,none⟩=some x6∧W.cell? ⟨b',o7,none⟩=some x7∧W.cell? ⟨b',o8,none⟩=some x8∧W.cell? ⟨b',o9,none⟩=some x9∧W.cell? ⟨b',o10,none⟩=some x10∧W.cell? ⟨b',o11,none⟩=some x11∧b' < W.heap.size∧n≤W.heap.size∧Below n w W)
  (hB:Below W.heap.size W w'):w'.cell? ⟨b,o0,none⟩=some x0∧w'.cell? ⟨b,o1,none⟩=some x1∧w'.cell? ⟨b,o2,none⟩=some x2∧w'.cell? ⟨b,o3,none⟩=some x3∧w'.cell? ⟨b,o4,none⟩=some x4∧w'.cell? ⟨b,o5,none⟩=some x5∧w'.cell? ⟨b',o6,none⟩=some x6∧w'.cell? ⟨b',o7,none⟩=some x7∧w'.cell? ⟨b',o8,none⟩=some x8∧w'.cell? ⟨b',o9,none⟩=some x9∧w'.cell? ⟨b',o10,none⟩=some x10∧w'.cell? ⟨b',o11,none⟩=some x11∧b' < w'.heap.size∧n≤w'.heap.size∧Below n w w':=by
 obtain ⟨h0,h1,h2,h3,h4,h5,h6,h7,h8,h9,h10,h11,hb',hn,hW⟩:=h;have hc:∀ o,w'.cell? ⟨b,o,none⟩=W.cell? ⟨b,o,none⟩:=fun o=>hB.cell (p:=⟨b,o,none⟩) (Nat.lt_of_lt_of_le hb hn);have hd:∀ o,w'.cell? ⟨b',o,none⟩=W.cell? ⟨b',o,none⟩:=fun o=>hB.cell (p:=⟨b',o,none⟩) hb';exact ⟨by rw [hc]; exact h0,by rw [hc]; exact h1,by rw [hc]; exact h2,by rw [hc]; exact h3,by rw [hc]; exact h4,by rw [hc]; exact h5,by rw [hd]; exact h6,by rw [hd]; exact h7,by rw [hd]; exact h8,by rw [hd]; exact h9,by rw [hd]; exact h10,by rw [hd]; exact h11,Nat.lt_of_lt_of_le hb' hB.size,Nat.le_trans hn hB.size,hW.trans (hB.mono hn)⟩
theorem qL (b off cap:Nat) (ts:List Tp) (w:World) (hlen:ts.length≤maxLen) (hr:uE w b off ts) (hb:b < w.heap.size) (hf:∀ t ∈ ts,t.fits) :
    Calls prog 53 #[.slice (some ⟨b,off,none⟩) ts.length cap] w fun e w'=>e=.returned (.bool (dX ts))∧Below w.heap.size w w':=by
  unfold maxLen at hlen;by_cases hbig:40 < ts.length
  · have HT:Hid (dX ts=false):=by show _=_; simp [dX]; omega
    go_enter func53,ntmps53;go_wp2;go_ret;exact ⟨af HT.out.symm,Below.refl _ _⟩
  · go_enter func53,ntmps53;go_wp2;go_loopw [3] (fun i wr=>∃ k:Nat,k≤ts.length∧i=.int .i64 k∧Hid (qJ ts k=true)∧Below w.heap.size w wr) (fun i _=>ts.length - (intOf i).toNat);case atStart=>exact ⟨0,Nat.zero_le _,rfl,rfl,Below.refl _ _⟩
    case round =>
      obtain ⟨k,hk,rfl,hu,hB⟩:=hrel;by_cases hlt:k < ts.length
      · obtain ⟨t0,t1,t2,t3,t4,t5⟩:=(hr.below hB hb) k hlt;obtain ⟨f0,f1,f2,f3,f4,f5⟩:=hf ts[k] (List.getElem_mem hlt);by_cases hok:ts[k].ok=true
        · have hok':bi ts[k].a ts[k].b ts[k].r ts[k].c ts[k].d ts[k].s=true:=hok;by_cases hz:k=0
          · subst hz;have HU:Hid (qJ ts (0 + 1)=true):=by show _=_; rw [mQ,hu.out,qK hlt,hok]; rfl
            have hk1:(0:Int)≤((0:Nat):Int):=by omega
            have hk2:((0:Nat):Int) < (ts.length:Int):=by omega
            clear hok hu;go_wp2_with fail;refine wp_region_held_drew (S:=fun w'=>w'.cell? ⟨b,off,none⟩=some (.string ts[0].a)∧w'.cell? ⟨b,off + 1,none⟩=some (.string ts[0].b)∧w'.cell? ⟨b,off + 2,none⟩=some (.string ts[0].r)∧w'.cell? ⟨b,off + 3,none⟩=some (.string ts[0].c)∧w'.cell? ⟨b,off + 4,none⟩=some (.string ts[0].d)∧w'.cell? ⟨b,off + 5,none⟩=some (.string ts[0].s)∧w.heap.size≤w'.heap.size∧Below w.heap.size w w') (by kernel_rfl) ⟨by simpa using t0,by simpa using t1,by simpa using t2,by simpa using t3,by simpa using t4,by simpa using t5,hB.size,hB.drew⟩ (fun hHeld=>?_);refine tk 0 13 ?_;go_frame;refine tk 1 14 ?_;go_frame;refine tk 2 15 ?_;go_frame;refine tk 3 16 ?_;go_frame;refine wpAnyH_ready (rs:=[4]) (by kernel_rfl) (by simp) ?_;refine AllReadyH.cons rfl (fun K hK=>?_) AllReadyH.nil;go_simp;refine (bv _ _ _ _ _ _ _ f0 f1 f2 f3 f4 f5).mono ?_;rintro e w1 ⟨he,hb1⟩;rw [hok'] at he;subst he;go_wp2_with fail;refine hK.out _ _ (ET hb hHeld hb1) (fun hHeld=>?_);clear hK K;refine tk 5 18 ?_;go_frame;refine tk 6 19 ?_;go_frame;refine tk 7 20 ?_;go_frame;refine tk 8 21 ?_;go_frame;refine tk 9 22 ?_;go_frame;refine jr 10 23 ?_;go_frame;refine jr 11 24 ?_;go_frame;refine jr 12 25 ?_;go_frame;refine jr 13 26 ?_;go_frame;refine jr 14 27 ?_;go_frame;refine jr 15 28 ?_;go_frame;refine jr 16 29 ?_;go_frame;refine jr 17 30 ?_;go_frame;refine jr 18 31 ?_;go_frame;refine jr 19 32 ?_;go_frame;refine jr 20 33 ?_;go_frame;refine tk 21 34 ?_;go_frame;refine tk 22 35 ?_;go_frame;refine wpAnyH_done (by kernel_rfl) ?_ _;have HB:=hHeld.2.2.2.2.2.2.2;clear hHeld;go_wp2;go_roundw;case rel=>exact ⟨0 + 1,by omega,by go_num,HU,HB⟩
            case measure=>simp [intOf]; omega
          · obtain ⟨m,hm⟩:∃ m:Nat,k=m + 1:=⟨k - 1,by omega⟩;have hml:m < ts.length:=by omega
            obtain ⟨q0,q1,q2,q3,q4,q5⟩:=(hr.below hB hb) m hml;obtain ⟨g0,g1,g2,g3,g4,g5⟩:=hf ts[m] (List.getElem_mem hml);have hkm:(k:Int) - 1=(m:Int):=by omega
            have hm1:=aY m;have hm2:(m:Int) < (ts.length:Int):=by omega
            have hpos:(0:Int) < (k:Int):=by omega
            have hposN:0 < k:=by omega
            have hwm:IntKind.i64.wrap (m:Int)=(m:Int):=by rw [IntKind.wrap_i64]; omega
            have HA:Hid (sF ts k=ts[m].ahead ts[k]):=by show _=_; subst hm; rw [mR hlt,hok]; rfl
            clear hm hz hr hf;have hk1:=aY k;have hk2:(k:Int) < (ts.length:Int):=by omega
            by_cases ha:ts[m].ahead ts[k]=true
            · have ha':dQ ts[m].a ts[m].b ts[m].r ts[m].c ts[m].d ts[m].s ts[k].a ts[k].b ts[k].r ts[k].c ts[k].d ts[k].s=true:=ha;have HU:Hid (qJ ts (k + 1)=true):=by show _=_; rw [mQ,hu.out,HA.out,ha]; rfl
              clear hok hu HA ha;go_wp2_with fail;refine wp_region_held_drew (S:=fun w'=>w'.cell? ⟨b,off + k * 6,none⟩=some (.string ts[k].a)∧w'.cell? ⟨b,off + k * 6 + 1,none⟩=some (.string ts[k].b)∧w'.cell? ⟨b,off + k * 6 + 2,none⟩=some (.string ts[k].r)∧w'.cell? ⟨b,off + k * 6 + 3,none⟩=some (.string ts[k].c)∧w'.cell? ⟨b,off + k * 6 + 4,none⟩=some (.string ts[k].d)∧w'.cell? ⟨b,off + k * 6 + 5,none⟩=some (.string ts[k].s)∧w'.cell? ⟨b,off + m * 6,none⟩=some (.string ts[m].a)∧w'.cell? ⟨b,off + m * 6 + 1,none⟩=some (.string ts[m].b)∧w'.cell? ⟨b,off + m * 6 + 2,none⟩=some (.string ts[m].r)∧w'.cell? ⟨b,off + m * 6 + 3,none⟩=some (.string ts[m].c)∧w'.cell? ⟨b,off + m * 6 + 4,none⟩=some (.string ts[m].d)∧w'.cell? ⟨b,off + m * 6 + 5,none⟩=some (.string ts[m].s)∧b < w'.heap.size∧w.heap.size≤w'.heap.size∧Below w.heap.size w w') (by kernel_rfl) ⟨t0,t1,t2,t3,t4,t5,q0,q1,q2,q3,q4,q5,Nat.lt_of_lt_of_le hb hB.size,hB.size,hB.drew⟩ (fun hHeld=>?_);refine tk 0 13 ?_;go_frame;refine tk 1 14 ?_;go_frame;refine tk 2 15 ?_;go_frame;refine tk 3 16 ?_;go_frame;refine wpAnyH_ready (rs:=[4]) (by kernel_rfl) (by simp) ?_;refine AllReadyH.cons rfl (fun K hK=>?_) AllReadyH.nil;go_simp;refine (bv _ _ _ _ _ _ _ f0 f1 f2 f3 f4 f5).mono ?_;rintro e w1 ⟨he,hb1⟩;rw [hok'] at he;subst he;go_wp2_with fail;refine hK.out _ _ (uQ hb hHeld hb1) (fun hHeld=>?_);clear hK K;refine tk 5 18 ?_;go_frame;refine tk 6 19 ?_;go_frame;refine tk 7 20 ?_;go_frame;refine jk (i:=8) (v:=.bool true) 21 rfl rfl (by kernel_rfl) (by kernel_rfl) (by kernel_rfl) (fun _ _ _ h=>h) (Or.inl ⟨by rfl,?_⟩) (by assumption) ?_
              · intro w hSw; (try dsimp only at hSw); go_simp
              go_frame;refine tk 9 22 ?_;go_frame;refine tk 10 23 ?_;go_frame;refine tk 11 24 ?_;go_frame;refine jk (i:=12) (v:=.int .i64 (m:Int)) 25 rfl rfl (by kernel_rfl) (by kernel_rfl) (by kernel_rfl) (fun _ _ _ h=>h) (Or.inl ⟨by rfl,?_⟩) (by assumption) ?_
              · intro w hSw; (try dsimp only at hSw); go_simp
              go_frame;refine tk 13 26 ?_;go_frame;refine tk 14 27 ?_;go_frame;refine tk 15 28 ?_;go_frame;refine tk 16 29 ?_;go_frame;refine tk 17 30 ?_;go_frame;refine tk 18 31 ?_;go_frame;refine wpAnyH_ready (rs:=[19]) (by kernel_rfl) (by simp) ?_;refine AllReadyH.cons rfl (fun K hK=>?_) AllReadyH.nil;go_simp;refine (nI _ _ _ _ _ _ _ _ _ _ _ _ _ g0 g1 g2 g3 g4 g5 f0 f1 f2 f3 f4 f5).mono ?_;rintro e w2 ⟨he,hb2⟩;rw [ha'] at he;subst he;go_wp2_with fail;refine hK.out _ _ (uQ hb hHeld hb2) (fun hHeld=>?_);clear hK K;refine tk 20 33 ?_;go_frame;refine tk 21 34 ?_;go_frame;refine tk 22 35 ?_;go_frame;refine wpAnyH_done (by kernel_rfl) ?_ _;have HB:=hHeld.2.2.2.2.2.2.2.2.2.2.2.2.2.2;clear hHeld;go_wp2;go_roundw;case rel=>exact ⟨k + 1,by omega,by go_num,HU,HB⟩
              case measure=>simp [intOf]; omega
            · have hna:ts[m].ahead ts[k]=false:=by simpa using ha
              have ha':dQ ts[m].a ts[m].b ts[m].r ts[m].c ts[m].d ts[m].s ts[k].a ts[k].b ts[k].r ts[k].c ts[k].d ts[k].s=false:=hna;have HT:Hid (dX ts=false):=pO hlt (by rw [HA.out,hna]);clear hok hu HA ha hna;go_wp2_with fail;refine wp_region_held_drew (S:=fun w'=>w'.cell? ⟨b,off + k * 6,none⟩=some (.string ts[k].a)∧w'.cell? ⟨b,off + k * 6 + 1,none⟩=some (.string ts[k].b)∧w'.cell? ⟨b,off + k * 6 + 2,none⟩=some (.string ts[k].r)∧w'.cell? ⟨b,off + k * 6 + 3,none⟩=some (.string ts[k].c)∧w'.cell? ⟨b,off + k * 6 + 4,none⟩=some (.string ts[k].d)∧w'.cell? ⟨b,off + k * 6 + 5,none⟩=some (.string ts[k].s)∧w'.cell? ⟨b,off + m * 6,none⟩=some (.string ts[m].a)∧w'.cell? ⟨b,off + m * 6 + 1,none⟩=some (.string ts[m].b)∧w'.cell? ⟨b,off + m * 6 + 2,none⟩=some (.string ts[m].r)∧w'.cell? ⟨b,off + m * 6 + 3,none⟩=some (.string ts[m].c)∧w'.cell? ⟨b,off + m * 6 + 4,none⟩=some (.string ts[m].d)∧w'.cell? ⟨b,off + m * 6 + 5,none⟩=some (.string ts[m].s)∧b < w'.heap.size∧w.heap.size≤w'.heap.size∧Below w.heap.size w w') (by kernel_rfl) ⟨t0,t1,t2,t3,t4,t5,q0,q1,q2,q3,q4,q5,Nat.lt_of_lt_of_le hb hB.size,hB.size,hB.drew⟩ (fun hHeld=>?_);refine tk 0 13 ?_;go_frame;refine tk 1 14 ?_;go_frame;refine tk 2 15 ?_;go_frame;refine tk 3 16 ?_;go_frame;refine wpAnyH_ready (rs:=[4]) (by kernel_rfl) (by simp) ?_;refine AllReadyH.cons rfl (fun K hK=>?_) AllReadyH.nil;go_simp;refine (bv _ _ _ _ _ _ _ f0 f1 f2 f3 f4 f5).mono ?_;rintro e w1 ⟨he,hb1⟩;rw [hok'] at he;subst he;go_wp2_with fail;refine hK.out _ _ (uQ hb hHeld hb1) (fun hHeld=>?_);clear hK K;refine tk 5 18 ?_;go_frame;refine tk 6 19 ?_;go_frame;refine tk 7 20 ?_;go_frame;refine jk (i:=8) (v:=.bool true) 21 rfl rfl (by kernel_rfl) (by kernel_rfl) (by kernel_rfl) (fun _ _ _ h=>h) (Or.inl ⟨by rfl,?_⟩) (by assumption) ?_
              · intro w hSw; (try dsimp only at hSw); go_simp
              go_frame;refine tk 9 22 ?_;go_frame;refine tk 10 23 ?_;go_frame;refine tk 11 24 ?_;go_frame;refine jk (i:=12) (v:=.int .i64 (m:Int)) 25 rfl rfl (by kernel_rfl) (by kernel_rfl) (by kernel_rfl) (fun _ _ _ h=>h) (Or.inl ⟨by rfl,?_⟩) (by assumption) ?_
              · intro w hSw; (try dsimp only at hSw); go_simp
              go_frame;refine tk 13 26 ?_;go_frame;refine tk 14 27 ?_;go_frame;refine tk 15 28 ?_;go_frame;refine tk 16 29 ?_;go_frame;refine tk 17 30 ?_;go_frame;refine tk 18 31 ?_;go_frame;refine wpAnyH_ready (rs:=[19]) (by kernel_rfl) (by simp) ?_;refine AllReadyH.cons rfl (fun K hK=>?_) AllReadyH.nil;go_simp;refine (nI _ _ _ _ _ _ _ _ _ _ _ _ _ g0 g1 g2 g3 g4 g5 f0 f1 f2 f3 f4 f5).mono ?_;rintro e w2 ⟨he,hb2⟩;rw [ha'] at he;subst he;go_wp2_with fail;refine hK.out _ _ (uQ hb hHeld hb2) (fun hHeld=>?_);clear hK K;refine tk 20 33 ?_;go_frame;refine tk 21 34 ?_;go_frame;refine tk 22 35 ?_;go_frame;refine wpAnyH_done (by kernel_rfl) ?_ _;have HB:=hHeld.2.2.2.2.2.2.2.2.2.2.2.2.2.2;clear hHeld;go_wp2;go_ret;exact ⟨af HT.out.symm,HB⟩
        · have hno:ts[k].ok=false:=by simpa using hok
          have HT:Hid (dX ts=false):=pO hlt (ES hlt hno);have hno':bi ts[k].a ts[k].b ts[k].r ts[k].c ts[k].d ts[k].s=false:=hno;clear hok hno;have hk1:=aY k;have hk2:(k:Int) < (ts.length:Int):=by omega
          go_wp2_with fail;refine wp_region_held_drew (S:=fun w'=>w'.cell? ⟨b,off + k * 6,none⟩=some (.string ts[k].a)∧w'.cell? ⟨b,off + k * 6 + 1,none⟩=some (.string ts[k].b)∧w'.cell? ⟨b,off + k * 6 + 2,none⟩=some (.string ts[k].r)∧w'.cell? ⟨b,off + k * 6 + 3,none⟩=some (.string ts[k].c)∧w'.cell? ⟨b,off + k * 6 + 4,none⟩=some (.string ts[k].d)∧w'.cell? ⟨b,off + k * 6 + 5,none⟩=some (.string ts[k].s)∧w.heap.size≤w'.heap.size∧Below w.heap.size w w') (by kernel_rfl) ⟨t0,t1,t2,t3,t4,t5,hB.size,hB.drew⟩ (fun hHeld=>?_);refine tk 0 13 ?_;go_frame;refine tk 1 14 ?_;go_frame;refine tk 2 15 ?_;go_frame;refine tk 3 16 ?_;go_frame;refine wpAnyH_ready (rs:=[4]) (by kernel_rfl) (by simp) ?_;refine AllReadyH.cons rfl (fun K hK=>?_) AllReadyH.nil;go_simp;refine (bv _ _ _ _ _ _ _ f0 f1 f2 f3 f4 f5).mono ?_;rintro e w1 ⟨he,hb1⟩;rw [hno'] at he;subst he;go_wp2_with fail;refine hK.out _ _ (ET hb hHeld hb1) (fun hHeld=>?_);clear hK K;refine tk 5 18 ?_;go_frame;refine tk 6 19 ?_;go_frame;refine jr 7 20 ?_;go_frame;refine jr 8 21 ?_;go_frame;refine jr 9 22 ?_;go_frame;refine jr 10 23 ?_;go_frame;refine jr 11 24 ?_;go_frame;refine jr 12 25 ?_;go_frame;refine jr 13 26 ?_;go_frame;refine jr 14 27 ?_;go_frame;refine jr 15 28 ?_;go_frame;refine jr 16 29 ?_;go_frame;refine jr 17 30 ?_;go_frame;refine jr 18 31 ?_;go_frame;refine jr 19 32 ?_;go_frame;refine jr 20 33 ?_;go_frame;refine jr 21 34 ?_;go_frame;refine tk 22 35 ?_;go_frame;refine wpAnyH_done (by kernel_rfl) ?_ _;have HB:=hHeld.2.2.2.2.2.2.2;clear hHeld;go_wp2;go_ret;exact ⟨af HT.out.symm,HB⟩
      · go_wp2;go_ret;exact ⟨af (by have e:k=ts.length:=(by omega);subst e;simp [dX,hu.out]; omega),hB⟩
end Go.Proofs.YtdaoiceeidoehaaGreat
