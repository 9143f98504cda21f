/- The contract of the program's function that looks at a list of tuples. -/
import Derived.Test.YtdaoiceeidoehaaGreatTuplesOk
open Go.Proofs.Tryz
set_option maxHeartbeats 80000000
namespace Go.Proofs.YtdaoiceeidoehaaGreat
open Go.ChangeShapes Go.WideShapes Go.ChangeAt Go.RowKit
open Pl
attribute [local go_sem ↓] Go.wp_at_zero Go.wp_at_succ
theorem tF {w W w':World} {b b' o0 o1 o2 o3 o4 o5 o6 o7 o8 o9 o10 o11:Nat} {x0 x1 x2 x3 x4 x5 x6 x7 x8 x9 x10 x11:Value} (_hb:b < b')
  (h:W.cell? ⟨b',o0,none⟩=some x0∧W.cell? ⟨b',o1,none⟩=some x1∧W.cell? ⟨b',o2,none⟩=some x2∧W.cell? ⟨b',o3,none⟩=some x3∧W.cell? ⟨b',o4,none⟩=some x4∧W.cell? ⟨b',o5,none⟩=some x5∧W.cell? ⟨b,o6,none⟩=some x6∧W.cell? ⟨b,o7,none⟩=some x7∧W.cell? ⟨b,o8,none⟩=some x8∧W.cell? ⟨b,o9,none⟩=some x9∧W.cell? ⟨b,o10,none⟩=some x10∧W.cell? ⟨b,o11,none⟩=some x11∧b < W.heap.size∧b' + 1≤W.heap.size∧Below (b' + 1) w W)
  (hB:Below W.heap.size W w'):w'.cell? ⟨b',o0,none⟩=some x0∧w'.cell? ⟨b',o1,none⟩=some x1∧w'.cell? ⟨b',o2,none⟩=some x2∧w'.cell? ⟨b',o3,none⟩=some x3∧w'.cell? ⟨b',o4,none⟩=some x4∧w'.cell? ⟨b',o5,none⟩=some x5∧w'.cell? ⟨b,o6,none⟩=some x6∧w'.cell? ⟨b,o7,none⟩=some x7∧w'.cell? ⟨b,o8,none⟩=some x8∧w'.cell? ⟨b,o9,none⟩=some x9∧w'.cell? ⟨b,o10,none⟩=some x10∧w'.cell? ⟨b,o11,none⟩=some x11∧b < w'.heap.size∧b' + 1≤w'.heap.size∧Below (b' + 1) w w':=by
 obtain ⟨h0,h1,h2,h3,h4,h5,h6,h7,h8,h9,h10,h11,hb',hn,hW⟩:=h;have hc:∀ o,w'.cell? ⟨b,o,none⟩=W.cell? ⟨b,o,none⟩:=fun o=>hB.cell (p:=⟨b,o,none⟩) hb';have hd:∀ o,w'.cell? ⟨b',o,none⟩=W.cell? ⟨b',o,none⟩:=fun o=>hB.cell (p:=⟨b',o,none⟩) hn;exact ⟨by rw [hd]; exact h0,by rw [hd]; exact h1,by rw [hd]; exact h2,by rw [hd]; exact h3,by rw [hd]; exact h4,by rw [hd]; exact h5,by rw [hc]; exact h6,by rw [hc]; exact h7,by rw [hc]; exact h8,by rw [hc]; exact h9,by rw [hc]; exact h10,by rw [hc]; exact h11,Nat.lt_of_lt_of_le hb' hB.size,Nat.le_trans hn hB.size,hW.trans (hB.mono (by omega))⟩
theorem aP {w:World} {a:Addr} {v:Value} (h:w.cell? a=some v) (o:Obj):(w.alloc o).cell? a=some v :=
 cell_later ((Below.refl _ _).alloc (Nat.le_refl _) _) h
theorem qY (b off cap:Nat) (ts:List Tp) (w:World) (hlen:ts.length≤maxLen) (hr:uE w b off ts) (hb:b < w.heap.size) (hf:∀ t ∈ ts,t.fits) :
    Calls prog 88 #[.slice (some ⟨b,off,none⟩) ts.length cap] w fun e w'=>e=.returned (.bool (dX ts))∧Below w.heap.size w w':=by
  unfold maxLen at hlen;by_cases hbig:40 < ts.length
  · have HT:Hid (dX ts=false):=by show _=_; simp [dX]; omega
    go_enter func88,ntmps88;go_wp2;go_ret;exact ⟨af HT.out.symm,Below.refl _ _⟩
  · go_enter func88,ntmps88;go_wp2;go_loopw [10] (fun i wr=>∃ k:Nat,k≤ts.length∧i=.int .i64 k∧Hid (qJ ts k=true)∧Below w.heap.size w wr) (fun i _=>ts.length - (intOf i).toNat);case atStart=>exact ⟨0,Nat.zero_le _,rfl,rfl,Below.refl _ _⟩
    case round =>
      obtain ⟨k,hk,rfl,hu,hB⟩:=hrel;by_cases hlt:k < ts.length
      · obtain ⟨t0,t1,t2,t3,t4,t5⟩:=(hr.below hB hb) k hlt;obtain ⟨f0,f1,f2,f3,f4,f5⟩:=hf ts[k] (List.getElem_mem hlt);have hbr:b < wr.heap.size:=Nat.lt_of_lt_of_le hb hB.size;have hk1:=aY k;have hk2:(k:Int) < (ts.length:Int):=by omega
        by_cases hok:ts[k].ok=true
        · have hok':bi ts[k].a ts[k].b ts[k].r ts[k].c ts[k].d ts[k].s=true:=hok;by_cases hz:k=0
          · have HU:Hid (qJ ts (k + 1)=true):=by show _=_; rw [mQ,hu.out]; subst hz; rw [qK hlt,hok]; rfl
            have hz0:(0 < k)=False:=by simp [hz]
            clear hok hu hr hf hz;go_wp2_with fail;refine wp_region_held_drew (S:=fun w'=>w'.cell? ⟨wr.heap.size,0,none⟩=some (.string ts[k].a)∧w'.cell? ⟨wr.heap.size,1,none⟩=some (.string ts[k].b)∧w'.cell? ⟨wr.heap.size,2,none⟩=some (.string ts[k].r)∧w'.cell? ⟨wr.heap.size,3,none⟩=some (.string ts[k].c)∧w'.cell? ⟨wr.heap.size,4,none⟩=some (.string ts[k].d)∧w'.cell? ⟨wr.heap.size,5,none⟩=some (.string ts[k].s)∧wr.heap.size + 1≤w'.heap.size∧Below (wr.heap.size + 1) (wr.alloc (.cells #[.string ts[k].a,.string ts[k].b,.string ts[k].r,.string ts[k].c,.string ts[k].d,.string ts[k].s] 73)) w') (by kernel_rfl) ⟨by simp,by simp,by simp,by simp,by simp,by simp,by simp,(Below.refl _ _).drew⟩ (fun hHeld=>?_);refine tk 0 15 ?_;go_frame;refine wpAnyH_ready (rs:=[1]) (by kernel_rfl) (by simp) ?_;refine AllReadyH.cons rfl (fun K hK=>?_) AllReadyH.nil;go_simp;refine (bz _ _ _ _ _ _ _ f0 f1 f2 f3 f4 f5).mono ?_;rintro e w1 ⟨he,hb1⟩;rw [hok'] at he;subst he;go_wp2_with fail;refine hK.out _ _ (ET (Nat.lt_succ_self _) hHeld hb1) (fun hHeld=>?_);clear hK K;refine tk 2 17 ?_;go_frame;refine tk 3 18 ?_;go_frame;refine tk 4 19 ?_;go_frame;refine jk (i:=5) (v:=.bool false) 20 rfl rfl (by kernel_rfl) (by kernel_rfl) (by kernel_rfl) (fun _ _ _ h=>h) (Or.inl ⟨by rfl,?_⟩) (by assumption) ?_
            · intro w hSw; (try dsimp only at hSw); go_simp
            go_frame;refine tk 6 21 ?_;go_frame;refine jr 7 22 ?_;go_frame;refine jr 8 23 ?_;go_frame;refine jr 9 24 ?_;go_frame;refine jr 10 25 ?_;go_frame;refine jr 11 26 ?_;go_frame;refine jr 12 27 ?_;go_frame;refine jr 13 28 ?_;go_frame;refine jr 14 29 ?_;go_frame;refine tk 15 30 ?_;go_frame;refine tk 16 31 ?_;go_frame;refine wpAnyH_done (by kernel_rfl) ?_ _;have HB:Below w.heap.size w _:=hB.trans ((((Below.refl wr.heap.size wr).alloc (Nat.le_refl _) _).trans (hHeld.2.2.2.2.2.2.2.mono (by omega))).mono hB.size);clear hHeld;go_wp2;go_roundw;case rel=>exact ⟨k + 1,by omega,by go_num,HU,HB⟩
            case measure=>simp [intOf]; omega
          · obtain ⟨m,hm⟩:∃ m:Nat,k=m + 1:=⟨k - 1,by omega⟩;have hml:m < ts.length:=by omega
            obtain ⟨q0,q1,q2,q3,q4,q5⟩:=(hr.below hB hb) m hml;obtain ⟨g0,g1,g2,g3,g4,g5⟩:=hf ts[m] (List.getElem_mem hml);have hkm:(k:Int) - 1=(m:Int):=by omega
            have hm1:=aY m;have hm2:(m:Int) < (ts.length:Int):=by omega
            have hpos:(0:Int) < (k:Int):=by omega
            have hposN:0 < k:=by omega
            have hwm:IntKind.i64.wrap (m:Int)=(m:Int):=by rw [IntKind.wrap_i64]; omega
            have HA:Hid (sF ts k=ts[m].ahead ts[k]):=by show _=_; subst hm; rw [mR hlt,hok]; rfl
            clear hm hz hr hf;by_cases ha:ts[m].ahead ts[k]=true
            · have ha':dQ ts[m].a ts[m].b ts[m].r ts[m].c ts[m].d ts[m].s ts[k].a ts[k].b ts[k].r ts[k].c ts[k].d ts[k].s=true:=ha;have HU:Hid (qJ ts (k + 1)=true):=by show _=_; rw [mQ,hu.out,HA.out,ha]; rfl
              clear hok hu HA ha;go_wp2_with fail;refine wp_region_held_drew (S:=fun w'=>w'.cell? ⟨wr.heap.size,0,none⟩=some (.string ts[k].a)∧w'.cell? ⟨wr.heap.size,1,none⟩=some (.string ts[k].b)∧w'.cell? ⟨wr.heap.size,2,none⟩=some (.string ts[k].r)∧w'.cell? ⟨wr.heap.size,3,none⟩=some (.string ts[k].c)∧w'.cell? ⟨wr.heap.size,4,none⟩=some (.string ts[k].d)∧w'.cell? ⟨wr.heap.size,5,none⟩=some (.string ts[k].s)∧w'.cell? ⟨b,off + m * 6,none⟩=some (.string ts[m].a)∧w'.cell? ⟨b,off + m * 6 + 1,none⟩=some (.string ts[m].b)∧w'.cell? ⟨b,off + m * 6 + 2,none⟩=some (.string ts[m].r)∧w'.cell? ⟨b,off + m * 6 + 3,none⟩=some (.string ts[m].c)∧w'.cell? ⟨b,off + m * 6 + 4,none⟩=some (.string ts[m].d)∧w'.cell? ⟨b,off + m * 6 + 5,none⟩=some (.string ts[m].s)∧b < w'.heap.size∧wr.heap.size + 1≤w'.heap.size∧Below (wr.heap.size + 1) (wr.alloc (.cells #[.string ts[k].a,.string ts[k].b,.string ts[k].r,.string ts[k].c,.string ts[k].d,.string ts[k].s] 73)) w') (by kernel_rfl) ⟨by simp,by simp,by simp,by simp,by simp,by simp,aP q0 _,aP q1 _,aP q2 _,aP q3 _,aP q4 _,aP q5 _,by simp; omega,by simp,(Below.refl _ _).drew⟩ (fun hHeld=>?_);refine tk 0 15 ?_;go_frame;refine wpAnyH_ready (rs:=[1]) (by kernel_rfl) (by simp) ?_;refine AllReadyH.cons rfl (fun K hK=>?_) AllReadyH.nil;go_simp;refine (bz _ _ _ _ _ _ _ f0 f1 f2 f3 f4 f5).mono ?_;rintro e w1 ⟨he,hb1⟩;rw [hok'] at he;subst he;go_wp2_with fail;refine hK.out _ _ (tF hbr hHeld hb1) (fun hHeld=>?_);clear hK K;refine tk 2 17 ?_;go_frame;refine tk 3 18 ?_;go_frame;refine tk 4 19 ?_;go_frame;refine jk (i:=5) (v:=.bool true) 20 rfl rfl (by kernel_rfl) (by kernel_rfl) (by kernel_rfl) (fun _ _ _ h=>h) (Or.inl ⟨by rfl,?_⟩) (by assumption) ?_
              · intro w hSw; (try dsimp only at hSw); go_simp
              go_frame;refine tk 6 21 ?_;go_frame;refine tk 7 22 ?_;go_frame;refine tk 8 23 ?_;go_frame;refine jk (i:=9) (v:=.int .i64 (m:Int)) 24 rfl rfl (by kernel_rfl) (by kernel_rfl) (by kernel_rfl) (fun _ _ _ h=>h) (Or.inl ⟨by rfl,?_⟩) (by assumption) ?_
              · intro w hSw; (try dsimp only at hSw); go_simp
              go_frame;refine tk 10 25 ?_;go_frame;refine tk 11 26 ?_;go_frame;refine tk 12 27 ?_;go_frame;refine wpAnyH_ready (rs:=[13]) (by kernel_rfl) (by simp) ?_;refine AllReadyH.cons rfl (fun K hK=>?_) AllReadyH.nil;go_simp;refine (nJ _ _ _ _ _ _ _ _ _ _ _ _ _ g0 g1 g2 g3 g4 g5 f0 f1 f2 f3 f4 f5).mono ?_;rintro e w2 ⟨he,hb2⟩;rw [ha'] at he;subst he;go_wp2_with fail;refine hK.out _ _ (tF hbr hHeld hb2) (fun hHeld=>?_);clear hK K;refine tk 14 29 ?_;go_frame;refine tk 15 30 ?_;go_frame;refine tk 16 31 ?_;go_frame;refine wpAnyH_done (by kernel_rfl) ?_ _;have HB:Below w.heap.size w _:=hB.trans ((((Below.refl wr.heap.size wr).alloc (Nat.le_refl _) _).trans (hHeld.2.2.2.2.2.2.2.2.2.2.2.2.2.2.mono (by omega))).mono hB.size);clear hHeld;go_wp2;go_roundw;case rel=>exact ⟨k + 1,by omega,by go_num,HU,HB⟩
              case measure=>simp [intOf]; omega
            · have hna:ts[m].ahead ts[k]=false:=by simpa using ha
              have ha':dQ ts[m].a ts[m].b ts[m].r ts[m].c ts[m].d ts[m].s ts[k].a ts[k].b ts[k].r ts[k].c ts[k].d ts[k].s=false:=hna;have HT:Hid (dX ts=false):=pO hlt (by rw [HA.out,hna]);clear hok hu HA ha hna;go_wp2_with fail;refine wp_region_held_drew (S:=fun w'=>w'.cell? ⟨wr.heap.size,0,none⟩=some (.string ts[k].a)∧w'.cell? ⟨wr.heap.size,1,none⟩=some (.string ts[k].b)∧w'.cell? ⟨wr.heap.size,2,none⟩=some (.string ts[k].r)∧w'.cell? ⟨wr.heap.size,3,none⟩=some (.string ts[k].c)∧w'.cell? ⟨wr.heap.size,4,none⟩=some (.string ts[k].d)∧w'.cell? ⟨wr.heap.size,5,none⟩=some (.string ts[k].s)∧w'.cell? ⟨b,off + m * 6,none⟩=some (.string ts[m].a)∧w'.cell? ⟨b,off + m * 6 + 1,none⟩=some (.string ts[m].b)∧w'.cell? ⟨b,off + m * 6 + 2,none⟩=some (.string ts[m].r)∧w'.cell? ⟨b,off + m * 6 + 3,none⟩=some (.string ts[m].c)∧w'.cell? ⟨b,off + m * 6 + 4,none⟩=some (.string ts[m].d)∧w'.cell? ⟨b,off + m * 6 + 5,none⟩=some (.string ts[m].s)∧b < w'.heap.size∧wr.heap.size + 1≤w'.heap.size∧Below (wr.heap.size + 1) (wr.alloc (.cells #[.string ts[k].a,.string ts[k].b,.string ts[k].r,.string ts[k].c,.string ts[k].d,.string ts[k].s] 73)) w') (by kernel_rfl) ⟨by simp,by simp,by simp,by simp,by simp,by simp,aP q0 _,aP q1 _,aP q2 _,aP q3 _,aP q4 _,aP q5 _,by simp; omega,by simp,(Below.refl _ _).drew⟩ (fun hHeld=>?_);refine tk 0 15 ?_;go_frame;refine wpAnyH_ready (rs:=[1]) (by kernel_rfl) (by simp) ?_;refine AllReadyH.cons rfl (fun K hK=>?_) AllReadyH.nil;go_simp;refine (bz _ _ _ _ _ _ _ f0 f1 f2 f3 f4 f5).mono ?_;rintro e w1 ⟨he,hb1⟩;rw [hok'] at he;subst he;go_wp2_with fail;refine hK.out _ _ (tF hbr hHeld hb1) (fun hHeld=>?_);clear hK K;refine tk 2 17 ?_;go_frame;refine tk 3 18 ?_;go_frame;refine tk 4 19 ?_;go_frame;refine jk (i:=5) (v:=.bool true) 20 rfl rfl (by kernel_rfl) (by kernel_rfl) (by kernel_rfl) (fun _ _ _ h=>h) (Or.inl ⟨by rfl,?_⟩) (by assumption) ?_
              · intro w hSw; (try dsimp only at hSw); go_simp
              go_frame;refine tk 6 21 ?_;go_frame;refine tk 7 22 ?_;go_frame;refine tk 8 23 ?_;go_frame;refine jk (i:=9) (v:=.int .i64 (m:Int)) 24 rfl rfl (by kernel_rfl) (by kernel_rfl) (by kernel_rfl) (fun _ _ _ h=>h) (Or.inl ⟨by rfl,?_⟩) (by assumption) ?_
              · intro w hSw; (try dsimp only at hSw); go_simp
              go_frame;refine tk 10 25 ?_;go_frame;refine tk 11 26 ?_;go_frame;refine tk 12 27 ?_;go_frame;refine wpAnyH_ready (rs:=[13]) (by kernel_rfl) (by simp) ?_;refine AllReadyH.cons rfl (fun K hK=>?_) AllReadyH.nil;go_simp;refine (nJ _ _ _ _ _ _ _ _ _ _ _ _ _ g0 g1 g2 g3 g4 g5 f0 f1 f2 f3 f4 f5).mono ?_;rintro e w2 ⟨he,hb2⟩;rw [ha'] at he;subst he;go_wp2_with fail;refine hK.out _ _ (tF hbr hHeld hb2) (fun hHeld=>?_);clear hK K;refine tk 14 29 ?_;go_frame;refine tk 15 30 ?_;go_frame;refine tk 16 31 ?_;go_frame;refine wpAnyH_done (by kernel_rfl) ?_ _;have HB:Below w.heap.size w _:=hB.trans ((((Below.refl wr.heap.size wr).alloc (Nat.le_refl _) _).trans (hHeld.2.2.2.2.2.2.2.2.2.2.2.2.2.2.mono (by omega))).mono hB.size);clear hHeld;go_wp2;go_ret;exact ⟨af HT.out.symm,HB⟩
        · have hno:ts[k].ok=false:=by simpa using hok
          have HT:Hid (dX ts=false):=pO hlt (ES hlt hno);have hno':bi ts[k].a ts[k].b ts[k].r ts[k].c ts[k].d ts[k].s=false:=hno;clear hok hno hr hf hu;go_wp2_with fail;refine wp_region_held_drew (S:=fun w'=>w'.cell? ⟨wr.heap.size,0,none⟩=some (.string ts[k].a)∧w'.cell? ⟨wr.heap.size,1,none⟩=some (.string ts[k].b)∧w'.cell? ⟨wr.heap.size,2,none⟩=some (.string ts[k].r)∧w'.cell? ⟨wr.heap.size,3,none⟩=some (.string ts[k].c)∧w'.cell? ⟨wr.heap.size,4,none⟩=some (.string ts[k].d)∧w'.cell? ⟨wr.heap.size,5,none⟩=some (.string ts[k].s)∧wr.heap.size + 1≤w'.heap.size∧Below (wr.heap.size + 1) (wr.alloc (.cells #[.string ts[k].a,.string ts[k].b,.string ts[k].r,.string ts[k].c,.string ts[k].d,.string ts[k].s] 73)) w') (by kernel_rfl) ⟨by simp,by simp,by simp,by simp,by simp,by simp,by simp,(Below.refl _ _).drew⟩ (fun hHeld=>?_);refine tk 0 15 ?_;go_frame;refine wpAnyH_ready (rs:=[1]) (by kernel_rfl) (by simp) ?_;refine AllReadyH.cons rfl (fun K hK=>?_) AllReadyH.nil;go_simp;refine (bz _ _ _ _ _ _ _ f0 f1 f2 f3 f4 f5).mono ?_;rintro e w1 ⟨he,hb1⟩;rw [hno'] at he;subst he;go_wp2_with fail;refine hK.out _ _ (ET (Nat.lt_succ_self _) hHeld hb1) (fun hHeld=>?_);clear hK K;refine tk 2 17 ?_;go_frame;refine tk 3 18 ?_;go_frame;refine jr 4 19 ?_;go_frame;refine jr 5 20 ?_;go_frame;refine jr 6 21 ?_;go_frame;refine jr 7 22 ?_;go_frame;refine jr 8 23 ?_;go_frame;refine jr 9 24 ?_;go_frame;refine jr 10 25 ?_;go_frame;refine jr 11 26 ?_;go_frame;refine jr 12 27 ?_;go_frame;refine jr 13 28 ?_;go_frame;refine jr 14 29 ?_;go_frame;refine jr 15 30 ?_;go_frame;refine tk 16 31 ?_;go_frame;refine wpAnyH_done (by kernel_rfl) ?_ _;have HB:Below w.heap.size w _:=hB.trans ((((Below.refl wr.heap.size wr).alloc (Nat.le_refl _) _).trans (hHeld.2.2.2.2.2.2.2.mono (by omega))).mono hB.size);clear hHeld;go_wp2;go_ret;exact ⟨af HT.out.symm,HB⟩
      · go_wp2;go_ret;exact ⟨af (by have e:k=ts.length:=(by omega);subst e;simp [dX,hu.out]; omega),hB⟩
end Go.Proofs.YtdaoiceeidoehaaGreat
namespace Go.Proofs.YtdaoiceeidoehaaGreat
open Go.ChangeShapes Go.WideShapes Go.ChangeAt Go.RowKit
open Pl
attribute [local go_sem ↓] Go.wp_at_zero Go.wp_at_succ
theorem qZ (ad:Option Addr) (cap:Nat) (w:World) :
  Calls prog 53 #[.slice ad 0 cap] w fun e w'=>e=.returned (.bool (dX []))∧Below w.heap.size w w':=by
 go_enter func53,ntmps53;go_wp2;go_loopw [3] (fun i wr=>∃ k:Nat,k=0∧i=.int .i64 k∧Below w.heap.size w wr) (fun i _=>(intOf i).toNat);case atStart=>exact ⟨0,rfl,rfl,Below.refl _ _⟩
 case round =>
  obtain ⟨k,rfl,rfl,hB⟩:=hrel;go_wp2;go_ret;exact ⟨rfl,hB⟩
theorem q8 (ad:Option Addr) (cap:Nat) (w:World) :
  Calls prog 88 #[.slice ad 0 cap] w fun e w'=>e=.returned (.bool (dX []))∧Below w.heap.size w w':=by
 go_enter func88,ntmps88;go_wp2;go_loopw [10] (fun i wr=>∃ k:Nat,k=0∧i=.int .i64 k∧Below w.heap.size w wr) (fun i _=>(intOf i).toNat);case atStart=>exact ⟨0,rfl,rfl,Below.refl _ _⟩
 case round =>
  obtain ⟨k,rfl,rfl,hB⟩:=hrel;go_wp2;go_ret;exact ⟨rfl,hB⟩
theorem q9 (ad:Option Addr) (cap:Nat) (ts:List Tp) (w:World) (hlen:ts.length≤maxLen) (hs:Sl w ad ts) (hf:∀ t ∈ ts,t.fits) :
  Calls prog 53 #[.slice ad ts.length cap] w fun e w'=>e=.returned (.bool (dX ts))∧Below w.heap.size w w':=by
 rcases hs with rfl | ⟨b,off,rfl,hb,hr⟩
 ·exact qZ ad cap w
 ·exact qL b off cap ts w hlen hr hb hf
theorem rf (ad:Option Addr) (cap:Nat) (ts:List Tp) (w:World) (hlen:ts.length≤maxLen) (hs:Sl w ad ts) (hf:∀ t ∈ ts,t.fits) :
  Calls prog 88 #[.slice ad ts.length cap] w fun e w'=>e=.returned (.bool (dX ts))∧Below w.heap.size w w':=by
 rcases hs with rfl | ⟨b,off,rfl,hb,hr⟩
 ·exact q8 ad cap w
 ·exact qY b off cap ts w hlen hr hb hf
theorem ib (a b:ByteArray) (w:World) :
  Calls prog 69 #[.agg #[.string a,.string b],.agg #[.string a,.string b]] w fun e w'=>e=.returned (.bool true)∧Below w.heap.size w w':=by
 go_enter func69,ntmps69;go_wp2;go_ret;exact ⟨rfl,((Below.refl _ _).alloc (Nat.le_refl _) _).alloc (by simp) _⟩
theorem wK (a b r c d s:ByteArray) (w:World) :
  Calls prog 43 #[.agg #[.string a,.string b,.string r,.string c,.string d,.string s],.agg #[.string a,.string b,.string r,.string c,.string d,.string s]] w fun e w'=>e=.returned (.bool true)∧Below w.heap.size w w':=by
 go_enter func43,ntmps43;go_wp2_with fail;refine (ib _ _ _).mono ?_;rintro e w1 ⟨rfl,hb1⟩;obtain ⟨hc1,hf1⟩:=dH hb1;have hz1:w.heap.size + 1 < w1.heap.size:=by have:=hb1.size; simp at this; omega
 have hy1:w.heap.size < w1.heap.size:=by omega
 have HB1:Below w.heap.size w w1:=(((Below.refl _ _).alloc (Nat.le_refl _) _).alloc (by simp) _).trans (hb1.mono (by simp; omega));go_wp2_with fail;refine (ib _ _ _).mono ?_;rintro e w2 ⟨rfl,hb2⟩;obtain ⟨hc2,hf2⟩:=dH hb2;have hz2:w.heap.size + 1 < w2.heap.size:=by have:=hb2.size; omega
 have hy2:w.heap.size < w2.heap.size:=by omega
 go_wp2;go_ret;exact ⟨rfl,HB1.trans (hb2.mono (by omega))⟩
theorem wL (b b' off off' cap cap':Nat) (ts:List Tp) (w:World) (hlen:ts.length≤maxLen) (hr:uE w b off ts) (hb:b < w.heap.size) (hr':uE w b' off' ts) (hb':b' < w.heap.size) :
  Calls prog 17 #[.slice (some ⟨b,off,none⟩) ts.length cap,.slice (some ⟨b',off',none⟩) ts.length cap'] w fun e w'=>e=.returned (.bool true)∧Below w.heap.size w w':=by
 unfold maxLen at hlen;go_enter func17,ntmps17;go_wp2;go_loopw [5] (fun i wr=>∃ k:Nat,k≤ts.length∧i=.int .i64 k∧Below w.heap.size w wr) (fun i _=>ts.length - (intOf i).toNat);case atStart=>exact ⟨0,Nat.zero_le _,rfl,Below.refl _ _⟩
 case round =>
  obtain ⟨k,hk,rfl,hB⟩:=hrel;by_cases hlt:k < ts.length
  ·obtain ⟨t0,t1,t2,t3,t4,t5⟩:=(hr.below hB hb) k hlt;obtain ⟨q0,q1,q2,q3,q4,q5⟩:=(hr'.below hB hb') k hlt;have hk1:=aY k;have hk2:(k:Int) < (ts.length:Int):=by omega
   clear hr hr';go_wp2_with fail;refine wp_region_held_drew (S:=fun w'=>w'.cell? ⟨b,off + k * 6,none⟩=some (.string ts[k].a)∧w'.cell? ⟨b,off + k * 6 + 1,none⟩=some (.string ts[k].b)∧w'.cell? ⟨b,off + k * 6 + 2,none⟩=some (.string ts[k].r)∧w'.cell? ⟨b,off + k * 6 + 3,none⟩=some (.string ts[k].c)∧w'.cell? ⟨b,off + k * 6 + 4,none⟩=some (.string ts[k].d)∧w'.cell? ⟨b,off + k * 6 + 5,none⟩=some (.string ts[k].s)∧w'.cell? ⟨b',off' + k * 6,none⟩=some (.string ts[k].a)∧w'.cell? ⟨b',off' + k * 6 + 1,none⟩=some (.string ts[k].b)∧w'.cell? ⟨b',off' + k * 6 + 2,none⟩=some (.string ts[k].r)∧w'.cell? ⟨b',off' + k * 6 + 3,none⟩=some (.string ts[k].c)∧w'.cell? ⟨b',off' + k * 6 + 4,none⟩=some (.string ts[k].d)∧w'.cell? ⟨b',off' + k * 6 + 5,none⟩=some (.string ts[k].s)∧b' < w'.heap.size∧w.heap.size≤w'.heap.size∧Below w.heap.size w w') (by kernel_rfl) ⟨t0,t1,t2,t3,t4,t5,q0,q1,q2,q3,q4,q5,Nat.lt_of_lt_of_le hb' hB.size,hB.size,hB.drew⟩ (fun hHeld=>?_);refine tk 0 17 ?_;go_frame;refine tk 1 18 ?_;go_frame;refine tk 2 19 ?_;go_frame;refine tk 3 20 ?_;go_frame;refine tk 4 21 ?_;go_frame;refine tk 5 22 ?_;go_frame;refine tk 6 23 ?_;go_frame;refine tk 7 24 ?_;go_frame;refine wpAnyH_ready (rs:=[8]) (by kernel_rfl) (by simp) ?_;refine AllReadyH.cons rfl (fun K hK=>?_) AllReadyH.nil;go_simp;refine (wK _ _ _ _ _ _ _).mono ?_;rintro e w1 ⟨rfl,hb1⟩;go_wp2_with fail;refine hK.out _ _ (uQ hb hHeld hb1) (fun hHeld=>?_);clear hK K;refine tk 9 26 ?_;go_frame;refine wpAnyH_done (by kernel_rfl) ?_ _;have HB:=hHeld.2.2.2.2.2.2.2.2.2.2.2.2.2.2;clear hHeld;go_wp2;go_roundw;case rel=>exact ⟨k + 1,by omega,by go_num,HB⟩
   case measure=>simp [intOf]; omega
  ·go_wp2;go_ret;exact ⟨rfl,hB⟩
end Go.Proofs.YtdaoiceeidoehaaGreat
