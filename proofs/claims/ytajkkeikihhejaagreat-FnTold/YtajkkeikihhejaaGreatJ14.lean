/- Contract of the document's function on what a relation leans on: the walk. -/
import Derived.Test.YtajkkeikihhejaaGreatSq
import Derived.Test.YtajkkeikihhejaaGreatJ13
import Derived.Test.YtajkkeikihhejaaGreatJ11
open Go.Proofs.Tryz
set_option maxHeartbeats 80000000
namespace Go.Proofs.YtajkkeikihhejaaGreat
open Go.ChangeShapes Go.WideShapes Go.ChangeAt Go.RowKit
open Pl
theorem own_below {w w':af} {base:Nat} {e:TypeId} {size:Nat} {v:Value} {n:Nat} {xs:List Value} (h:w.ownsRow base e size v n xs) (hB:ag w w'):w'.ownsRow base e size v n xs:=by
 have hg:w.grownBy w' none:=⟨hB.os,hB.tape,hB.output,hB.size,fun k hk _=>hB.block k hk⟩;cases ho:v.ownBlock with
 | none=>exact h.kept hg (.inl ho)
 | some g=>exact h.kept hg (.inr (by rw [ho]; simp))
theorem qB {w w':af} {v v':Value} {g o:Nat} {u:Value} (h:Aside w v w' v') (hg:g < w.heap.size) (hv:v.ownBlock ≠ some g) (hc:w.cell? ⟨g,o,none⟩=some u):w'.cell? ⟨g,o,none⟩=some u:=(h.cell (p:=⟨g,o,none⟩) hg hv).trans hc
theorem FM (es:List Ex) (m:Nat) (out:List Bool):(dV es m out).length=out.length:=by
 induction m generalizing out with
 | zero=>rfl
 | succ m ih =>
  simp only [dV];rw [ih];split
  ·rfl
  exact xH _ _ _ _ _
theorem FN (es:List Ex):(dz es).length=es.length:=by unfold dz; rw [FM]; simp
theorem FO (ts:List Ty) (typ:bH) (rows:List ER) (k:Nat) (h:k < rows.length) (ng:Bool) (hn:ng=(dz (ak rows)).getD k false):aN ts typ (ak rows) (k + 1)=(aN ts typ (ak rows) k ++ dh ng rows[k].e.allow) ++ kP ts typ ng rows[k].e:=by
 have e:(ak rows)[k]?=some rows[k].e:=by simp [ak,h]
 show aN ts typ (ak rows) k ++ ik ts typ (ak rows) k=_;unfold ik;rw [e,hn,List.append_assoc]
set_option maxRecDepth 100000 in
theorem IC (ad UD:Option Addr) (cap capE:Nat) (rs:List TR) (typ:bH) (rows:List ER) (w:af) (hlen:rs.length≤1048576) (hs:kX w ad rs) (hl:∀ r ∈ rs,r.light) (hle:rows.length≤15) (hse:iH w UD rows) (ZU:∀ q ∈ rows,q.e.light) (hkE:∀ q ∈ rows,dW rows.length q.e.kids)
    (hsm:∀ k,(aN (ae rs) typ (ak rows) k).length≤100000000) :
    Calls prog 139 #[.slice ad rs.length cap,.string typ,.slice UD rows.length capE] w fun e w'=>(∃ v,e=.returned v∧w'.ownsRow w.heap.size 220 3 v (pR (ae rs) typ (ak rows)).length (eB (pR (ae rs) typ (ak rows))))∧ag w w':=by
  have HS:=az hs;have HL:=az hl;have HE:=az hse;have Vl:=az ZU;have Y6:=az hkE;have ZT:Hid (∀ k,(aN (ae rs) typ (ak rows) k).length≤100000000):=hsm;clear hs hl hse ZU hkE hsm;obtain ⟨i0,hi,hz0,hz1,hz2⟩:=info_parts NW;go_enter func139,ntmps139;go_wp2_with fail;have Zn:ag w (w.alloc (.cells #[] 220)):=(TT _ _).alloc (TS _) _;have hown1:(w.alloc (.cells #[] 220)).ownsRow w.heap.size 220 3 (.slice (some ⟨w.heap.size,0,none⟩) 0 0) 0 []:=World.ownsRow_made w #[] 0 (TS _) (by decide) rfl;refine (Lj UD capE rows _ (by omega) (HE.out.below Zn) Vl.out Y6.out).mono ?_;rintro e w1 ⟨rfl,hF⟩;have UV:Hid (w1.ownsRow w.heap.size 220 3 (.slice (some ⟨w.heap.size,0,none⟩) 0 0) 0 []):=own_below hown1 hF.below;have HB1:Hid (ag w w1):=Zn.trans (hF.below.mono (by simp));have hgN:(w.alloc (.cells #[] 220)).heap.size=w.heap.size + 1:=by simp
  rw [hgN] at hF ⊢;have hgl:=hF.lt;have HNG:Hid (∀ (j:Nat) (h:j < rows.length),w1.cell? ⟨w.heap.size + 1,j,none⟩=some (.bool ((dz (ak rows)).getD j false))):=by
    intro j hj;have hn:j < (dz (ak rows)).length:=by rw [FN,aT]; exact hj
    have:=hF.done j (by simpa [bools] using hn);rw [this];simp [bools,hn]
  clear hF hown1 Zn hgN;obtain ⟨gN,hgN⟩:∃ gN,gN=w.heap.size + 1:=⟨_,rfl⟩;rw [← hgN] at hgl HNG ⊢;have hgne:w.heap.size < gN:=by omega
  clear hgN;go_wp2_with fail;go_loopw [7,9] (fun v i wr=>∃ k:Nat,k≤rows.length∧i=.int .i64 k∧Hid (wr.ownsRow w.heap.size 220 3 v (aN (ae rs) typ (ak rows) k).length (eB (aN (ae rs) typ (ak rows) k)))∧Hid (ag w wr)∧Hid (Aside w1 (.slice (some ⟨w.heap.size,0,none⟩) 0 0) wr v)) (fun _ i _=>rows.length - (intOf i).toNat);case atStart=>exact ⟨0,TW _,rfl,UV,HB1,Aside.refl _ _⟩
  obtain ⟨k,hk,rfl,HOW,HB,HAS⟩:=hrel;by_cases hlt:k < rows.length
  · rcases HE.out.below HB.out with rfl | ⟨b,off,rfl,hb,hr,hok⟩
    · simp at hlt
    obtain ⟨t0,t1,t2,t3,t4⟩:=hr k hlt;have VF:Hid (rows[k].ok w):=HE.out.mem (TQ hlt);have lg:=(Vl.out rows[k] (TQ hlt)).1;have hk1:=bB k;have hk2:(k:Int) < (rows.length:Int):=by omega
    have c0:wr.cell? ⟨gN,k,none⟩=some (.bool ((dz (ak rows)).getD k false)):=(HAS.out.cell (p:=⟨gN,k,none⟩) hgl (by simp [Value.ownBlock]; omega)).trans (HNG.out k hlt);clear hr hok;obtain ⟨ng,ZV⟩:∃ ng,ng=(dz (ak rows)).getD k false:=⟨_,rfl⟩;rw [← ZV] at c0;have HNK:Hid (ng=(dz (ak rows)).getD k false):=ZV;clear ZV;obtain ⟨W1,hW1⟩:∃ W1,W1=wr.alloc (.cells #[.int .i64 rows[k].e.kind,.slice rows[k].adA rows[k].e.allow.length rows[k].capA,.string rows[k].e.over,.string rows[k].e.name,.slice rows[k].adK rows[k].e.kids.length rows[k].capK] 39):=⟨_,rfl⟩;have hal:ag wr W1:=by rw [hW1]; exact (TT _ _).alloc (TS _) _
    have UO:=az hal;have UG:=jP HB hal;have WA:wr.heap.size < W1.heap.size:=by rw [hW1]; simp
    have g0:W1.cell? ⟨wr.heap.size,0,none⟩=some (.int .i64 rows[k].e.kind):=by rw [hW1]; simp
    have g1:W1.cell? ⟨wr.heap.size,1,none⟩=some (.slice rows[k].adA rows[k].e.allow.length rows[k].capA):=by rw [hW1]; simp
    have g2:W1.cell? ⟨wr.heap.size,2,none⟩=some (.string rows[k].e.over):=by rw [hW1]; simp
    have g3:W1.cell? ⟨wr.heap.size,3,none⟩=some (.string rows[k].e.name):=by rw [hW1]; simp
    have hgr:gN < wr.heap.size:=TP hgl HAS.out.size;have gn:=aG hal hgr c0;have WG:Hid (W1.ownsRow w.heap.size 220 3 u7 (aN (ae rs) typ (ak rows) k).length (eB (aN (ae rs) typ (ak rows) k))):=own_below HOW.out hal;have HV1:Hid (u7.ownBlock ≠ some gN):=HAS.out.apart hgl (by simp [Value.ownBlock]; omega);have Y7:Hid (u7.ownBlock ≠ some wr.heap.size):=fun e=>by have:=(HOW.out.lt _ e).2; omega
    clear hal c0;go_wp2_with fail;rw [← hW1];clear hW1 t0 t1 t2 t3 t4;obtain ⟨wo,hwo⟩:∃ wo,wo=wr:=⟨_,rfl⟩;subst hwo;go_loopw [7,11] (fun v i w2=>∃ j:Nat,j≤rows[k].e.allow.length∧i=.int .i64 j∧Hid (w2.ownsRow w.heap.size 220 3 v ((aN (ae rs) typ (ak rows) k).length + (dh ng (rows[k].e.allow.take j)).length) (eB (aN (ae rs) typ (ak rows) k ++ dh ng (rows[k].e.allow.take j))))∧Hid (ag w w2)∧Hid (Aside W1 u7 w2 v)) (fun _ i _=>rows[k].e.allow.length - (intOf i).toNat);case atStart=>exact ⟨0,TW _,rfl,(by simpa [dh,Hid] using WG),UG,Aside.refl _ _⟩
    obtain ⟨j,hj,rfl,UB,HB2,HA2⟩:=hrel;have d0:=qB HA2.out WA Y7.out g0;have d1:=qB HA2.out WA Y7.out g1;have d2:=qB HA2.out WA Y7.out g2;have d3:=qB HA2.out WA Y7.out g3;have dn:=qB HA2.out (Nat.lt_trans hgr WA) HV1.out gn;clear g0 g1 g2 g3 gn;by_cases hjl:j < rows[k].e.allow.length
    · have hA3:=(VF.out.1).below HB2.out;have hA4:=VF.out.1;rcases hA4 with hnil | ⟨ba,Wx,Wy,Yq,-⟩
      · rw [hnil] at hjl; simp at hjl
      rcases hA3 with hnil | ⟨ba',offa',Yr,-,hra⟩
      · rw [hnil] at hjl; simp at hjl
      rw [Wy] at Yr d1;injection Yr with Yr; injection Yr with e1 e2;subst e1; subst e2;obtain ⟨q0,q1⟩:=hra j hjl;have hj1:=bB j;have hj2:(j:Int) < (rows[k].e.allow.length:Int):=by omega
      clear hra Wy;cases he:rows[k].e.allow[j].s.toList.isEmpty;case true=>
        have HE2:Hid (dh ng (rows[k].e.allow.take (j + 1))=dh ng (rows[k].e.allow.take j)):=NV _ _ _ hjl he;go_wp2;go_roundw;case rel=>exact ⟨j + 1,by omega,by go_num,by rw [HE2.out]; exact UB,HB2,HA2⟩
        simp [intOf] <;> omega
      have HE2:Hid (dh ng (rows[k].e.allow.take (j + 1))=dh ng (rows[k].e.allow.take j) ++ [⟨rows[k].e.allow[j].t,rows[k].e.allow[j].s,ng⟩]):=Ll _ _ _ hjl he;have a1:u7.ownBlock ≠ some wo.heap.size:=HA2.out.apart WA Y7.out;have a2:u7.ownBlock ≠ some gN:=HA2.out.apart (Nat.lt_trans hgr WA) HV1.out;have a3:u7.ownBlock ≠ some ba:=fun e=>by have:=(UB.out.lt _ e).1; omega
      have l1:wo.heap.size < wr.heap.size:=TP WA HA2.out.size;have l2:gN < wr.heap.size:=Nat.lt_trans hgr l1;have l3:ba < wr.heap.size:=TP Yq HB2.out.size;have l4:w.heap.size≤wr.heap.size:=HB2.out.size;obtain ⟨xs,hxs⟩:∃ xs,xs=eB (aN (ae rs) typ (ak rows) k ++ dh ng (rows[k].e.allow.take j)):=⟨_,rfl⟩;obtain ⟨n,hn⟩:∃ n,n=(aN (ae rs) typ (ak rows) k).length + (dh ng (rows[k].e.allow.take j)).length:=⟨_,rfl⟩;have hnl:n≤101048576:=by
        have h1:=ZT.out k;have h2:=Cz ng (rows[k].e.allow.take j);rw [Ut] at h2;omega
      have hown:=UB.out;rw [← hxs,← hn] at hown;have Wq:Hid (eB (aN (ae rs) typ (ak rows) k ++ dh ng (rows[k].e.allow.take (j + 1)))=xs ++ [.string rows[k].e.allow[j].t,.string rows[k].e.allow[j].s,.bool ng]):=by
        show _=_;rw [HE2.out,← List.append_assoc,sS,← hxs]; rfl
      have WC:Hid ((aN (ae rs) typ (ak rows) k).length + (dh ng (rows[k].e.allow.take (j + 1))).length=n + 1):=by
        show _=_;rw [HE2.out,hn]; simp; omega
      clear UB hxs hn;go_wp2_with fail
      go_region_held3 (fun w'=>w'.cell? ⟨wo.heap.size,1,none⟩=some (.slice (some ⟨ba,Wx,none⟩) rows[k].e.allow.length rows[k].capA)∧w'.cell? ⟨ba,Wx + j * 2,none⟩=some (.string rows[k].e.allow[j].t) ∧
          w'.cell? ⟨ba,Wx + j * 2 + 1,none⟩=some (.string rows[k].e.allow[j].s)∧w'.cell? ⟨gN,k,none⟩=some (.bool ng))
        (first
          | go_keep
          | (go_split_ands
             refine ⟨?_,?_,?_,?_⟩
             · (rw [hgrow.cell_far _ (by simp; omega) (Ne.symm a1)]; assumption)
             · (rw [hgrow.cell_far _ (by simp; omega) (Ne.symm a3)]; assumption)
             · (rw [hgrow.cell_far _ (by simp; omega) (Ne.symm a3)]; assumption)
             · (rw [hgrow.cell_far _ (by simp; omega) (Ne.symm a2)]; assumption)))
        ((refine step_append_lies _ (by rfl) _ _ _ (by rfl) w.heap.size 220 i0 _ 3 40 underlying216 hi hz0 hz1 hz2 rfl (by omega) u7 n xs (by rfl) ((hown.alloc _).drew)
            ⟨wr.heap.size,0,none⟩ 1 1 [.string rows[k].e.allow[j].t,.string rows[k].e.allow[j].s,.bool ng] (by rfl) (by rfl) (World.news_of_block (cs:=#[.string rows[k].e.allow[j].t,.string rows[k].e.allow[j].s,.bool ng]) (t:=220) (fr:=(0,0)) (heap_alloc_new wr _)) (by simp [Value.oneCell'])
            (by omega) (by unfold maxLen; omega) (by omega) (by simp; omega) (wr.heap.size + 1) (by simp) ?_; intro gg cp w5 hown5 hgrow hat hlt5))
      have hb5:Hid (ag w w5):=((HB2.out.alloc HB2.out.size _).drew).grown hgrow (by simp; omega) (fun i hi=>(hown.lt i hi).1);have hAx:Aside wr u7 w5 (.slice (some ⟨gg,0,none⟩) (n + 1) cp):=(Aside.below (((TT _ _).alloc (TS _) _).drew)).trans (Aside.app hgrow (by
        rcases hat with e | e
        · left; rw [e]; rfl
        · right; rw [e]; simp [Value.ownBlock]))
      have HA5:=HA2.out.trans hAx;have HA5':Hid (Aside W1 _ w5 (.slice (some ⟨gg,0,none⟩) (n + 1) cp)):=HA5;have UK:Hid (w5.ownsRow w.heap.size 220 3 (.slice (some ⟨gg,0,none⟩) (n + 1) cp) ((aN (ae rs) typ (ak rows) k).length + (dh ng (rows[k].e.allow.take (j + 1))).length) (eB (aN (ae rs) typ (ak rows) k ++ dh ng (rows[k].e.allow.take (j + 1))))):=by
        show World.ownsRow _ _ _ _ _ _ _;rw [Wq.out,WC.out]; exact hown5
      clear hown5 hgrow hat hAx HA5 hown;go_wp2;go_roundw;case rel=>exact ⟨j + 1,by omega,by go_num,UK,hb5,HA5'⟩
      simp [intOf] <;> omega
    · obtain rfl:j=rows[k].e.allow.length:=by omega
      have a1:u7.ownBlock ≠ some wo.heap.size:=HA2.out.apart WA Y7.out;have a2:u7.ownBlock ≠ some gN:=HA2.out.apart (Nat.lt_trans hgr WA) HV1.out;have l1:wo.heap.size < wr.heap.size:=TP WA HA2.out.size;have l2:gN < wr.heap.size:=Nat.lt_trans hgr l1;have l4:w.heap.size≤wr.heap.size:=HB2.out.size;have HUS:=FO (ae rs) typ rows k hlt ng HNK.out;obtain ⟨D,hD⟩:∃ D,D=aN (ae rs) typ (ak rows) k ++ dh ng rows[k].e.allow:=⟨_,rfl⟩;have hown:wr.ownsRow w.heap.size 220 3 u7 D.length (eB D):=by
        have:=UB.out;rw [Ug,← hD,← T9,← hD] at this;exact this
      rw [← hD] at HUS;have hnl:D.length≤100000000:=by
        have h1:=ZT.out (k + 1);rw [HUS,T9] at h1;omega
      have HUP:Hid (aN (ae rs) typ (ak rows) (k + 1)=D ++ kP (ae rs) typ ng rows[k].e):=HUS;have ZN:Hid (Aside w1 (.slice (some ⟨w.heap.size,0,none⟩) 0 0) wr u7):=(HAS.out.trans (Aside.below UO.out)).trans HA2.out;clear UB HUS hD;by_cases h2:rows[k].e.kind=2
      · have Wq:Hid (aN (ae rs) typ (ak rows) (k + 1)=D ++ [⟨typ,rows[k].e.name,ng⟩]):=by show _=_; rw [HUP.out]; simp [kP,h2]
        obtain ⟨xs,hxs⟩:∃ xs,xs=eB D:=⟨_,rfl⟩;obtain ⟨n,hn⟩:∃ n,n=D.length:=⟨_,rfl⟩;rw [← hxs,← hn] at hown;rw [← hn] at hnl;have HFX:Hid (eB (aN (ae rs) typ (ak rows) (k + 1))=xs ++ [.string typ,.string rows[k].e.name,.bool ng]):=by
          show _=_;rw [Wq.out,sS,← hxs]; rfl
        have WC:Hid ((aN (ae rs) typ (ak rows) (k + 1)).length=n + 1):=by show _=_; rw [Wq.out,hn]; simp
        clear hxs hn;go_wp2_with fail
        go_region_held3 (fun w'=>w'.cell? ⟨wo.heap.size,3,none⟩=some (.string rows[k].e.name)∧w'.cell? ⟨gN,k,none⟩=some (.bool ng))
          (first
            | go_keep
            | (go_split_ands
               refine ⟨?_,?_⟩
               · (rw [hgrow.cell_far _ (by simp; omega) (Ne.symm a1)]; assumption)
               · (rw [hgrow.cell_far _ (by simp; omega) (Ne.symm a2)]; assumption)))
          ((refine step_append_lies _ (by rfl) _ _ _ (by rfl) w.heap.size 220 i0 _ 3 40 underlying216 hi hz0 hz1 hz2 rfl (by omega) u7 n xs (by rfl) ((hown.alloc _).drew)
              ⟨wr.heap.size,0,none⟩ 1 1 [.string typ,.string rows[k].e.name,.bool ng] (by rfl) (by rfl) (World.news_of_block (cs:=#[.string typ,.string rows[k].e.name,.bool ng]) (t:=220) (fr:=(0,0)) (heap_alloc_new wr _)) (by simp [Value.oneCell'])
              (by omega) (by unfold maxLen; omega) (by omega) (by simp; omega) (wr.heap.size + 1) (by simp) ?_; intro gg cp w5 hown5 hgrow hat hlt5))
        have hb5:Hid (ag w w5):=((HB2.out.alloc HB2.out.size _).drew).grown hgrow (by simp; omega) (fun i hi=>(hown.lt i hi).1);have hAx:Aside wr u7 w5 (.slice (some ⟨gg,0,none⟩) (n + 1) cp):=(Aside.below (((TT _ _).alloc (TS _) _).drew)).trans (Aside.app hgrow (by
          rcases hat with e | e
          · left; rw [e]; rfl
          · right; rw [e]; simp [Value.ownBlock]))
        have f0:=qB hAx l1 a1 d0;have HA5:Hid (Aside w1 (.slice (some ⟨w.heap.size,0,none⟩) 0 0) w5 (.slice (some ⟨gg,0,none⟩) (n + 1) cp)):=ZN.out.trans hAx;have UK:Hid (w5.ownsRow w.heap.size 220 3 (.slice (some ⟨gg,0,none⟩) (n + 1) cp) (aN (ae rs) typ (ak rows) (k + 1)).length (eB (aN (ae rs) typ (ak rows) (k + 1)))):=by
          show World.ownsRow _ _ _ _ _ _ _;rw [HFX.out,WC.out]; exact hown5
        clear hown5 hgrow hat hAx hown d0 d1 d2 d3 dn;go_wp2;go_roundw;case rel=>exact ⟨k + 1,by omega,by go_num,UK,hb5,HA5⟩
        simp [intOf] <;> omega
      by_cases h3:rows[k].e.kind=3
      · go_wp2_with fail;refine (xE ad cap rs _ _ _ _ hlen (HS.out.below HB2.out) HL.out).mono ?_;rintro e w4 ⟨⟨ad4,cap4,rfl,hs4,hn4⟩,hb4⟩;have HXG:Hid (aN (ae rs) typ (ak rows) (k + 1)=D ++ (ig (ae rs) typ rows[k].e.over rows[k].e.name).map fun g=>(⟨g,rows[k].e.name,ng⟩:Dp)):=by show _=_; rw [HUP.out]; simp [kP,h3]
        generalize ig (ae rs) typ rows[k].e.over rows[k].e.name=gs at *
        have hgs:D.length + gs.length≤100000000:=by
          have h1:=ZT.out (k + 1);rw [HXG.out,T9,Uy] at h1;exact h1
        have f3:=aG hb4 l1 d3;have fn:=aG hb4 l2 dn;have UT:Hid (w4.ownsRow w.heap.size 220 3 u7 D.length (eB D)):=own_below hown hb4;have Vk:=jP HB2 hb4;have HA4:Hid (Aside w1 (.slice (some ⟨w.heap.size,0,none⟩) 0 0) w4 u7):=ZN.out.trans (Aside.below hb4);have HSG:=az hs4;have HVG:Hid (∀ p,ad4=some p→u7.ownBlock ≠ some p.block):=fun p hp e=>by have h1:=(hown.lt _ e).2; have h2:=hn4 p hp; omega
        have m1:wo.heap.size < w4.heap.size:=TP l1 hb4.size;have m2:gN < w4.heap.size:=TP l2 hb4.size;have m4:w.heap.size≤w4.heap.size:=Vk.out.size;clear hown hb4 hs4 hn4 d0 d1 d2 d3 dn l1 l2 l4;obtain ⟨uo,huo⟩:∃ uo,uo=u7:=⟨_,rfl⟩;subst huo;go_wp2_with fail;go_loopw [7,13] (fun v i w6=>∃ m:Nat,m≤gs.length∧i=.int .i64 m∧Hid (w6.ownsRow w.heap.size 220 3 v (D.length + m) (eB (D ++ (gs.take m).map fun g=>(⟨g,rows[k].e.name,ng⟩:Dp))))∧Hid (ag w w6)∧Hid (Aside w4 uo w6 v)) (fun _ i _=>gs.length - (intOf i).toNat);case atStart=>exact ⟨0,TW _,rfl,(by simpa [Hid] using UT),Vk,Aside.refl _ _⟩
        obtain ⟨m,hm,rfl,Vj,WS,Yt⟩:=hrel;have x3:=qB Yt.out m1 a1 f3;have xn:=qB Yt.out m2 a2 fn;by_cases U6:m < gs.length
        · rcases HSG.out with rfl | ⟨bg,offg,rfl,hbg,hrg⟩
          · simp at U6
          have q0:=qB Yt.out hbg (HVG.out _ rfl) (hrg m U6);have hm1:=bB m;have hm2:(m:Int) < (gs.length:Int):=by omega
          have b1:u7.ownBlock ≠ some wo.heap.size:=Yt.out.apart m1 a1;have b2:u7.ownBlock ≠ some gN:=Yt.out.apart m2 a2;have b3:u7.ownBlock ≠ some bg:=Yt.out.apart hbg (HVG.out _ rfl);have l1:wo.heap.size < wr.heap.size:=TP m1 Yt.out.size;have l2:gN < wr.heap.size:=TP m2 Yt.out.size;have l3:bg < wr.heap.size:=TP hbg Yt.out.size;have l4:w.heap.size≤wr.heap.size:=WS.out.size;obtain ⟨xs,hxs⟩:∃ xs,xs=eB (D ++ (gs.take m).map fun g=>(⟨g,rows[k].e.name,ng⟩:Dp)):=⟨_,rfl⟩;obtain ⟨n,hn⟩:∃ n,n=D.length + m:=⟨_,rfl⟩;have hown:=Vj.out;rw [← hxs,← hn] at hown;have HFX:Hid (eB (D ++ (gs.take (m + 1)).map fun g=>(⟨g,rows[k].e.name,ng⟩:Dp))=xs ++ [.string gs[m],.string rows[k].e.name,.bool ng]):=by
            show _=_;rw [TV U6,List.map_append,← List.append_assoc,List.map_singleton,sS,← hxs]; rfl
          have WC:Hid (D.length + (m + 1)=n + 1):=by show _=_; omega
          have hnl2:n≤100000000:=by omega
          have hgb:gs.length≤100000000:=by omega
          clear Vj hxs hn hrg hnl hgs;go_wp2_with fail
          go_region_held3 (fun w'=>w'.cell? ⟨wo.heap.size,3,none⟩=some (.string rows[k].e.name)∧w'.cell? ⟨gN,k,none⟩=some (.bool ng)∧w'.cell? ⟨bg,offg + m,none⟩=some (.string gs[m]))
            (first
              | go_keep
              | (go_split_ands
                 refine ⟨?_,?_,?_⟩
                 · (rw [hgrow.cell_far _ (by simp; omega) (Ne.symm b1)]; assumption)
                 · (rw [hgrow.cell_far _ (by simp; omega) (Ne.symm b2)]; assumption)
                 · (rw [hgrow.cell_far _ (by simp; omega) (Ne.symm b3)]; assumption)))
            ((refine step_append_lies _ (by rfl) _ _ _ (by rfl) w.heap.size 220 i0 _ 3 40 underlying216 hi hz0 hz1 hz2 rfl (by omega) u7 n xs (by rfl) ((hown.alloc _).drew)
                ⟨wr.heap.size,0,none⟩ 1 1 [.string gs[m],.string rows[k].e.name,.bool ng] (by rfl) (by rfl) (World.news_of_block (cs:=#[.string gs[m],.string rows[k].e.name,.bool ng]) (t:=220) (fr:=(0,0)) (heap_alloc_new wr _)) (by simp [Value.oneCell'])
                (by omega) (by unfold maxLen; omega) (by omega) (by simp; omega) (wr.heap.size + 1) (by simp) ?_; intro gg cp w5 hown5 hgrow hat hlt5))
          have hb5:Hid (ag w w5):=((WS.out.alloc WS.out.size _).drew).grown hgrow (by simp; omega) (fun i hi=>(hown.lt i hi).1);have hAx:Aside wr u7 w5 (.slice (some ⟨gg,0,none⟩) (n + 1) cp):=(Aside.below (((TT _ _).alloc (TS _) _).drew)).trans (Aside.app hgrow (by
            rcases hat with e | e
            · left; rw [e]; rfl
            · right; rw [e]; simp [Value.ownBlock]))
          have HA5:Hid (Aside w4 uo w5 (.slice (some ⟨gg,0,none⟩) (n + 1) cp)):=Yt.out.trans hAx;have UK:Hid (w5.ownsRow w.heap.size 220 3 (.slice (some ⟨gg,0,none⟩) (n + 1) cp) (D.length + (m + 1)) (eB (D ++ (gs.take (m + 1)).map fun g=>(⟨g,rows[k].e.name,ng⟩:Dp)))):=by
            show World.ownsRow _ _ _ _ _ _ _;rw [HFX.out,WC.out]; exact hown5
          clear hown5 hgrow hat hAx hown;go_wp2;go_roundw;case rel=>exact ⟨m + 1,by omega,by go_num,UK,hb5,HA5⟩
          simp [intOf] <;> omega
        · obtain rfl:m=gs.length:=by omega
          have UK:Hid (wr.ownsRow w.heap.size 220 3 u7 (aN (ae rs) typ (ak rows) (k + 1)).length (eB (aN (ae rs) typ (ak rows) (k + 1)))):=by
            have:=Vj.out;show World.ownsRow _ _ _ _ _ _ _;rw [Ug] at this;rw [HXG.out,T9,Uy];exact this
          have HA5:Hid (Aside w1 (.slice (some ⟨w.heap.size,0,none⟩) 0 0) wr u7):=HA4.out.trans Yt.out;clear Vj;go_wp2;go_roundw;case rel=>exact ⟨k + 1,by omega,by go_num,UK,WS,HA5⟩
          simp [intOf] <;> omega
      · have Wq:Hid (aN (ae rs) typ (ak rows) (k + 1)=D):=by show _=_; rw [HUP.out]; simp [kP,h2,h3]
        have hb2:(rows[k].e.kind == 2)=false:=by simpa using h2
        have hb3:(rows[k].e.kind == 3)=false:=by simpa using h3
        have UK:Hid (wr.ownsRow w.heap.size 220 3 u7 (aN (ae rs) typ (ak rows) (k + 1)).length (eB (aN (ae rs) typ (ak rows) (k + 1)))):=by
          show World.ownsRow _ _ _ _ _ _ _;rw [Wq.out]; exact hown
        clear hown;go_wp2;go_roundw;case rel=>exact ⟨k + 1,by omega,by go_num,UK,HB2,ZN⟩
        simp [intOf] <;> omega
  · obtain rfl:k=rows.length:=by omega
    have HFI:Hid (wr.ownsRow w.heap.size 220 3 u7 (pR (ae rs) typ (ak rows)).length (eB (pR (ae rs) typ (ak rows)))):=by
      have:=HOW.out;show World.ownsRow _ _ _ _ _ _ _;unfold pR;rw [aT];exact this
    clear HOW;go_wp2;go_ret;exact ⟨⟨_,rfl,HFI.out⟩,HB.out⟩
def St.cells (s:St):List Value:=[.string s.typ,.string s.rel,.int .i64 s.n]
def iG:List St→List Value
 | []=>[]
 | s::xs=>s.cells ++ iG xs
theorem Ei (xs ys:List St):iG (xs ++ ys)=iG xs ++ iG ys:=by
 induction xs with
 | nil=>rfl
 | cons d ds ih=>simp [iG,ih]
theorem zH (xs:List St) (d:St):iG (xs ++ [d])=iG xs ++ d.cells:=by rw [Ei]; simp [iG]
theorem lw (xs:List St) (i:Nat) (h:i < xs.length) (o:Nat) (ho:o < 3):(iG xs)[i * 3 + o]?=(xs[i].cells)[o]?:=by
 induction xs generalizing i with
 | nil=>simp at h
 | cons s xs ih =>
  cases i with
  | zero =>
   simp only [iG,Nat.zero_mul,Um,List.getElem_cons_zero];rw [List.getElem?_append_left (by simp [St.cells]; omega)]
  | succ i =>
   simp only [iG,List.getElem_cons_succ];rw [List.getElem?_append_right (by simp [St.cells]; omega)];have e:(i + 1) * 3 + o - s.cells.length=i * 3 + o:=by simp [St.cells]; omega
   rw [e];exact ih i (by simpa using h)
theorem wu (xs:List Dp) (i:Nat) (h:i < xs.length) (o:Nat) (ho:o < 3):(eB xs)[i * 3 + o]?=(xs[i].cells)[o]?:=by
 induction xs generalizing i with
 | nil=>simp at h
 | cons s xs ih =>
  cases i with
  | zero =>
   simp only [eB,Nat.zero_mul,Um,List.getElem_cons_zero];rw [List.getElem?_append_left (by simp [Dp.cells]; omega)]
  | succ i =>
   simp only [eB,List.getElem_cons_succ];rw [List.getElem?_append_right (by simp [Dp.cells]; omega)];have e:(i + 1) * 3 + o - s.cells.length=i * 3 + o:=by simp [Dp.cells]; omega
   rw [e];exact ih i (by simpa using h)
theorem FP (g j:Nat):(⟨g,0,none⟩:Addr).add j=⟨g,j,none⟩:=by
 unfold Addr.add;by_cases hj:j=0
 ·subst hj; simp
 simp [hj]
theorem Qr {w:af} {base:Nat} {t:TypeId} {v:Value} {n:Nat} {xs:List Value} (h:w.ownsRow base t 3 v n xs):∃ ad cp,v=.slice ad n cp∧(n=0 ∨ ∃ g,ad=some ⟨g,0,none⟩∧base≤g∧g < w.heap.size∧∀ (j:Nat) (u:Value),xs[j]?=some u→w.cell? ⟨g,j,none⟩=some u):=by
 have h2:=h;rcases h.2 with ⟨rfl,h0⟩ | ⟨g,cp,cur,rfl,hbg,hg,hnc,-⟩
 ·exact ⟨none,0,by rw [h0],.inl h0⟩
 have hlt:=h2.lt g rfl;refine ⟨_,cp,rfl,.inr ⟨g,rfl,hlt.1,hlt.2,fun j u hu=>?_⟩⟩;have:=h2.cells (g:=g) rfl j u hu;rwa [FP] at this
def AtD (w:World) (b off:Nat) (d:Dp):Prop:=w.cell? ⟨b,off,none⟩=some (.string d.typ)∧w.cell? ⟨b,off + 1,none⟩=some (.string d.rel)∧w.cell? ⟨b,off + 2,none⟩=some (.bool d.neg)
def Rt (w:World) (lo:Nat) (ad:Option Addr) (xs:List Dp):Prop:=xs=[] ∨ ∃ b,ad=some ⟨b,0,none⟩∧lo≤b∧b < w.heap.size∧∀ (i:Nat) (h:i < xs.length),AtD w b (i * 3) xs[i]
theorem Tm {w:af} {base:Nat} {v:Value} {xs:List Dp} (h:w.ownsRow base 220 3 v xs.length (eB xs)):∃ ad cp,v=.slice ad xs.length cp∧Rt w base ad xs:=by
 obtain ⟨ad,cp,e,h0⟩:=Qr h;refine ⟨ad,cp,e,?_⟩;rcases h0 with h0 | ⟨g,e1,hb,hg,hc⟩
 ·exact .inl (Ui.1 h0)
 refine .inr ⟨g,e1,hb,hg,fun i hi=>⟨?_,?_,?_⟩⟩
 ·exact hc _ _ (by have:=wu xs i hi 0 (by omega); simpa [Dp.cells] using this)
 ·exact hc _ _ (by have:=wu xs i hi 1 (by omega); simpa [Dp.cells] using this)
 exact hc _ _ (by have:=wu xs i hi 2 (by omega); simpa [Dp.cells] using this)
def TF (w:World) (g:Nat) (xs:List St):Prop:=∀ (i:Nat) (h:i < xs.length),SY w g (i * 3) xs[i]
theorem Tn {w:af} {base:Nat} {v:Value} {xs:List St} (h:w.ownsRow base 162 3 v xs.length (iG xs)):∃ ad cp,v=.slice ad xs.length cp∧(xs.length=0 ∨ ∃ g,ad=some ⟨g,0,none⟩∧base≤g∧g < w.heap.size∧TF w g xs):=by
 obtain ⟨ad,cp,e,h0⟩:=Qr h;refine ⟨ad,cp,e,?_⟩;rcases h0 with h0 | ⟨g,e1,hb,hg,hc⟩
 ·exact .inl h0
 refine .inr ⟨g,e1,hb,hg,fun i hi=>⟨?_,?_,?_⟩⟩
 ·exact hc _ _ (by have:=lw xs i hi 0 (by omega); simpa [St.cells] using this)
 ·exact hc _ _ (by have:=lw xs i hi 1 (by omega); simpa [St.cells] using this)
 exact hc _ _ (by have:=lw xs i hi 2 (by omega); simpa [St.cells] using this)
theorem Qs:(prog.info? 162).map (fun i=>(i.zero,i.size,i.bytes))=some (some (.agg #[.string ⟨#[]⟩,.string ⟨#[]⟩,.int .i64 0]),3,40):=by kernel_rfl
def FQ (ks:List (ByteArray × ByteArray)):List St:=ks.map fun k=>⟨k.1,k.2,0⟩
theorem Ej (ks:List (ByteArray × ByteArray)):(FQ ks).length=ks.length:=by simp [FQ]
theorem N8 (ks:List (ByteArray × ByteArray)) (k:ByteArray × ByteArray):FQ (ks ++ [k])=FQ ks ++ [⟨k.1,k.2,0⟩]:=by simp [FQ]
def dA (rs:List TR) (k:Nat):List (ByteArray × ByteArray):=au (ae (rs.take k))
def iU (t:TR) (j:Nat):List (ByteArray × ByteArray):=(t.rows.take j).map fun q=>(t.name,q.name)
theorem o8 (rs:List TR) (k:Nat) (h:k < rs.length):dA rs (k + 1)=dA rs k ++ iU rs[k] rs[k].rows.length:=by
 unfold dA iU;rw [TV h,Ug];unfold ae au;rw [List.map_append,List.flatMap_append,List.map_singleton,List.flatMap_singleton];congr 1;simp [jE,TR.p,eF,RR.p]
theorem sZ (t:TR) (j:Nat) (h:j < t.rows.length):iU t (j + 1)=iU t j ++ [(t.name,t.rows[j].name)]:=by
 unfold iU;rw [TV h,List.map_append]; rfl
theorem CG (t:TR) (j:Nat):(iU t j).length≤t.rows.length:=by unfold iU; simp; omega
theorem ww (rs:List TR) (hr:∀ r ∈ rs,r.rows.length≤6) (k:Nat):(dA rs k).length≤k * 6:=by
 induction k with
 | zero=>simp [dA,ae,au]
 | succ k ih =>
  by_cases h:k < rs.length
  ·rw [o8 _ _ h,T9];have h1:=CG rs[k] rs[k].rows.length;have h2:=hr rs[k] (TQ h);omega
  have e:rs.take (k + 1)=rs.take k:=by rw [List.take_of_length_le (by omega),List.take_of_length_le (by omega)]
  unfold dA at ih ⊢;rw [e]; omega
open Go.Maps
def RR.sl (q:RR):Value:=.slice q.ad q.rows.length q.cap
def kS (t:ByteArray) (M:ByteArray × ByteArray→Option Value):List RR→ByteArray × ByteArray→Option Value
 | []=>M
 | q::qs=>kS t (lc M (t,q.name) (some q.sl)) qs
def eG (M:ByteArray × ByteArray→Option Value):List TR→ByteArray × ByteArray→Option Value
 | []=>M
 | t::ts=>eG (kS t.name M t.rows) ts
def nR (rs:List TR):ByteArray × ByteArray→Option Value:=eG (fun _=>none) rs
theorem El (t:bH) (M:ByteArray × ByteArray→Option Value) (xs ys:List RR):kS t M (xs ++ ys)=kS t (kS t M xs) ys:=by
 induction xs generalizing M with
 | nil=>rfl
 | cons q qs ih=>simp only [List.cons_append,kS]; exact ih _
theorem zI (M:ByteArray × ByteArray→Option Value) (xs ys:List TR):eG M (xs ++ ys)=eG (eG M xs) ys:=by
 induction xs generalizing M with
 | nil=>rfl
 | cons q qs ih=>simp only [List.cons_append,eG]; exact ih _
theorem IE (t:bH) (M:ByteArray × ByteArray→Option Value) (qs:List RR) (j:Nat) (h:j < qs.length):kS t M (qs.take (j + 1))=lc (kS t M (qs.take j)) (t,qs[j].name) (some qs[j].sl):=by
 rw [TV h,El]; rfl
theorem Em (M:ByteArray × ByteArray→Option Value) (rs:List TR) (k:Nat) (h:k < rs.length):eG M (rs.take (k + 1))=kS rs[k].name (eG M (rs.take k)) rs[k].rows:=by
 rw [TV h,zI]; rfl
set_option maxRecDepth 100000 in
theorem qC (ad:Option Addr) (cap:Nat) (rs:List TR) (w:af) (hlen:rs.length≤6) (hs:kX w ad rs) (hrl:∀ r ∈ rs,r.rows.length≤6) (hf:∀ r ∈ rs,r.fits) :
  Calls prog 53 #[.slice ad rs.length cap] w fun e w'=>e=.returned (.map (some w.heap.size))∧aM dQ prog 94 w' w.heap.size 36 (nR rs)∧ag w w':=by
 have HS:=az hs;have YI:Hid (∀ r ∈ rs,r.rows.length≤6):=hrl;have UL:=az hf;have HM0:Hid (aM dQ prog 94 (w.alloc (.map #[] 0)) w.heap.size 0 (fun _=>none)):=nM _ _ _ w;have HB0:Hid (ag w (w.alloc (.map #[] 0))):=(TT _ _).alloc (TS _) _;clear hs hrl hf;have hmm:=@run_makeMap prog;go_enter func53,ntmps53;go_wp2_with fail;go_loopw [11] (fun i wr=>∃ k:Nat,k≤rs.length∧i=.int .i64 k∧Hid (aM dQ prog 94 wr w.heap.size (k * 6) (eG (fun _=>none) (rs.take k)))∧Hid (ag w wr)) (fun i _=>rs.length - (intOf i).toNat);case atStart=>exact ⟨0,TW _,rfl,HM0,HB0⟩
 clear HM0 HB0 hmm;obtain ⟨k,hk,rfl,HM,HB⟩:=hrel;by_cases hlt:k < rs.length
 ·rcases HS.out.below HB.out with rfl | ⟨b,off,rfl,hb,hr,hok⟩
  ·simp at hlt
  obtain ⟨t0,t1⟩:=hr k hlt;have hk1:=bB k;have hk2:(k:Int) < (rs.length:Int):=by omega
  have h6:rs[k].rows.length≤6:=YI.out _ (TQ hlt);have z0:rs[k].name.size≤maxLen:=(UL.out _ (TQ hlt)).1;have WT:Hid (∀ q ∈ rs[k].rows,q.fits):=(UL.out _ (TQ hlt)).2.2;clear hr hok;obtain ⟨W1,hW1⟩:∃ W1,W1=wr.alloc (.cells #[.string rs[k].name,.slice rs[k].ad rs[k].rows.length rs[k].cap] 127):=⟨_,rfl⟩;have hal:ag wr W1:=by rw [hW1]; exact (TT _ _).alloc (TS _) _
  have XC:Hid (aM dQ prog 94 W1 w.heap.size (k * 6) (eG (fun _=>none) (rs.take k))):=HM.out.below hal;have HB1:=jP HB hal;have VI:Hid (wr.heap.size < W1.heap.size∧W1.cell? ⟨wr.heap.size,0,none⟩=some (.string rs[k].name)):=⟨by rw [hW1]; simp,by rw [hW1]; simp⟩;have hgw:w.heap.size < wr.heap.size:=HM.out.lt;clear HM hal;go_wp2_with fail;rw [← hW1];clear hW1 t0 t1 HB;obtain ⟨wo,hwo⟩:∃ wo,wo=wr:=⟨_,rfl⟩;subst hwo;go_loopw [18] (fun i w2=>∃ j:Nat,j≤rs[k].rows.length∧i=.int .i64 j∧Hid (aM dQ prog 94 w2 w.heap.size (k * 6 + j) (kS rs[k].name (eG (fun _=>none) (rs.take k)) (rs[k].rows.take j)))∧Hid (ag w w2)∧Hid (wo.heap.size < w2.heap.size∧w2.cell? ⟨wo.heap.size,0,none⟩=some (.string rs[k].name))) (fun i _=>rs[k].rows.length - (intOf i).toNat);case atStart=>exact ⟨0,TW _,rfl,XC,HB1,VI⟩
  clear XC HB1 VI;obtain ⟨j,hj,rfl,HM,HB,HC⟩:=hrel;by_cases hjl:j < rs[k].rows.length
  ·rcases HS.out.below HB.out with hnil | ⟨b',off',he,hb2,hr,hok⟩
   ·rw [hnil] at hlt; simp at hlt
   injection he with he; injection he with he1 he2; subst he1; subst he2;have ok:=hok rs[k] (TQ hlt);rcases ok with hnil | ⟨b2,U0,had,hbb,hr2,-⟩
   ·rw [hnil] at hjl; simp at hjl
   obtain ⟨q0,q1⟩:=hr2 j hjl;have z1:rs[k].rows[j].name.size≤maxLen:=(WT.out _ (TQ hjl)).1;have hj1:=bB j;have hj2:(j:Int) < (rs[k].rows.length:Int):=by omega
   obtain ⟨kl,hkl⟩:=jC (rs[k].name,rs[k].rows[j].name) z0 z1;have Vo:Hid (keyOf prog 94 (dQ (rs[k].name,rs[k].rows[j].name))=some kl):=hkl;obtain ⟨W2,hW2⟩:∃ W2,W2=wr.alloc (.cells #[.string rs[k].rows[j].name,.slice rs[k].rows[j].ad rs[k].rows[j].rows.length rs[k].rows[j].cap] 147):=⟨_,rfl⟩;have hal:ag wr W2:=by rw [hW2]; exact (TT _ _).alloc (TS _) _
   have Vf:Hid (aM dQ prog 94 W2 w.heap.size (k * 6 + j) (kS rs[k].name (eG (fun _=>none) (rs.take k)) (rs[k].rows.take j))):=HM.out.below hal;have HB2:=jP HB hal;have hc1:=aG hal HC.out.1 HC.out.2;have Vd:Hid (wo.heap.size < W2.heap.size∧W2.cell? ⟨wo.heap.size,0,none⟩=some (.string rs[k].name)):=⟨TP HC.out.1 hal.size,hc1⟩;have g0:W2.cell? ⟨wr.heap.size,0,none⟩=some (.string rs[k].rows[j].name):=by rw [hW2]; simp
   have g1:W2.cell? ⟨wr.heap.size,1,none⟩=some (.slice rs[k].rows[j].ad rs[k].rows[j].rows.length rs[k].rows[j].cap):=by rw [hW2]; simp
   have hsz:wo.heap.size < wr.heap.size:=HC.out.1;have hc0:=HC.out.2;rw [had];clear hr hok hr2 hkl HM hal HC;go_wp2_with (first | (at_mapUpdate; rw [← hW2]; refine nC _ rfl _ _ _ 91 rfl 94 33 ic uF underlying91 w.heap.size (k * 6 + j) _ rfl Vf.out (by unfold maxLen; omega) (rs[k].name,rs[k].rows[j].name) kl rfl Vo.out _ rfl ?_; intro w3 hV3 hg3) | go_in);have HM4:Hid (aM dQ prog 94 w3 w.heap.size (k * 6 + (j + 1)) (kS rs[k].name (eG (fun _=>none) (rs.take k)) (rs[k].rows.take (j + 1)))):=by
    show aM _ _ _ _ _ _ _;rw [IE _ _ _ _ hjl]; exact hV3
   have Vk:Hid (ag w w3):=HB2.out.grown hg3 HB2.out.size (fun i hi=>by injection hi with hi; omega);have HC4:Hid (wo.heap.size < w3.heap.size∧w3.cell? ⟨wo.heap.size,0,none⟩=some (.string rs[k].name)):=⟨TP Vd.out.1 hg3.size,by rw [hg3.cell_far _ Vd.out.1 (by simp; omega)]; exact Vd.out.2⟩;clear hV3 hg3 hW2 Vf HB2 Vd g0 g1 q0 q1 hc0 hc1;go_wp2;go_roundw;case rel=>exact ⟨j + 1,by omega,by go_num,HM4,Vk,HC4⟩
   simp [intOf] <;> omega
  obtain rfl:j=rs[k].rows.length:=by omega
  have HM4:Hid (aM dQ prog 94 wr w.heap.size ((k + 1) * 6) (eG (fun _=>none) (rs.take (k + 1)))):=by
   show aM _ _ _ _ _ _ _;have:=HM.out;rw [Ug] at this;rw [Em _ _ _ hlt]; exact this.mono (by omega)
  clear HM;go_wp2;go_roundw;case rel=>exact ⟨k + 1,by omega,by go_num,HM4,HB⟩
  simp [intOf] <;> omega
 obtain rfl:k=rs.length:=by omega
 have HM4:Hid (aM dQ prog 94 wr w.heap.size 36 (nR rs)):=by
  show aM _ _ _ _ _ _ _;have:=HM.out;rw [Ug] at this;exact this.mono (by omega)
 go_wp2;go_ret;exact ⟨rfl,HM4.out,HB.out⟩
theorem Ru:∀ x:List UInt8,Op.bytesLess x x=false
 | []=>rfl
 | a::x=>by simp [Op.bytesLess,Ru x]
theorem Rv:∀ x y z:List UInt8,Op.bytesLess x y=true→Op.bytesLess y z=true→Op.bytesLess x z=true
 | [],_,[],h,k=>by cases ‹List UInt8› <;> simp [Op.bytesLess] at h k
 | [],_,_::_,_,_=>rfl
 | _::_,[],_,h,_=>by simp [Op.bytesLess] at h
 | _::_,_::_,[],_,k=>by simp [Op.bytesLess] at k
 | a::x,b::y,c::z,h,k=>by
  simp only [Op.bytesLess,Bool.or_eq_true,TU,Ud,beq_iff_eq] at h k ⊢;rcases h with h | ⟨h,h'⟩
  ·rcases k with k | ⟨k,k'⟩
   ·exact .inl (UInt8.lt_trans h k)
   exact .inl (k ▸ h)
  rcases k with k | ⟨k,k'⟩
  ·exact .inl (h ▸ k)
  exact .inr ⟨h.trans k,Rv x y z h' k'⟩
theorem rC {f:Nat→ByteArray} {n:Nat} (h:∀ i,i + 1 < n→je (f i) (f (i + 1))=true):∀ i j,i < j→j < n→f i ≠ f j:=by
 have h2:∀ d i,i + d + 1 < n→je (f i) (f (i + d + 1))=true:=by
  intro d
  induction d with
  | zero=>intro i hi; exact h i (by omega)
  | succ d ih =>
   intro i hi;have h3:=ih i (by omega);have h4:=h (i + d + 1) (by omega);exact Rv _ _ _ h3 h4
 intro i j hij hj e;have h5:=h2 (j - i - 1) i (by omega);have e2:i + (j - i - 1) + 1=j:=by omega
 rw [e2,e] at h5;unfold je at h5;rw [Ru] at h5;cases h5
theorem lF {rs:List TR} (h:bf (ae rs)=true) (k:Nat) (hk:k < rs.length):aP rs[k].name=true∧(∀ i (hi:i < rs.length),k=i + 1→je rs[i].name rs[k].name=true)∧dG (eF rs[k].rows) rs[k].rows.length=true:=by
 simp only [bf,TU,Ud] at h;rw [kY] at h;have h1:=o7 h.2 k hk;unfold kv at h1;have e:(ae rs)[k]?=some rs[k].p:=by simp [ae,hk]
 rw [e] at h1;simp only [TU,Ud] at h1;have e2:rs[k].p.rels.length=rs[k].rows.length:=by simp [TR.p,eF]
 rw [e2] at h1;refine ⟨h1.1.1.1,fun i hi hki=>?_,h1.2⟩;subst hki;have h2:=h1.1.1.2;have e3:(ae rs)[i]?=some rs[i].p:=by simp [ae,hi]
 simp only [e3,Option.map_some,Option.getD_some] at h2;exact h2
theorem CJ {rs:List RR} {n:Nat} (h:dG (eF rs) n=true) (k:Nat) (hk:k < rs.length) (hn:k < n):aP rs[k].name=true∧(∀ i (hi:i < rs.length),k=i + 1→je rs[i].name rs[k].name=true)∧aK (ak rs[k].rows)=true:=by
 have h1:=o6 h k hn;unfold mg at h1;have e:(eF rs)[k]?=some rs[k].p:=by simp [eF,hk]
 rw [e] at h1;simp only [TU] at h1;refine ⟨h1.1.1,fun i hi hki=>?_,h1.2⟩;subst hki;have h2:=h1.1.2;have e3:(eF rs)[i]?=some rs[i].p:=by simp [eF,hi]
 simp only [e3,Option.map_some,Option.getD_some] at h2;exact h2
theorem FR {rs:List TR} (h:bf (ae rs)=true) {t t':TR} (ht:t ∈ rs) (ht':t' ∈ rs) (e:t.name=t'.name):t=t':=by
 obtain ⟨i,hi,rfl⟩:=List.mem_iff_getElem.1 ht;obtain ⟨j,hj,rfl⟩:=List.mem_iff_getElem.1 ht';have hne:=rC (f:=fun k=>(rs[k]?.map TR.name).getD ByteArray.empty) (n:=rs.length) (fun k hk=>by
  have h0:k < rs.length:=by omega
  simp only [TY hk,TY h0,Option.map_some,Option.getD_some];exact (lF h (k + 1) hk).2.1 k h0 rfl)
 by_cases hij:i=j
 ·subst hij; rfl
 exfalso;rcases Nat.lt_or_gt_of_ne hij with hl | hl
 ·have:=hne i j hl hj; simp [hi,hj] at this; exact this e
 have:=hne j i hl hi; simp [hi,hj] at this; exact this e.symm
theorem FT {rs:List RR} (h:dG (eF rs) rs.length=true) {t t':RR} (ht:t ∈ rs) (ht':t' ∈ rs) (e:t.name=t'.name):t=t':=by
 obtain ⟨i,hi,rfl⟩:=List.mem_iff_getElem.1 ht;obtain ⟨j,hj,rfl⟩:=List.mem_iff_getElem.1 ht';have hne:=rC (f:=fun k=>(rs[k]?.map RR.name).getD ByteArray.empty) (n:=rs.length) (fun k hk=>by
  have h0:k < rs.length:=by omega
  simp only [TY hk,TY h0,Option.map_some,Option.getD_some];exact (CJ h (k + 1) hk hk).2.1 k h0 rfl)
 by_cases hij:i=j
 ·subst hij; rfl
 exfalso;rcases Nat.lt_or_gt_of_ne hij with hl | hl
 ·have:=hne i j hl hj; simp [hi,hj] at this; exact this e
 have:=hne j i hl hi; simp [hi,hj] at this; exact this e.symm
theorem IG {t:ByteArray} {M:ByteArray × ByteArray→Option Value} {qs:List RR} {k:ByteArray × ByteArray} {v:Value} (h:kS t M qs k=some v):M k=some v ∨ ∃ q ∈ qs,k=(t,q.name)∧v=q.sl:=by
 induction qs generalizing M with
 | nil=>exact .inl h
 | cons q qs ih =>
  simp only [kS] at h;rcases ih h with h | ⟨q',hq,e⟩
  ·by_cases e:k=(t,q.name)
   ·rw [e,d9] at h; injection h with h; exact .inr ⟨q,by simp,e,h.symm⟩
   rw [cz e] at h; exact .inl h
  exact .inr ⟨q',by simp [hq],e⟩
theorem xM {t:ByteArray} {M:ByteArray × ByteArray→Option Value} {qs:List RR} {k:ByteArray × ByteArray} (h:(M k).isSome=true ∨ ∃ q ∈ qs,k=(t,q.name)):(kS t M qs k).isSome=true:=by
 induction qs generalizing M with
 | nil=>rcases h with h | ⟨q,hq,-⟩; exact h; cases hq
 | cons q qs ih =>
  simp only [kS];refine ih ?_;by_cases e:k=(t,q.name)
  ·left; rw [e,d9]; rfl
  rcases h with h | ⟨q',hq,e'⟩
  ·left; rw [cz e]; exact h
  rcases List.mem_cons.1 hq with rfl | hq
  ·exact absurd e' e
  exact .inr ⟨q',hq,e'⟩
theorem En {M:ByteArray × ByteArray→Option Value} {rs:List TR} {k:ByteArray × ByteArray} {v:Value} (h:eG M rs k=some v):M k=some v ∨ ∃ t ∈ rs,∃ q ∈ t.rows,k=(t.name,q.name)∧v=q.sl:=by
 induction rs generalizing M with
 | nil=>exact .inl h
 | cons t rs ih =>
  simp only [eG] at h;rcases ih h with h | ⟨t',ht,e⟩
  ·rcases IG h with h | ⟨q,hq,e⟩
   ·exact .inl h
   exact .inr ⟨t,by simp,q,hq,e⟩
  exact .inr ⟨t',by simp [ht],e⟩
theorem si {M:ByteArray × ByteArray→Option Value} {rs:List TR} {k:ByteArray × ByteArray} (h:(M k).isSome=true ∨ ∃ t ∈ rs,∃ q ∈ t.rows,k=(t.name,q.name)):(eG M rs k).isSome=true:=by
 induction rs generalizing M with
 | nil=>rcases h with h | ⟨q,hq,-⟩; exact h; cases hq
 | cons t rs ih =>
  simp only [eG];refine ih ?_;rcases h with h | ⟨t',ht,q,hq,e⟩
  ·exact .inl (xM (.inl h))
  rcases List.mem_cons.1 ht with rfl | ht
  ·exact .inl (xM (.inr ⟨q,hq,e⟩))
  exact .inr ⟨t',ht,q,hq,e⟩
theorem II {rs:List Rl} {n:ByteArray} (h:jN rs n=none):∀ r ∈ rs,r.name ≠ n:=by
 induction rs with
 | nil=>intro r hr; cases hr
 | cons r rs ih =>
  simp only [jN] at h;split at h
  ·cases h
  rename_i hn;intro q hq;rcases List.mem_cons.1 hq with rfl | hq
  ·exact fun e=>hn (fo.2 e)
  exact ih h q hq
theorem Lx {ts:List Ty} {ty n:ByteArray} (h:fI ts ty n=none):∀ t ∈ ts,t.name=ty→∀ r ∈ t.rels,r.name ≠ n:=by
 induction ts with
 | nil=>intro t ht; cases ht
 | cons t ts ih =>
  simp only [fI] at h;intro q hq e;split at h
  ·rw [Option.or_eq_none_iff] at h;rcases List.mem_cons.1 hq with rfl | hq
   ·exact II h.1
   exact ih h.2 q hq e
  rename_i hn;rcases List.mem_cons.1 hq with rfl | hq
  ·exact absurd (fo.2 e) hn
  exact ih h q hq e
theorem nV {rs:List TR} {ty n:ByteArray} {es:List Ex} (h:fI (ae rs) ty n=some es):∃ t ∈ rs,∃ q ∈ t.rows,t.name=ty∧q.name=n∧ak q.rows=es:=by
 obtain ⟨t,ht,r,hr,e1,e2,e3⟩:=qz h;obtain ⟨t',ht',rfl⟩:=Ue.1 ht;obtain ⟨q,hq,rfl⟩:=Ue.1 hr;exact ⟨t',ht',q,hq,e1,e2,e3⟩
structure Tab (rs:List TR) (M:ByteArray × ByteArray→Option Value):Prop where
 no:∀ k,M k=none→fI (ae rs) k.1 k.2=none
 yes:∀ k v,M k=some v→∃ t ∈ rs,∃ q ∈ t.rows,k=(t.name,q.name)∧v=q.sl∧fI (ae rs) k.1 k.2=some (ak q.rows)∧aK (ak q.rows)=true
theorem wy {rs:List TR} (h:bf (ae rs)=true):Tab rs (nR rs) where
 no k hk:=by
  cases e:fI (ae rs) k.1 k.2 with
  | none=>rfl
  | some es =>
   obtain ⟨t,ht,q,hq,e1,e2,-⟩:=nV e;have:=si (M:=fun _=>none) (rs:=rs) (k:=k) (.inr ⟨t,ht,q,hq,by rw [e1,e2]⟩);unfold nR at hk;rw [hk] at this; cases this
 yes k v hk:=by
  rcases En hk with h0 | ⟨t,ht,q,hq,e,ev⟩
  ·cases h0
  have hSF:=bq h;refine ⟨t,ht,q,hq,e,ev,?_,(hSF.2.2 t ht q hq).1⟩;cases e2:fI (ae rs) k.1 k.2 with
  | none=>exact (Lx e2 t.p (List.mem_map_of_mem ht) (by rw [e]; rfl) q.p (List.mem_map_of_mem hq) (by rw [e]; rfl)).elim
  | some es =>
   obtain ⟨t',ht',q',hq',e3,e4,e5⟩:=nV e2;have h1:t'=t:=FR h ht' ht (by rw [e3,e]);subst h1;obtain ⟨i,hi,rfl⟩:=List.mem_iff_getElem.1 ht;have h2:q'=q:=FT (lF h i hi).2.2 hq' hq (by rw [e4,e]);subst h2;rw [e5]
theorem Tab.some_iff {rs:List TR} {M:ByteArray × ByteArray→Option Value} (h:Tab rs M) (k:ByteArray × ByteArray):(M k).isSome=!(aA (ae rs) k.1 k.2).isEmpty:=by
 unfold aA;cases e:M k with
 | none=>rw [h.no k e]; rfl
 | some v =>
  obtain ⟨t,ht,q,hq,-,-,e1,e2⟩:=h.yes k v e;rw [e1];have:=lu e2;cases e3:ak q.rows with
  | nil=>rw [e3] at this; simp at this
  | cons x xs=>rfl
end Go.Proofs.YtajkkeikihhejaaGreat
