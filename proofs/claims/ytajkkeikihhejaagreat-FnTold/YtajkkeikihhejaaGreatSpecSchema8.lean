/- Contract of the document's function on what a relation leans on: the walk. -/
import Derived.Test.YtajkkeikihhejaaGreatSq
import Derived.Test.YtajkkeikihhejaaGreatJ9
open Go.Proofs.Tryz
set_option maxHeartbeats 80000000
namespace Go.Proofs.YtajkkeikihhejaaGreat
open Go.ChangeShapes Go.WideShapes Go.ChangeAt Go.RowKit
open Pl
theorem own_below {w w':af} {base:Nat} {e:TypeId} {size:Nat} {v:Value} {n:Nat} {xs:List Value} (h:w.ownsRow base e size v n xs) (hB:ag w w'):w'.ownsRow base e size v n xs:=by
 have hg:w.grownBy w' none:=⟨hB.os,hB.tape,hB.output,hB.size,fun k hk _=>hB.block k hk⟩;cases ho:v.ownBlock with
 | none=>exact h.kept hg (.inl ho)
 | some g=>exact h.kept hg (.inr (by rw [ho]; simp))
theorem qA {w w':af} {v v':Value} {g o:Nat} {u:Value} (h:Aside w v w' v') (hg:g < w.heap.size) (hv:v.ownBlock ≠ some g) (hc:w.cell? ⟨g,o,none⟩=some u):w'.cell? ⟨g,o,none⟩=some u:=(h.cell (p:=⟨g,o,none⟩) hg hv).trans hc
theorem FO (es:List Ex) (m:Nat) (out:List Bool):(dU es m out).length=out.length:=by
 induction m generalizing out with
 | zero=>rfl
 | succ m ih =>
  simp only [dU];rw [ih];split
  ·rfl
  exact xA _ _ _ _ _
theorem FP (es:List Ex):(dz es).length=es.length:=by unfold dz; rw [FO]; simp
theorem FQ (ts:List Ty) (typ:bH) (rows:List ER) (k:Nat) (h:k < rows.length) (ng:Bool) (hn:ng=(dz (aj rows)).getD k false):aN ts typ (aj rows) (k + 1)=(aN ts typ (aj rows) k ++ dh ng rows[k].e.allow) ++ kM ts typ ng rows[k].e:=by
 have e:(aj rows)[k]?=some rows[k].e:=by simp [aj,h]
 show aN ts typ (aj rows) k ++ ik ts typ (aj rows) k=_;unfold ik;rw [e,hn,List.append_assoc]
set_option maxRecDepth 100000 in
theorem Ir (ad UC:Option Addr) (cap capE:Nat) (rs:List TR) (typ:bH) (rows:List ER) (w:af) (hlen:rs.length≤1048576) (hs:kW w ad rs) (hl:∀ r ∈ rs,r.light) (hle:rows.length≤15) (hse:iH w UC rows) (ZH:∀ q ∈ rows,q.e.light) (hkE:∀ q ∈ rows,dV rows.length q.e.kids)
    (hsm:∀ k,(aN (ae rs) typ (aj rows) k).length≤100000000) :
    Calls prog 139 #[.slice ad rs.length cap,.string typ,.slice UC rows.length capE] w fun e w'=>(∃ v,e=.returned v∧w'.ownsRow w.heap.size 220 3 v (pR (ae rs) typ (aj rows)).length (eu (pR (ae rs) typ (aj rows))))∧ag w w':=by
  have HS:=az hs;have HL:=az hl;have HE:=az hse;have Vj:=az ZH;have YY:=az hkE;have ZI:Hid (∀ k,(aN (ae rs) typ (aj rows) k).length≤100000000):=hsm;clear hs hl hse ZH hkE hsm;obtain ⟨i0,hi,hz0,hz1,hz2⟩:=info_parts Od;go_enter func139,ntmps139;go_wp2_with fail;have Ze:ag w (w.alloc (.cells #[] 220)):=(TT _ _).alloc (TS _) _;have hown1:(w.alloc (.cells #[] 220)).ownsRow w.heap.size 220 3 (.slice (some ⟨w.heap.size,0,none⟩) 0 0) 0 []:=World.ownsRow_made w #[] 0 (TS _) (by decide) rfl;refine (Lb UC capE rows _ (by omega) (HE.out.below Ze) Vj.out YY.out).mono ?_;rintro e w1 ⟨rfl,hF⟩;have UV:Hid (w1.ownsRow w.heap.size 220 3 (.slice (some ⟨w.heap.size,0,none⟩) 0 0) 0 []):=own_below hown1 hF.below;have HB1:Hid (ag w w1):=Ze.trans (hF.below.mono (by simp));have hgN:(w.alloc (.cells #[] 220)).heap.size=w.heap.size + 1:=by simp
  rw [hgN] at hF ⊢;have hgl:=hF.lt;have HNG:Hid (∀ (j:Nat) (h:j < rows.length),w1.cell? ⟨w.heap.size + 1,j,none⟩=some (.bool ((dz (aj rows)).getD j false))):=by
    intro j hj;have hn:j < (dz (aj rows)).length:=by rw [FP,aT]; exact hj
    have:=hF.done j (by simpa [bools] using hn);rw [this];simp [bools,hn]
  clear hF hown1 Ze hgN;obtain ⟨gN,hgN⟩:∃ gN,gN=w.heap.size + 1:=⟨_,rfl⟩;rw [← hgN] at hgl HNG ⊢;have hgne:w.heap.size < gN:=by omega
  clear hgN;go_wp2_with fail;go_loopw [7,9] (fun v i wr=>∃ k:Nat,k≤rows.length∧i=.int .i64 k∧Hid (wr.ownsRow w.heap.size 220 3 v (aN (ae rs) typ (aj rows) k).length (eu (aN (ae rs) typ (aj rows) k)))∧Hid (ag w wr)∧Hid (Aside w1 (.slice (some ⟨w.heap.size,0,none⟩) 0 0) wr v)) (fun _ i _=>rows.length - (intOf i).toNat);case atStart=>exact ⟨0,TW _,rfl,UV,HB1,Aside.refl _ _⟩
  obtain ⟨k,hk,rfl,HOW,HB,HAS⟩:=hrel;by_cases hlt:k < rows.length
  · rcases HE.out.below HB.out with rfl | ⟨b,off,rfl,hb,hr,hok⟩
    · simp at hlt
    obtain ⟨t0,t1,t2,t3,t4⟩:=hr k hlt;have Vz:Hid (rows[k].ok w):=HE.out.mem (TQ hlt);have lg:=(Vj.out rows[k] (TQ hlt)).1;have hk1:=bB k;have hk2:(k:Int) < (rows.length:Int):=by omega
    have c0:wr.cell? ⟨gN,k,none⟩=some (.bool ((dz (aj rows)).getD k false)):=(HAS.out.cell (p:=⟨gN,k,none⟩) hgl (by simp [Value.ownBlock]; omega)).trans (HNG.out k hlt);clear hr hok;obtain ⟨ng,ZJ⟩:∃ ng,ng=(dz (aj rows)).getD k false:=⟨_,rfl⟩;rw [← ZJ] at c0;have HNK:Hid (ng=(dz (aj rows)).getD k false):=ZJ;clear ZJ;obtain ⟨W1,hW1⟩:∃ W1,W1=wr.alloc (.cells #[.int .i64 rows[k].e.kind,.slice rows[k].adA rows[k].e.allow.length rows[k].capA,.string rows[k].e.over,.string rows[k].e.name,.slice rows[k].adK rows[k].e.kids.length rows[k].capK] 39):=⟨_,rfl⟩;have hal:ag wr W1:=by rw [hW1]; exact (TT _ _).alloc (TS _) _
    have UN:=az hal;have UG:=jP HB hal;have Ws:wr.heap.size < W1.heap.size:=by rw [hW1]; simp
    have g0:W1.cell? ⟨wr.heap.size,0,none⟩=some (.int .i64 rows[k].e.kind):=by rw [hW1]; simp
    have g1:W1.cell? ⟨wr.heap.size,1,none⟩=some (.slice rows[k].adA rows[k].e.allow.length rows[k].capA):=by rw [hW1]; simp
    have g2:W1.cell? ⟨wr.heap.size,2,none⟩=some (.string rows[k].e.over):=by rw [hW1]; simp
    have g3:W1.cell? ⟨wr.heap.size,3,none⟩=some (.string rows[k].e.name):=by rw [hW1]; simp
    have hgr:gN < wr.heap.size:=TP hgl HAS.out.size;have gn:=aG hal hgr c0;have Wz:Hid (W1.ownsRow w.heap.size 220 3 u7 (aN (ae rs) typ (aj rows) k).length (eu (aN (ae rs) typ (aj rows) k))):=own_below HOW.out hal;have HV1:Hid (u7.ownBlock ≠ some gN):=HAS.out.apart hgl (by simp [Value.ownBlock]; omega);have YZ:Hid (u7.ownBlock ≠ some wr.heap.size):=fun e=>by have:=(HOW.out.lt _ e).2; omega
    clear hal c0;go_wp2_with fail;rw [← hW1];clear hW1 t0 t1 t2 t3 t4;obtain ⟨wo,hwo⟩:∃ wo,wo=wr:=⟨_,rfl⟩;subst hwo;go_loopw [7,11] (fun v i w2=>∃ j:Nat,j≤rows[k].e.allow.length∧i=.int .i64 j∧Hid (w2.ownsRow w.heap.size 220 3 v ((aN (ae rs) typ (aj rows) k).length + (dh ng (rows[k].e.allow.take j)).length) (eu (aN (ae rs) typ (aj rows) k ++ dh ng (rows[k].e.allow.take j))))∧Hid (ag w w2)∧Hid (Aside W1 u7 w2 v)) (fun _ i _=>rows[k].e.allow.length - (intOf i).toNat);case atStart=>exact ⟨0,TW _,rfl,(by simpa [dh,Hid] using Wz),UG,Aside.refl _ _⟩
    obtain ⟨j,hj,rfl,UB,HB2,HA2⟩:=hrel;have d0:=qA HA2.out Ws YZ.out g0;have d1:=qA HA2.out Ws YZ.out g1;have d2:=qA HA2.out Ws YZ.out g2;have d3:=qA HA2.out Ws YZ.out g3;have dn:=qA HA2.out (Nat.lt_trans hgr Ws) HV1.out gn;clear g0 g1 g2 g3 gn;by_cases hjl:j < rows[k].e.allow.length
    · have hA3:=(Vz.out.1).below HB2.out;have hA4:=Vz.out.1;rcases hA4 with hnil | ⟨ba,Wp,Wq,Yl,-⟩
      · rw [hnil] at hjl; simp at hjl
      rcases hA3 with hnil | ⟨ba',offa',Ym,-,hra⟩
      · rw [hnil] at hjl; simp at hjl
      rw [Wq] at Ym d1;injection Ym with Ym; injection Ym with e1 e2;subst e1; subst e2;obtain ⟨q0,q1⟩:=hra j hjl;have hj1:=bB j;have hj2:(j:Int) < (rows[k].e.allow.length:Int):=by omega
      clear hra Wq;cases he:rows[k].e.allow[j].s.toList.isEmpty;case true=>
        have HE2:Hid (dh ng (rows[k].e.allow.take (j + 1))=dh ng (rows[k].e.allow.take j)):=Oc _ _ _ hjl he;go_wp2;go_roundw;case rel=>exact ⟨j + 1,by omega,by go_num,by rw [HE2.out]; exact UB,HB2,HA2⟩
        simp [intOf] <;> omega
      have HE2:Hid (dh ng (rows[k].e.allow.take (j + 1))=dh ng (rows[k].e.allow.take j) ++ [⟨rows[k].e.allow[j].t,rows[k].e.allow[j].s,ng⟩]):=Lc _ _ _ hjl he;have a1:u7.ownBlock ≠ some wo.heap.size:=HA2.out.apart Ws YZ.out;have a2:u7.ownBlock ≠ some gN:=HA2.out.apart (Nat.lt_trans hgr Ws) HV1.out;have a3:u7.ownBlock ≠ some ba:=fun e=>by have:=(UB.out.lt _ e).1; omega
      have l1:wo.heap.size < wr.heap.size:=TP Ws HA2.out.size;have l2:gN < wr.heap.size:=Nat.lt_trans hgr l1;have l3:ba < wr.heap.size:=TP Yl HB2.out.size;have l4:w.heap.size≤wr.heap.size:=HB2.out.size;obtain ⟨xs,hxs⟩:∃ xs,xs=eu (aN (ae rs) typ (aj rows) k ++ dh ng (rows[k].e.allow.take j)):=⟨_,rfl⟩;obtain ⟨n,hn⟩:∃ n,n=(aN (ae rs) typ (aj rows) k).length + (dh ng (rows[k].e.allow.take j)).length:=⟨_,rfl⟩;have hnl:n≤101048576:=by
        have h1:=ZI.out k;have h2:=Cy ng (rows[k].e.allow.take j);rw [Ut] at h2;omega
      have hown:=UB.out;rw [← hxs,← hn] at hown;have Wj:Hid (eu (aN (ae rs) typ (aj rows) k ++ dh ng (rows[k].e.allow.take (j + 1)))=xs ++ [.string rows[k].e.allow[j].t,.string rows[k].e.allow[j].s,.bool ng]):=by
        show _=_;rw [HE2.out,← List.append_assoc,sW,← hxs]; rfl
      have Wx:Hid ((aN (ae rs) typ (aj rows) k).length + (dh ng (rows[k].e.allow.take (j + 1))).length=n + 1):=by
        show _=_;rw [HE2.out,hn]; simp; omega
      clear UB hxs hn;go_wp2_with fail
      go_region_held3 (fun w'=>w'.cell? ⟨wo.heap.size,1,none⟩=some (.slice (some ⟨ba,Wp,none⟩) rows[k].e.allow.length rows[k].capA)∧w'.cell? ⟨ba,Wp + j * 2,none⟩=some (.string rows[k].e.allow[j].t) ∧
          w'.cell? ⟨ba,Wp + j * 2 + 1,none⟩=some (.string rows[k].e.allow[j].s)∧w'.cell? ⟨gN,k,none⟩=some (.bool ng))
        (first
          | go_keep
          | (go_split_ands
             refine ⟨?_,?_,?_,?_⟩
             · (rw [hgrow.cell_far _ (by simp; omega) (Ne.symm a1)]; assumption)
             · (rw [hgrow.cell_far _ (by simp; omega) (Ne.symm a3)]; assumption)
             · (rw [hgrow.cell_far _ (by simp; omega) (Ne.symm a3)]; assumption)
             · (rw [hgrow.cell_far _ (by simp; omega) (Ne.symm a2)]; assumption)))
        ((refine step_append_lies _ (by rfl) _ _ _ (by rfl) w.heap.size 220 i0 _ 3 40 underlying216 hi hz0 hz1 hz2 rfl (by omega) u7 n xs (by rfl) ((hown.alloc _).drew)
            ⟨wr.heap.size,0,none⟩ 1 1 [.string rows[k].e.allow[j].t,.string rows[k].e.allow[j].s,.bool ng] (by rfl) (by rfl) (World.news_of_block (cs:=#[.string rows[k].e.allow[j].t,.string rows[k].e.allow[j].s,.bool ng]) (t:=220) (fr:=(0,0)) (heap_alloc_new wr _)) (by simp [Value.oneCell'])
            (by omega) (by unfold maxLen; omega) (by omega) (by simp; omega) (wr.heap.size + 1) (by simp) ?_; intro gg cp w5 hown5 hgrow hat hlt5))
      have hb5:Hid (ag w w5):=((HB2.out.alloc HB2.out.size _).drew).grown hgrow (by simp; omega) (fun i hi=>(hown.lt i hi).1);have hAx:Aside wr u7 w5 (.slice (some ⟨gg,0,none⟩) (n + 1) cp):=(Aside.below (((TT _ _).alloc (TS _) _).drew)).trans (Aside.app hgrow (by
        rcases hat with e | e
        · left; rw [e]; rfl
        · right; rw [e]; simp [Value.ownBlock]))
      have HA5:=HA2.out.trans hAx;have HA5':Hid (Aside W1 _ w5 (.slice (some ⟨gg,0,none⟩) (n + 1) cp)):=HA5;have UK:Hid (w5.ownsRow w.heap.size 220 3 (.slice (some ⟨gg,0,none⟩) (n + 1) cp) ((aN (ae rs) typ (aj rows) k).length + (dh ng (rows[k].e.allow.take (j + 1))).length) (eu (aN (ae rs) typ (aj rows) k ++ dh ng (rows[k].e.allow.take (j + 1))))):=by
        show World.ownsRow _ _ _ _ _ _ _;rw [Wj.out,Wx.out]; exact hown5
      clear hown5 hgrow hat hAx HA5 hown;go_wp2;go_roundw;case rel=>exact ⟨j + 1,by omega,by go_num,UK,hb5,HA5'⟩
      simp [intOf] <;> omega
    · obtain rfl:j=rows[k].e.allow.length:=by omega
      have a1:u7.ownBlock ≠ some wo.heap.size:=HA2.out.apart Ws YZ.out;have a2:u7.ownBlock ≠ some gN:=HA2.out.apart (Nat.lt_trans hgr Ws) HV1.out;have l1:wo.heap.size < wr.heap.size:=TP Ws HA2.out.size;have l2:gN < wr.heap.size:=Nat.lt_trans hgr l1;have l4:w.heap.size≤wr.heap.size:=HB2.out.size;have HUS:=FQ (ae rs) typ rows k hlt ng HNK.out;obtain ⟨D,hD⟩:∃ D,D=aN (ae rs) typ (aj rows) k ++ dh ng rows[k].e.allow:=⟨_,rfl⟩;have hown:wr.ownsRow w.heap.size 220 3 u7 D.length (eu D):=by
        have:=UB.out;rw [Ug,← hD,← T9,← hD] at this;exact this
      rw [← hD] at HUS;have hnl:D.length≤100000000:=by
        have h1:=ZI.out (k + 1);rw [HUS,T9] at h1;omega
      have HUP:Hid (aN (ae rs) typ (aj rows) (k + 1)=D ++ kM (ae rs) typ ng rows[k].e):=HUS;have ZG:Hid (Aside w1 (.slice (some ⟨w.heap.size,0,none⟩) 0 0) wr u7):=(HAS.out.trans (Aside.below UN.out)).trans HA2.out;clear UB HUS hD;by_cases h2:rows[k].e.kind=2
      · have Wj:Hid (aN (ae rs) typ (aj rows) (k + 1)=D ++ [⟨typ,rows[k].e.name,ng⟩]):=by show _=_; rw [HUP.out]; simp [kM,h2]
        obtain ⟨xs,hxs⟩:∃ xs,xs=eu D:=⟨_,rfl⟩;obtain ⟨n,hn⟩:∃ n,n=D.length:=⟨_,rfl⟩;rw [← hxs,← hn] at hown;rw [← hn] at hnl;have HFX:Hid (eu (aN (ae rs) typ (aj rows) (k + 1))=xs ++ [.string typ,.string rows[k].e.name,.bool ng]):=by
          show _=_;rw [Wj.out,sW,← hxs]; rfl
        have Wx:Hid ((aN (ae rs) typ (aj rows) (k + 1)).length=n + 1):=by show _=_; rw [Wj.out,hn]; simp
        clear hxs hn;go_wp2_with fail
        go_region_held3 (fun w'=>w'.cell? ⟨wo.heap.size,3,none⟩=some (.string rows[k].e.name)∧w'.cell? ⟨gN,k,none⟩=some (.bool ng))
          (first
            | go_keep
            | (go_split_ands
               refine ⟨?_,?_⟩
               · (rw [hgrow.cell_far _ (by simp; omega) (Ne.symm a1)]; assumption)
               · (rw [hgrow.cell_far _ (by simp; omega) (Ne.symm a2)]; assumption)))
          ((refine step_append_lies _ (by rfl) _ _ _ (by rfl) w.heap.size 220 i0 _ 3 40 underlying216 hi hz0 hz1 hz2 rfl (by omega) u7 n xs (by rfl) ((hown.alloc _).drew)
              ⟨wr.heap.size,0,none⟩ 1 1 [.string typ,.string rows[k].e.name,.bool ng] (by rfl) (by rfl) (World.news_of_block (cs:=#[.string typ,.string rows[k].e.name,.bool ng]) (t:=220) (fr:=(0,0)) (heap_alloc_new wr _)) (by simp [Value.oneCell'])
              (by omega) (by unfold maxLen; omega) (by omega) (by simp; omega) (wr.heap.size + 1) (by simp) ?_; intro gg cp w5 hown5 hgrow hat hlt5))
        have hb5:Hid (ag w w5):=((HB2.out.alloc HB2.out.size _).drew).grown hgrow (by simp; omega) (fun i hi=>(hown.lt i hi).1);have hAx:Aside wr u7 w5 (.slice (some ⟨gg,0,none⟩) (n + 1) cp):=(Aside.below (((TT _ _).alloc (TS _) _).drew)).trans (Aside.app hgrow (by
          rcases hat with e | e
          · left; rw [e]; rfl
          · right; rw [e]; simp [Value.ownBlock]))
        have f0:=qA hAx l1 a1 d0;have HA5:Hid (Aside w1 (.slice (some ⟨w.heap.size,0,none⟩) 0 0) w5 (.slice (some ⟨gg,0,none⟩) (n + 1) cp)):=ZG.out.trans hAx;have UK:Hid (w5.ownsRow w.heap.size 220 3 (.slice (some ⟨gg,0,none⟩) (n + 1) cp) (aN (ae rs) typ (aj rows) (k + 1)).length (eu (aN (ae rs) typ (aj rows) (k + 1)))):=by
          show World.ownsRow _ _ _ _ _ _ _;rw [HFX.out,Wx.out]; exact hown5
        clear hown5 hgrow hat hAx hown d0 d1 d2 d3 dn;go_wp2;go_roundw;case rel=>exact ⟨k + 1,by omega,by go_num,UK,hb5,HA5⟩
        simp [intOf] <;> omega
      by_cases h3:rows[k].e.kind=3
      · go_wp2_with fail;refine (xz ad cap rs _ _ _ _ hlen (HS.out.below HB2.out) HL.out).mono ?_;rintro e w4 ⟨⟨ad4,cap4,rfl,hs4,hn4⟩,hb4⟩;have HXG:Hid (aN (ae rs) typ (aj rows) (k + 1)=D ++ (ig (ae rs) typ rows[k].e.over rows[k].e.name).map fun g=>(⟨g,rows[k].e.name,ng⟩:Dp)):=by show _=_; rw [HUP.out]; simp [kM,h3]
        generalize ig (ae rs) typ rows[k].e.over rows[k].e.name=gs at *
        have hgs:D.length + gs.length≤100000000:=by
          have h1:=ZI.out (k + 1);rw [HXG.out,T9,Uy] at h1;exact h1
        have f3:=aG hb4 l1 d3;have fn:=aG hb4 l2 dn;have UR:Hid (w4.ownsRow w.heap.size 220 3 u7 D.length (eu D)):=own_below hown hb4;have Vi:=jP HB2 hb4;have HA4:Hid (Aside w1 (.slice (some ⟨w.heap.size,0,none⟩) 0 0) w4 u7):=ZG.out.trans (Aside.below hb4);have HSG:=az hs4;have HVG:Hid (∀ p,ad4=some p→u7.ownBlock ≠ some p.block):=fun p hp e=>by have h1:=(hown.lt _ e).2; have h2:=hn4 p hp; omega
        have m1:wo.heap.size < w4.heap.size:=TP l1 hb4.size;have m2:gN < w4.heap.size:=TP l2 hb4.size;have m4:w.heap.size≤w4.heap.size:=Vi.out.size;clear hown hb4 hs4 hn4 d0 d1 d2 d3 dn l1 l2 l4;obtain ⟨uo,huo⟩:∃ uo,uo=u7:=⟨_,rfl⟩;subst huo;go_wp2_with fail;go_loopw [7,13] (fun v i w6=>∃ m:Nat,m≤gs.length∧i=.int .i64 m∧Hid (w6.ownsRow w.heap.size 220 3 v (D.length + m) (eu (D ++ (gs.take m).map fun g=>(⟨g,rows[k].e.name,ng⟩:Dp))))∧Hid (ag w w6)∧Hid (Aside w4 uo w6 v)) (fun _ i _=>gs.length - (intOf i).toNat);case atStart=>exact ⟨0,TW _,rfl,(by simpa [Hid] using UR),Vi,Aside.refl _ _⟩
        obtain ⟨m,hm,rfl,Vh,WJ,Yn⟩:=hrel;have x3:=qA Yn.out m1 a1 f3;have xn:=qA Yn.out m2 a2 fn;by_cases U5:m < gs.length
        · rcases HSG.out with rfl | ⟨bg,offg,rfl,hbg,hrg⟩
          · simp at U5
          have q0:=qA Yn.out hbg (HVG.out _ rfl) (hrg m U5);have hm1:=bB m;have hm2:(m:Int) < (gs.length:Int):=by omega
          have b1:u7.ownBlock ≠ some wo.heap.size:=Yn.out.apart m1 a1;have b2:u7.ownBlock ≠ some gN:=Yn.out.apart m2 a2;have b3:u7.ownBlock ≠ some bg:=Yn.out.apart hbg (HVG.out _ rfl);have l1:wo.heap.size < wr.heap.size:=TP m1 Yn.out.size;have l2:gN < wr.heap.size:=TP m2 Yn.out.size;have l3:bg < wr.heap.size:=TP hbg Yn.out.size;have l4:w.heap.size≤wr.heap.size:=WJ.out.size;obtain ⟨xs,hxs⟩:∃ xs,xs=eu (D ++ (gs.take m).map fun g=>(⟨g,rows[k].e.name,ng⟩:Dp)):=⟨_,rfl⟩;obtain ⟨n,hn⟩:∃ n,n=D.length + m:=⟨_,rfl⟩;have hown:=Vh.out;rw [← hxs,← hn] at hown;have HFX:Hid (eu (D ++ (gs.take (m + 1)).map fun g=>(⟨g,rows[k].e.name,ng⟩:Dp))=xs ++ [.string gs[m],.string rows[k].e.name,.bool ng]):=by
            show _=_;rw [TV U5,List.map_append,← List.append_assoc,List.map_singleton,sW,← hxs]; rfl
          have Wx:Hid (D.length + (m + 1)=n + 1):=by show _=_; omega
          have hnl2:n≤100000000:=by omega
          have hgb:gs.length≤100000000:=by omega
          clear Vh hxs hn hrg hnl hgs;go_wp2_with fail
          go_region_held3 (fun w'=>w'.cell? ⟨wo.heap.size,3,none⟩=some (.string rows[k].e.name)∧w'.cell? ⟨gN,k,none⟩=some (.bool ng)∧w'.cell? ⟨bg,offg + m,none⟩=some (.string gs[m]))
            (first
              | go_keep
              | (go_split_ands
                 refine ⟨?_,?_,?_⟩
                 · (rw [hgrow.cell_far _ (by simp; omega) (Ne.symm b1)]; assumption)
                 · (rw [hgrow.cell_far _ (by simp; omega) (Ne.symm b2)]; assumption)
                 · (rw [hgrow.cell_far _ (by simp; omega) (Ne.symm b3)]; assumption)))
            ((refine step_append_lies _ (by rfl) _ _ _ (by rfl) w.heap.size 220 i0 _ 3 40 underlying216 hi hz0 hz1 hz2 rfl (by omega) u7 n xs (by rfl) ((hown.alloc _).drew)
                ⟨wr.heap.size,0,none⟩ 1 1 [.string gs[m],.string rows[k].e.name,.bool ng] (by rfl) (by rfl) (World.news_of_block (cs:=#[.string gs[m],.string rows[k].e.name,.bool ng]) (t:=220) (fr:=(0,0)) (heap_alloc_new wr _)) (by simp [Value.oneCell'])
                (by omega) (by unfold maxLen; omega) (by omega) (by simp; omega) (wr.heap.size + 1) (by simp) ?_; intro gg cp w5 hown5 hgrow hat hlt5))
          have hb5:Hid (ag w w5):=((WJ.out.alloc WJ.out.size _).drew).grown hgrow (by simp; omega) (fun i hi=>(hown.lt i hi).1);have hAx:Aside wr u7 w5 (.slice (some ⟨gg,0,none⟩) (n + 1) cp):=(Aside.below (((TT _ _).alloc (TS _) _).drew)).trans (Aside.app hgrow (by
            rcases hat with e | e
            · left; rw [e]; rfl
            · right; rw [e]; simp [Value.ownBlock]))
          have HA5:Hid (Aside w4 uo w5 (.slice (some ⟨gg,0,none⟩) (n + 1) cp)):=Yn.out.trans hAx;have UK:Hid (w5.ownsRow w.heap.size 220 3 (.slice (some ⟨gg,0,none⟩) (n + 1) cp) (D.length + (m + 1)) (eu (D ++ (gs.take (m + 1)).map fun g=>(⟨g,rows[k].e.name,ng⟩:Dp)))):=by
            show World.ownsRow _ _ _ _ _ _ _;rw [HFX.out,Wx.out]; exact hown5
          clear hown5 hgrow hat hAx hown;go_wp2;go_roundw;case rel=>exact ⟨m + 1,by omega,by go_num,UK,hb5,HA5⟩
          simp [intOf] <;> omega
        · obtain rfl:m=gs.length:=by omega
          have UK:Hid (wr.ownsRow w.heap.size 220 3 u7 (aN (ae rs) typ (aj rows) (k + 1)).length (eu (aN (ae rs) typ (aj rows) (k + 1)))):=by
            have:=Vh.out;show World.ownsRow _ _ _ _ _ _ _;rw [Ug] at this;rw [HXG.out,T9,Uy];exact this
          have HA5:Hid (Aside w1 (.slice (some ⟨w.heap.size,0,none⟩) 0 0) wr u7):=HA4.out.trans Yn.out;clear Vh;go_wp2;go_roundw;case rel=>exact ⟨k + 1,by omega,by go_num,UK,WJ,HA5⟩
          simp [intOf] <;> omega
      · have Wj:Hid (aN (ae rs) typ (aj rows) (k + 1)=D):=by show _=_; rw [HUP.out]; simp [kM,h2,h3]
        have hb2:(rows[k].e.kind == 2)=false:=by simpa using h2
        have hb3:(rows[k].e.kind == 3)=false:=by simpa using h3
        have UK:Hid (wr.ownsRow w.heap.size 220 3 u7 (aN (ae rs) typ (aj rows) (k + 1)).length (eu (aN (ae rs) typ (aj rows) (k + 1)))):=by
          show World.ownsRow _ _ _ _ _ _ _;rw [Wj.out]; exact hown
        clear hown;go_wp2;go_roundw;case rel=>exact ⟨k + 1,by omega,by go_num,UK,HB2,ZG⟩
        simp [intOf] <;> omega
  · obtain rfl:k=rows.length:=by omega
    have HFI:Hid (wr.ownsRow w.heap.size 220 3 u7 (pR (ae rs) typ (aj rows)).length (eu (pR (ae rs) typ (aj rows)))):=by
      have:=HOW.out;show World.ownsRow _ _ _ _ _ _ _;unfold pR;rw [aT];exact this
    clear HOW;go_wp2;go_ret;exact ⟨⟨_,rfl,HFI.out⟩,HB.out⟩
end Go.Proofs.YtajkkeikihhejaaGreat
