/- Contract of the document's function on what a relation leans on: the walk. -/
import Derived.Test.YtdaoiceeidoehaaGreatJ5
open Go.Proofs.Tryz
set_option maxHeartbeats 80000000
namespace Go.Proofs.YtdaoiceeidoehaaGreat
open Go.ChangeShapes Go.WideShapes Go.ChangeAt Go.RowKit
open Pl
theorem own_below {w w':World} {base:Nat} {e:TypeId} {size:Nat} {v:Value} {n:Nat} {xs:List Value} (h:w.ownsRow base e size v n xs) (hB:Below w.heap.size w w'):w'.ownsRow base e size v n xs:=by
 have hg:w.grownBy w' none:=⟨hB.os,hB.tape,hB.output,hB.size,fun k hk _=>hB.block k hk⟩;cases ho:v.ownBlock with
 | none=>exact h.kept hg (.inl ho)
 | some g=>exact h.kept hg (.inr (by rw [ho]; simp))
theorem l8 {w w':World} {v v':Value} {g o:Nat} {u:Value} (h:Aside w v w' v') (hg:g < w.heap.size) (hv:v.ownBlock ≠ some g) (hc:w.cell? ⟨g,o,none⟩=some u):w'.cell? ⟨g,o,none⟩=some u:=(h.cell (p:=⟨g,o,none⟩) hg hv).trans hc
theorem Bb (es:List Ex) (m:Nat) (out:List Bool):(fH es m out).length=out.length:=by
 induction m generalizing out with
 | zero=>rfl
 | succ m ih =>
  simp only [fH];rw [ih];split
  ·rfl
  ·exact Am _ _ _ _ _
theorem Bc (es:List Ex):(cO es).length=es.length:=by unfold cO; rw [Bb]; simp
theorem Bd (ts:List Ty) (typ:ByteArray) (rows:List ER) (k:Nat) (h:k < rows.length) (ng:Bool) (hn:ng=(cO (ah rows)).getD k false):aH ts typ (ah rows) (k + 1)=(aH ts typ (ah rows) k ++ bq ng rows[k].e.allow) ++ jR ts typ ng rows[k].e:=by
 have e:(ah rows)[k]?=some rows[k].e:=by simp [ah,h]
 show aH ts typ (ah rows) k ++ iP ts typ (ah rows) k=_;unfold iP;rw [e,hn,List.append_assoc]
set_option maxRecDepth 100000 in
theorem Dj (ad adE:Option Addr) (cap capE:Nat) (rs:List TR) (typ:ByteArray) (rows:List ER) (w:World) (hlen:rs.length≤1048576) (hs:eY w ad rs) (hl:∀ r ∈ rs,r.light) (hle:rows.length≤15) (hse:dw w adE rows) (hlE:∀ q ∈ rows,q.e.light) (hkE:∀ q ∈ rows,bQ rows.length q.e.kids)
    (hsm:∀ k,(aH (ae rs) typ (ah rows) k).length≤100000000) :
    Calls prog 84 #[.slice ad rs.length cap,.string typ,.slice adE rows.length capE] w fun e w'=>(∃ v,e=.returned v∧w'.ownsRow w.heap.size 171 3 v (lG (ae rs) typ (ah rows)).length (dA (lG (ae rs) typ (ah rows))))∧Below w.heap.size w w':=by
  have HS:Hid (eY w ad rs):=hs;have HL:Hid (∀ r ∈ rs,r.light):=hl;have HE:Hid (dw w adE rows):=hse;have HLE:Hid (∀ q ∈ rows,q.e.light):=hlE;have HKE:Hid (∀ q ∈ rows,bQ rows.length q.e.kids):=hkE;have HSM:Hid (∀ k,(aH (ae rs) typ (ah rows) k).length≤100000000):=hsm;clear hs hl hse hlE hkE hsm;obtain ⟨i0,hi,hz0,hz1,hz2⟩:=info_parts Hr;go_enter func84,ntmps84;go_wp2_with fail;have hbA:Below w.heap.size w (w.alloc (.cells #[] 171)):=(Below.refl _ _).alloc (Nat.le_refl _) _;have hown1:(w.alloc (.cells #[] 171)).ownsRow w.heap.size 171 3 (.slice (some ⟨w.heap.size,0,none⟩) 0 0) 0 []:=World.ownsRow_made w #[] 0 (Nat.le_refl _) (by decide) rfl;refine (Fz adE capE rows _ (by omega) (HE.out.below hbA) HLE.out HKE.out).mono ?_;rintro e w1 ⟨rfl,hF⟩;have HO1:Hid (w1.ownsRow w.heap.size 171 3 (.slice (some ⟨w.heap.size,0,none⟩) 0 0) 0 []):=own_below hown1 hF.below;have HB1:Hid (Below w.heap.size w w1):=hbA.trans (hF.below.mono (by simp));have hgN:(w.alloc (.cells #[] 171)).heap.size=w.heap.size + 1:=by simp
  rw [hgN] at hF ⊢;have hgl:=hF.lt;have HNG:Hid (∀ (j:Nat) (h:j < rows.length),w1.cell? ⟨w.heap.size + 1,j,none⟩=some (.bool ((cO (ah rows)).getD j false))):=by
    intro j hj;have hn:j < (cO (ah rows)).length:=by rw [Bc,aI]; exact hj
    have:=hF.done j (by simpa [bools] using hn);rw [this];simp [bools,hn]
  clear hF hown1 hbA hgN;obtain ⟨gN,hgN⟩:∃ gN,gN=w.heap.size + 1:=⟨_,rfl⟩;rw [← hgN] at hgl HNG ⊢;have hgne:w.heap.size < gN:=by omega
  clear hgN;go_wp2_with fail;go_loopw [7,9] (fun v i wr=>∃ k:Nat,k≤rows.length∧i=.int .i64 k∧Hid (wr.ownsRow w.heap.size 171 3 v (aH (ae rs) typ (ah rows) k).length (dA (aH (ae rs) typ (ah rows) k)))∧Hid (Below w.heap.size w wr)∧Hid (Aside w1 (.slice (some ⟨w.heap.size,0,none⟩) 0 0) wr v)) (fun _ i _=>rows.length - (intOf i).toNat);case atStart=>exact ⟨0,Nat.zero_le _,rfl,HO1,HB1,Aside.refl _ _⟩
  case round =>
    obtain ⟨k,hk,rfl,HOW,HB,HAS⟩:=hrel;by_cases hlt:k < rows.length
    · rcases HE.out.below HB.out with rfl | ⟨b,off,rfl,hb,hr,hok⟩
      · simp at hlt
      obtain ⟨t0,t1,t2,t3,t4⟩:=hr k hlt;have HOK:Hid (rows[k].ok w):=HE.out.mem (List.getElem_mem hlt);have lg:=(HLE.out rows[k] (List.getElem_mem hlt)).1;have hk1:=aY k;have hk2:(k:Int) < (rows.length:Int):=by omega
      have c0:wr.cell? ⟨gN,k,none⟩=some (.bool ((cO (ah rows)).getD k false)):=(HAS.out.cell (p:=⟨gN,k,none⟩) hgl (by simp [Value.ownBlock]; omega)).trans (HNG.out k hlt);clear hr hok;obtain ⟨ng,hng⟩:∃ ng,ng=(cO (ah rows)).getD k false:=⟨_,rfl⟩;rw [← hng] at c0;have HNK:Hid (ng=(cO (ah rows)).getD k false):=hng;clear hng;obtain ⟨W1,hW1⟩:∃ W1,W1=wr.alloc (.cells #[.int .i64 rows[k].e.kind,.slice rows[k].adA rows[k].e.allow.length rows[k].capA,.string rows[k].e.over,.string rows[k].e.name,.slice rows[k].adK rows[k].e.kids.length rows[k].capK] 166):=⟨_,rfl⟩;have hal:Below wr.heap.size wr W1:=by rw [hW1]; exact (Below.refl _ _).alloc (Nat.le_refl _) _
      have HAL:Hid (Below wr.heap.size wr W1):=hal;have HBW:=fK HB hal;have hglW:wr.heap.size < W1.heap.size:=by rw [hW1]; simp
      have g0:W1.cell? ⟨wr.heap.size,0,none⟩=some (.int .i64 rows[k].e.kind):=by rw [hW1]; simp
      have g1:W1.cell? ⟨wr.heap.size,1,none⟩=some (.slice rows[k].adA rows[k].e.allow.length rows[k].capA):=by rw [hW1]; simp
      have g2:W1.cell? ⟨wr.heap.size,2,none⟩=some (.string rows[k].e.over):=by rw [hW1]; simp
      have g3:W1.cell? ⟨wr.heap.size,3,none⟩=some (.string rows[k].e.name):=by rw [hW1]; simp
      have hgr:gN < wr.heap.size:=Nat.lt_of_lt_of_le hgl HAS.out.size;have gn:=ai hal hgr c0;have HOW1:Hid (W1.ownsRow w.heap.size 171 3 u7 (aH (ae rs) typ (ah rows) k).length (dA (aH (ae rs) typ (ah rows) k))):=own_below HOW.out hal;have HV1:Hid (u7.ownBlock ≠ some gN):=HAS.out.apart hgl (by simp [Value.ownBlock]; omega);have HV2:Hid (u7.ownBlock ≠ some wr.heap.size):=fun e=>by have:=(HOW.out.lt _ e).2; omega
      clear hal c0;go_wp2_with fail;rw [← hW1];clear hW1 t0 t1 t2 t3 t4;obtain ⟨wo,hwo⟩:∃ wo,wo=wr:=⟨_,rfl⟩;subst hwo;go_loopw [7,11] (fun v i w2=>∃ j:Nat,j≤rows[k].e.allow.length∧i=.int .i64 j∧Hid (w2.ownsRow w.heap.size 171 3 v ((aH (ae rs) typ (ah rows) k).length + (bq ng (rows[k].e.allow.take j)).length) (dA (aH (ae rs) typ (ah rows) k ++ bq ng (rows[k].e.allow.take j))))∧Hid (Below w.heap.size w w2)∧Hid (Aside W1 u7 w2 v)) (fun _ i _=>rows[k].e.allow.length - (intOf i).toNat);case atStart=>exact ⟨0,Nat.zero_le _,rfl,(by simpa [bq,Hid] using HOW1),HBW,Aside.refl _ _⟩
      case round =>
        obtain ⟨j,hj,rfl,HO2,HB2,HA2⟩:=hrel;have d0:=l8 HA2.out hglW HV2.out g0;have d1:=l8 HA2.out hglW HV2.out g1;have d2:=l8 HA2.out hglW HV2.out g2;have d3:=l8 HA2.out hglW HV2.out g3;have dn:=l8 HA2.out (Nat.lt_trans hgr hglW) HV1.out gn;clear g0 g1 g2 g3 gn;by_cases hjl:j < rows[k].e.allow.length
        · have hA3:=(HOK.out.1).below HB2.out;have hA4:=HOK.out.1;rcases hA4 with hnil | ⟨ba,offa,hadA,hba,-⟩
          · rw [hnil] at hjl; simp at hjl
          rcases hA3 with hnil | ⟨ba',offa',hadA',-,hra⟩
          · rw [hnil] at hjl; simp at hjl
          rw [hadA] at hadA' d1;injection hadA' with hadA'; injection hadA' with e1 e2;subst e1; subst e2;obtain ⟨q0,q1⟩:=hra j hjl;have hj1:=aY j;have hj2:(j:Int) < (rows[k].e.allow.length:Int):=by omega
          clear hra hadA;cases he:rows[k].e.allow[j].s.toList.isEmpty with
          | true =>
            have HE2:Hid (bq ng (rows[k].e.allow.take (j + 1))=bq ng (rows[k].e.allow.take j)):=Hq _ _ _ hjl he;go_wp2;go_roundw;case rel=>exact ⟨j + 1,by omega,by go_num,by rw [HE2.out]; exact HO2,HB2,HA2⟩
            case measure=>simp [intOf] <;> omega
          | false =>
            have HE2:Hid (bq ng (rows[k].e.allow.take (j + 1))=bq ng (rows[k].e.allow.take j) ++ [⟨rows[k].e.allow[j].t,rows[k].e.allow[j].s,ng⟩]):=FB _ _ _ hjl he;have a1:u7.ownBlock ≠ some wo.heap.size:=HA2.out.apart hglW HV2.out;have a2:u7.ownBlock ≠ some gN:=HA2.out.apart (Nat.lt_trans hgr hglW) HV1.out;have a3:u7.ownBlock ≠ some ba:=fun e=>by have:=(HO2.out.lt _ e).1; omega
            have l1:wo.heap.size < wr.heap.size:=Nat.lt_of_lt_of_le hglW HA2.out.size;have l2:gN < wr.heap.size:=Nat.lt_trans hgr l1;have l3:ba < wr.heap.size:=Nat.lt_of_lt_of_le hba HB2.out.size;have l4:w.heap.size≤wr.heap.size:=HB2.out.size;obtain ⟨xs,hxs⟩:∃ xs,xs=dA (aH (ae rs) typ (ah rows) k ++ bq ng (rows[k].e.allow.take j)):=⟨_,rfl⟩;obtain ⟨n,hn⟩:∃ n,n=(aH (ae rs) typ (ah rows) k).length + (bq ng (rows[k].e.allow.take j)).length:=⟨_,rfl⟩;have hnl:n≤101048576:=by
              have h1:=HSM.out k;have h2:=xg ng (rows[k].e.allow.take j);rw [List.length_take] at h2;omega
            have hown:=HO2.out;rw [← hxs,← hn] at hown;have HXS:Hid (dA (aH (ae rs) typ (ah rows) k ++ bq ng (rows[k].e.allow.take (j + 1)))=xs ++ [.string rows[k].e.allow[j].t,.string rows[k].e.allow[j].s,.bool ng]):=by
              show _=_;rw [HE2.out,← List.append_assoc,nZ,← hxs]; rfl
            have HNN:Hid ((aH (ae rs) typ (ah rows) k).length + (bq ng (rows[k].e.allow.take (j + 1))).length=n + 1):=by
              show _=_;rw [HE2.out,hn]; simp; omega
            clear HO2 hxs hn;go_wp2_with fail
            go_region_held3 (fun w'=>w'.cell? ⟨wo.heap.size,1,none⟩=some (.slice (some ⟨ba,offa,none⟩) rows[k].e.allow.length rows[k].capA)∧w'.cell? ⟨ba,offa + j * 2,none⟩=some (.string rows[k].e.allow[j].t) ∧
                w'.cell? ⟨ba,offa + j * 2 + 1,none⟩=some (.string rows[k].e.allow[j].s)∧w'.cell? ⟨gN,k,none⟩=some (.bool ng))
              (first
                | go_keep
                | (go_split_ands
                   refine ⟨?_,?_,?_,?_⟩
                   · (rw [hgrow.cell_far _ (by simp; omega) (Ne.symm a1)]; assumption)
                   · (rw [hgrow.cell_far _ (by simp; omega) (Ne.symm a3)]; assumption)
                   · (rw [hgrow.cell_far _ (by simp; omega) (Ne.symm a3)]; assumption)
                   · (rw [hgrow.cell_far _ (by simp; omega) (Ne.symm a2)]; assumption)))
              ((refine step_append_lies _ (by rfl) _ _ _ (by rfl) w.heap.size 171 i0 _ 3 40 underlying167 hi hz0 hz1 hz2 rfl (by omega) u7 n xs (by rfl) ((hown.alloc _).drew)
                  ⟨wr.heap.size,0,none⟩ 1 1 [.string rows[k].e.allow[j].t,.string rows[k].e.allow[j].s,.bool ng] (by rfl) (by rfl) (World.news_of_block (cs:=#[.string rows[k].e.allow[j].t,.string rows[k].e.allow[j].s,.bool ng]) (t:=171) (fr:=(0,0)) (heap_alloc_new wr _)) (by simp [Value.oneCell'])
                  (by omega) (by unfold maxLen; omega) (by omega) (by simp; omega) (wr.heap.size + 1) (by simp) ?_; intro gg cp w5 hown5 hgrow hat hlt5))
            have hb5:Hid (Below w.heap.size w w5):=((HB2.out.alloc HB2.out.size _).drew).grown hgrow (by simp; omega) (fun i hi=>(hown.lt i hi).1);have hAx:Aside wr u7 w5 (.slice (some ⟨gg,0,none⟩) (n + 1) cp):=(Aside.below (((Below.refl _ _).alloc (Nat.le_refl _) _).drew)).trans (Aside.app hgrow (by
              rcases hat with e | e
              · left; rw [e]; rfl
              · right; rw [e]; simp [Value.ownBlock]))
            have HA5:=HA2.out.trans hAx;have HA5':Hid (Aside W1 _ w5 (.slice (some ⟨gg,0,none⟩) (n + 1) cp)):=HA5;have HO5:Hid (w5.ownsRow w.heap.size 171 3 (.slice (some ⟨gg,0,none⟩) (n + 1) cp) ((aH (ae rs) typ (ah rows) k).length + (bq ng (rows[k].e.allow.take (j + 1))).length) (dA (aH (ae rs) typ (ah rows) k ++ bq ng (rows[k].e.allow.take (j + 1))))):=by
              show World.ownsRow _ _ _ _ _ _ _;rw [HXS.out,HNN.out]; exact hown5
            clear hown5 hgrow hat hAx HA5 hown;go_wp2;go_roundw;case rel=>exact ⟨j + 1,by omega,by go_num,HO5,hb5,HA5'⟩
            case measure=>simp [intOf] <;> omega
        · obtain rfl:j=rows[k].e.allow.length:=by omega
          have a1:u7.ownBlock ≠ some wo.heap.size:=HA2.out.apart hglW HV2.out;have a2:u7.ownBlock ≠ some gN:=HA2.out.apart (Nat.lt_trans hgr hglW) HV1.out;have l1:wo.heap.size < wr.heap.size:=Nat.lt_of_lt_of_le hglW HA2.out.size;have l2:gN < wr.heap.size:=Nat.lt_trans hgr l1;have l4:w.heap.size≤wr.heap.size:=HB2.out.size;have HUS:=Bd (ae rs) typ rows k hlt ng HNK.out;obtain ⟨D,hD⟩:∃ D,D=aH (ae rs) typ (ah rows) k ++ bq ng rows[k].e.allow:=⟨_,rfl⟩;have hown:wr.ownsRow w.heap.size 171 3 u7 D.length (dA D):=by
            have:=HO2.out;rw [List.take_length,← hD,← List.length_append,← hD] at this;exact this
          rw [← hD] at HUS;have hnl:D.length≤100000000:=by
            have h1:=HSM.out (k + 1);rw [HUS,List.length_append] at h1;omega
          have HUP:Hid (aH (ae rs) typ (ah rows) (k + 1)=D ++ jR (ae rs) typ ng rows[k].e):=HUS;have HAW:Hid (Aside w1 (.slice (some ⟨w.heap.size,0,none⟩) 0 0) wr u7):=(HAS.out.trans (Aside.below HAL.out)).trans HA2.out;clear HO2 HUS hD;by_cases h2:rows[k].e.kind=2
          · have HXS:Hid (aH (ae rs) typ (ah rows) (k + 1)=D ++ [⟨typ,rows[k].e.name,ng⟩]):=by show _=_; rw [HUP.out]; simp [jR,h2]
            obtain ⟨xs,hxs⟩:∃ xs,xs=dA D:=⟨_,rfl⟩;obtain ⟨n,hn⟩:∃ n,n=D.length:=⟨_,rfl⟩;rw [← hxs,← hn] at hown;rw [← hn] at hnl;have HFX:Hid (dA (aH (ae rs) typ (ah rows) (k + 1))=xs ++ [.string typ,.string rows[k].e.name,.bool ng]):=by
              show _=_;rw [HXS.out,nZ,← hxs]; rfl
            have HNN:Hid ((aH (ae rs) typ (ah rows) (k + 1)).length=n + 1):=by show _=_; rw [HXS.out,hn]; simp
            clear hxs hn;go_wp2_with fail
            go_region_held3 (fun w'=>w'.cell? ⟨wo.heap.size,3,none⟩=some (.string rows[k].e.name)∧w'.cell? ⟨gN,k,none⟩=some (.bool ng))
              (first
                | go_keep
                | (go_split_ands
                   refine ⟨?_,?_⟩
                   · (rw [hgrow.cell_far _ (by simp; omega) (Ne.symm a1)]; assumption)
                   · (rw [hgrow.cell_far _ (by simp; omega) (Ne.symm a2)]; assumption)))
              ((refine step_append_lies _ (by rfl) _ _ _ (by rfl) w.heap.size 171 i0 _ 3 40 underlying167 hi hz0 hz1 hz2 rfl (by omega) u7 n xs (by rfl) ((hown.alloc _).drew)
                  ⟨wr.heap.size,0,none⟩ 1 1 [.string typ,.string rows[k].e.name,.bool ng] (by rfl) (by rfl) (World.news_of_block (cs:=#[.string typ,.string rows[k].e.name,.bool ng]) (t:=171) (fr:=(0,0)) (heap_alloc_new wr _)) (by simp [Value.oneCell'])
                  (by omega) (by unfold maxLen; omega) (by omega) (by simp; omega) (wr.heap.size + 1) (by simp) ?_; intro gg cp w5 hown5 hgrow hat hlt5))
            have hb5:Hid (Below w.heap.size w w5):=((HB2.out.alloc HB2.out.size _).drew).grown hgrow (by simp; omega) (fun i hi=>(hown.lt i hi).1);have hAx:Aside wr u7 w5 (.slice (some ⟨gg,0,none⟩) (n + 1) cp):=(Aside.below (((Below.refl _ _).alloc (Nat.le_refl _) _).drew)).trans (Aside.app hgrow (by
              rcases hat with e | e
              · left; rw [e]; rfl
              · right; rw [e]; simp [Value.ownBlock]))
            have f0:=l8 hAx l1 a1 d0;have HA5:Hid (Aside w1 (.slice (some ⟨w.heap.size,0,none⟩) 0 0) w5 (.slice (some ⟨gg,0,none⟩) (n + 1) cp)):=HAW.out.trans hAx;have HO5:Hid (w5.ownsRow w.heap.size 171 3 (.slice (some ⟨gg,0,none⟩) (n + 1) cp) (aH (ae rs) typ (ah rows) (k + 1)).length (dA (aH (ae rs) typ (ah rows) (k + 1)))):=by
              show World.ownsRow _ _ _ _ _ _ _;rw [HFX.out,HNN.out]; exact hown5
            clear hown5 hgrow hat hAx hown d0 d1 d2 d3 dn;go_wp2;go_roundw;case rel=>exact ⟨k + 1,by omega,by go_num,HO5,hb5,HA5⟩
            case measure=>simp [intOf] <;> omega
          by_cases h3:rows[k].e.kind=3
          · go_wp2_with fail;refine (rF ad cap rs _ _ _ _ hlen (HS.out.below HB2.out) HL.out).mono ?_;rintro e w4 ⟨⟨ad4,cap4,rfl,hs4,hn4⟩,hb4⟩;have HXG:Hid (aH (ae rs) typ (ah rows) (k + 1)=D ++ (fw (ae rs) typ rows[k].e.over rows[k].e.name).map fun g=>(⟨g,rows[k].e.name,ng⟩:Dp)):=by show _=_; rw [HUP.out]; simp [jR,h3]
            generalize fw (ae rs) typ rows[k].e.over rows[k].e.name=gs at *
            have hgs:D.length + gs.length≤100000000:=by
              have h1:=HSM.out (k + 1);rw [HXG.out,List.length_append,List.length_map] at h1;exact h1
            have f3:=ai hb4 l1 d3;have fn:=ai hb4 l2 dn;have HO4:Hid (w4.ownsRow w.heap.size 171 3 u7 D.length (dA D)):=own_below hown hb4;have HB4:=fK HB2 hb4;have HA4:Hid (Aside w1 (.slice (some ⟨w.heap.size,0,none⟩) 0 0) w4 u7):=HAW.out.trans (Aside.below hb4);have HSG:Hid (JJ w4 ad4 gs):=hs4;have HVG:Hid (∀ p,ad4=some p→u7.ownBlock ≠ some p.block):=fun p hp e=>by have h1:=(hown.lt _ e).2; have h2:=hn4 p hp; omega
            have m1:wo.heap.size < w4.heap.size:=Nat.lt_of_lt_of_le l1 hb4.size;have m2:gN < w4.heap.size:=Nat.lt_of_lt_of_le l2 hb4.size;have m4:w.heap.size≤w4.heap.size:=HB4.out.size;clear hown hb4 hs4 hn4 d0 d1 d2 d3 dn l1 l2 l4;obtain ⟨uo,huo⟩:∃ uo,uo=u7:=⟨_,rfl⟩;subst huo;go_wp2_with fail;go_loopw [7,13] (fun v i w6=>∃ m:Nat,m≤gs.length∧i=.int .i64 m∧Hid (w6.ownsRow w.heap.size 171 3 v (D.length + m) (dA (D ++ (gs.take m).map fun g=>(⟨g,rows[k].e.name,ng⟩:Dp))))∧Hid (Below w.heap.size w w6)∧Hid (Aside w4 uo w6 v)) (fun _ i _=>gs.length - (intOf i).toNat);case atStart=>exact ⟨0,Nat.zero_le _,rfl,(by simpa [Hid] using HO4),HB4,Aside.refl _ _⟩
            case round =>
              obtain ⟨m,hm,rfl,HO6,HB6,HA6⟩:=hrel;have x3:=l8 HA6.out m1 a1 f3;have xn:=l8 HA6.out m2 a2 fn;by_cases hml:m < gs.length
              · rcases HSG.out with rfl | ⟨bg,offg,rfl,hbg,hrg⟩
                · simp at hml
                have q0:=l8 HA6.out hbg (HVG.out _ rfl) (hrg m hml);have hm1:=aY m;have hm2:(m:Int) < (gs.length:Int):=by omega
                have b1:u7.ownBlock ≠ some wo.heap.size:=HA6.out.apart m1 a1;have b2:u7.ownBlock ≠ some gN:=HA6.out.apart m2 a2;have b3:u7.ownBlock ≠ some bg:=HA6.out.apart hbg (HVG.out _ rfl);have l1:wo.heap.size < wr.heap.size:=Nat.lt_of_lt_of_le m1 HA6.out.size;have l2:gN < wr.heap.size:=Nat.lt_of_lt_of_le m2 HA6.out.size;have l3:bg < wr.heap.size:=Nat.lt_of_lt_of_le hbg HA6.out.size;have l4:w.heap.size≤wr.heap.size:=HB6.out.size;obtain ⟨xs,hxs⟩:∃ xs,xs=dA (D ++ (gs.take m).map fun g=>(⟨g,rows[k].e.name,ng⟩:Dp)):=⟨_,rfl⟩;obtain ⟨n,hn⟩:∃ n,n=D.length + m:=⟨_,rfl⟩;have hown:=HO6.out;rw [← hxs,← hn] at hown;have HFX:Hid (dA (D ++ (gs.take (m + 1)).map fun g=>(⟨g,rows[k].e.name,ng⟩:Dp))=xs ++ [.string gs[m],.string rows[k].e.name,.bool ng]):=by
                  show _=_;rw [List.take_succ_eq_append_getElem hml,List.map_append,← List.append_assoc,List.map_singleton,nZ,← hxs]; rfl
                have HNN:Hid (D.length + (m + 1)=n + 1):=by show _=_; omega
                have hnl2:n≤100000000:=by omega
                have hgb:gs.length≤100000000:=by omega
                clear HO6 hxs hn hrg hnl hgs;go_wp2_with fail
                go_region_held3 (fun w'=>w'.cell? ⟨wo.heap.size,3,none⟩=some (.string rows[k].e.name)∧w'.cell? ⟨gN,k,none⟩=some (.bool ng)∧w'.cell? ⟨bg,offg + m,none⟩=some (.string gs[m]))
                  (first
                    | go_keep
                    | (go_split_ands
                       refine ⟨?_,?_,?_⟩
                       · (rw [hgrow.cell_far _ (by simp; omega) (Ne.symm b1)]; assumption)
                       · (rw [hgrow.cell_far _ (by simp; omega) (Ne.symm b2)]; assumption)
                       · (rw [hgrow.cell_far _ (by simp; omega) (Ne.symm b3)]; assumption)))
                  ((refine step_append_lies _ (by rfl) _ _ _ (by rfl) w.heap.size 171 i0 _ 3 40 underlying167 hi hz0 hz1 hz2 rfl (by omega) u7 n xs (by rfl) ((hown.alloc _).drew)
                      ⟨wr.heap.size,0,none⟩ 1 1 [.string gs[m],.string rows[k].e.name,.bool ng] (by rfl) (by rfl) (World.news_of_block (cs:=#[.string gs[m],.string rows[k].e.name,.bool ng]) (t:=171) (fr:=(0,0)) (heap_alloc_new wr _)) (by simp [Value.oneCell'])
                      (by omega) (by unfold maxLen; omega) (by omega) (by simp; omega) (wr.heap.size + 1) (by simp) ?_; intro gg cp w5 hown5 hgrow hat hlt5))
                have hb5:Hid (Below w.heap.size w w5):=((HB6.out.alloc HB6.out.size _).drew).grown hgrow (by simp; omega) (fun i hi=>(hown.lt i hi).1);have hAx:Aside wr u7 w5 (.slice (some ⟨gg,0,none⟩) (n + 1) cp):=(Aside.below (((Below.refl _ _).alloc (Nat.le_refl _) _).drew)).trans (Aside.app hgrow (by
                  rcases hat with e | e
                  · left; rw [e]; rfl
                  · right; rw [e]; simp [Value.ownBlock]))
                have HA5:Hid (Aside w4 uo w5 (.slice (some ⟨gg,0,none⟩) (n + 1) cp)):=HA6.out.trans hAx;have HO5:Hid (w5.ownsRow w.heap.size 171 3 (.slice (some ⟨gg,0,none⟩) (n + 1) cp) (D.length + (m + 1)) (dA (D ++ (gs.take (m + 1)).map fun g=>(⟨g,rows[k].e.name,ng⟩:Dp)))):=by
                  show World.ownsRow _ _ _ _ _ _ _;rw [HFX.out,HNN.out]; exact hown5
                clear hown5 hgrow hat hAx hown;go_wp2;go_roundw;case rel=>exact ⟨m + 1,by omega,by go_num,HO5,hb5,HA5⟩
                case measure=>simp [intOf] <;> omega
              · obtain rfl:m=gs.length:=by omega
                have HO5:Hid (wr.ownsRow w.heap.size 171 3 u7 (aH (ae rs) typ (ah rows) (k + 1)).length (dA (aH (ae rs) typ (ah rows) (k + 1)))):=by
                  have:=HO6.out;show World.ownsRow _ _ _ _ _ _ _;rw [List.take_length] at this;rw [HXG.out,List.length_append,List.length_map];exact this
                have HA5:Hid (Aside w1 (.slice (some ⟨w.heap.size,0,none⟩) 0 0) wr u7):=HA4.out.trans HA6.out;clear HO6;go_wp2;go_roundw;case rel=>exact ⟨k + 1,by omega,by go_num,HO5,HB6,HA5⟩
                case measure=>simp [intOf] <;> omega
          · have HXS:Hid (aH (ae rs) typ (ah rows) (k + 1)=D):=by show _=_; rw [HUP.out]; simp [jR,h2,h3]
            have hb2:(rows[k].e.kind == 2)=false:=by simpa using h2
            have hb3:(rows[k].e.kind == 3)=false:=by simpa using h3
            have HO5:Hid (wr.ownsRow w.heap.size 171 3 u7 (aH (ae rs) typ (ah rows) (k + 1)).length (dA (aH (ae rs) typ (ah rows) (k + 1)))):=by
              show World.ownsRow _ _ _ _ _ _ _;rw [HXS.out]; exact hown
            clear hown;go_wp2;go_roundw;case rel=>exact ⟨k + 1,by omega,by go_num,HO5,HB2,HAW⟩
            case measure=>simp [intOf] <;> omega
    · obtain rfl:k=rows.length:=by omega
      have HFI:Hid (wr.ownsRow w.heap.size 171 3 u7 (lG (ae rs) typ (ah rows)).length (dA (lG (ae rs) typ (ah rows)))):=by
        have:=HOW.out;show World.ownsRow _ _ _ _ _ _ _;unfold lG;rw [aI];exact this
      clear HOW;go_wp2;go_ret;exact ⟨⟨_,rfl,HFI.out⟩,HB.out⟩
end Go.Proofs.YtdaoiceeidoehaaGreat
