/- Contract of the document's function on what a relation leans on: the walk. -/
import Derived.Test.YteoflgocljfgeaaGreatDoorJ14
import Derived.Test.YteoflgocljfgeaaGreatDoorJ12
open Go.Proofs.Tryz
set_option maxHeartbeats 80000000
namespace Go.Proofs.YteoflgocljfgeaaGreatDoor
open Go.ChangeShapes Go.WideShapes Go.ChangeAt Go.RowKit
open Pl
theorem own_below {w w':World} {base:Nat} {e:TypeId} {size:Nat} {v:Value} {n:Nat} {xs:List Value} (h:w.ownsRow base e size v n xs) (hB:Below w.heap.size w w'):w'.ownsRow base e size v n xs:=by
 have hg:w.grownBy w' none:=⟨hB.os,hB.tape,hB.output,hB.size,fun k hk _=>hB.block k hk⟩;cases ho:v.ownBlock with
 | none=>exact h.kept hg (.inl ho)
 | some g=>exact h.kept hg (.inr (by rw [ho]; simp))
theorem nR {w w':World} {v v':Value} {g o:Nat} {u:Value} (h:Aside w v w' v') (hg:g < w.heap.size) (hv:v.ownBlock ≠ some g) (hc:w.cell? ⟨g,o,none⟩=some u):w'.cell? ⟨g,o,none⟩=some u:=(h.cell (p:=⟨g,o,none⟩) hg hv).trans hc
theorem BD (es:List Ex) (m:Nat) (out:List Bool):(fO es m out).length=out.length:=by
 induction m generalizing out with
 | zero=>rfl
 | succ m ih =>
  simp only [fO];rw [ih];split
  ·rfl
  ·exact BC _ _ _ _ _
theorem BF (es:List Ex):(dD es).length=es.length:=by unfold dD; rw [BD]; simp
theorem BG (ts:List Ty) (typ:ByteArray) (rows:List ER) (k:Nat) (h:k < rows.length) (ng:Bool) (hn:ng=(dD (au rows)).getD k false):aK ts typ (au rows) (k + 1)=(aK ts typ (au rows) k ++ bM ng rows[k].e.allow) ++ lq ts typ ng rows[k].e:=by
 have e:(au rows)[k]?=some rows[k].e:=by simp [au,h]
 show aK ts typ (au rows) k ++ jD ts typ (au rows) k=_;unfold jD;rw [e,hn,List.append_assoc]
set_option maxRecDepth 100000 in
theorem DD (ad adE:Option Addr) (cap capE:Nat) (rs:List TR) (typ:ByteArray) (rows:List ER) (w:World) (hlen:rs.length≤1048576) (hs:gp w ad rs) (hl:∀ r ∈ rs,r.light) (hle:rows.length≤15) (hse:kX w adE rows) (hlE:∀ q ∈ rows,q.e.light) (hkE:∀ q ∈ rows,bY rows.length q.e.kids)
    (hsm:∀ k,(aK (ah rs) typ (au rows) k).length≤100000000) :
    Calls prog 118 #[.slice ad rs.length cap,.string typ,.slice adE rows.length capE] w fun e w'=>(∃ v,e=.returned v∧w'.ownsRow w.heap.size 210 3 v (nN (ah rs) typ (au rows)).length (dI (nN (ah rs) typ (au rows))))∧Below w.heap.size w w':=by
  have HS:Hid (gp w ad rs):=hs;have HL:Hid (∀ r ∈ rs,r.light):=hl;have HE:Hid (kX w adE rows):=hse;have HLE:Hid (∀ q ∈ rows,q.e.light):=hlE;have HKE:Hid (∀ q ∈ rows,bY rows.length q.e.kids):=hkE;have HSM:Hid (∀ k,(aK (ah rs) typ (au rows) k).length≤100000000):=hsm;clear hs hl hse hlE hkE hsm;obtain ⟨i0,hi,hz0,hz1,hz2⟩:=info_parts IP;go_enter func118,ntmps118;go_wp2_with fail;have hbA:Below w.heap.size w (w.alloc (.cells #[] 210)):=(Below.refl _ _).alloc (Nat.le_refl _) _;have hown1:(w.alloc (.cells #[] 210)).ownsRow w.heap.size 210 3 (.slice (some ⟨w.heap.size,0,none⟩) 0 0) 0 []:=World.ownsRow_made w #[] 0 (Nat.le_refl _) (by decide) rfl;refine (FY adE capE rows _ (by omega) (HE.out.below hbA) HLE.out HKE.out).mono ?_;rintro e w1 ⟨rfl,hF⟩;have HO1:Hid (w1.ownsRow w.heap.size 210 3 (.slice (some ⟨w.heap.size,0,none⟩) 0 0) 0 []):=own_below hown1 hF.below;have HB1:Hid (Below w.heap.size w w1):=hbA.trans (hF.below.mono (by simp));have hgN:(w.alloc (.cells #[] 210)).heap.size=w.heap.size + 1:=by simp
  rw [hgN] at hF ⊢;have hgl:=hF.lt;have HNG:Hid (∀ (j:Nat) (h:j < rows.length),w1.cell? ⟨w.heap.size + 1,j,none⟩=some (.bool ((dD (au rows)).getD j false))):=by
    intro j hj;have hn:j < (dD (au rows)).length:=by rw [BF,bq]; exact hj
    have:=hF.done j (by simpa [bools] using hn);rw [this];simp [bools,hn]
  clear hF hown1 hbA hgN;obtain ⟨gN,hgN⟩:∃ gN,gN=w.heap.size + 1:=⟨_,rfl⟩;rw [← hgN] at hgl HNG ⊢;have hgne:w.heap.size < gN:=by omega
  clear hgN;go_wp2_with fail;go_loopw [7,9] (fun v i wr=>∃ k:Nat,k≤rows.length∧i=.int .i64 k∧Hid (wr.ownsRow w.heap.size 210 3 v (aK (ah rs) typ (au rows) k).length (dI (aK (ah rs) typ (au rows) k)))∧Hid (Below w.heap.size w wr)∧Hid (Aside w1 (.slice (some ⟨w.heap.size,0,none⟩) 0 0) wr v)) (fun _ i _=>rows.length - (intOf i).toNat);case atStart=>exact ⟨0,Nat.zero_le _,rfl,HO1,HB1,Aside.refl _ _⟩
  case round =>
    obtain ⟨k,hk,rfl,HOW,HB,HAS⟩:=hrel;by_cases hlt:k < rows.length
    · rcases HE.out.below HB.out with rfl | ⟨b,off,rfl,hb,hr,hok⟩
      · simp at hlt
      obtain ⟨t0,t1,t2,t3,t4⟩:=hr k hlt;have HOK:Hid (rows[k].ok w):=HE.out.mem (List.getElem_mem hlt);have lg:=(HLE.out rows[k] (List.getElem_mem hlt)).1;have hk1:=bR k;have hk2:(k:Int) < (rows.length:Int):=by omega
      have c0:wr.cell? ⟨gN,k,none⟩=some (.bool ((dD (au rows)).getD k false)):=(HAS.out.cell (p:=⟨gN,k,none⟩) hgl (by simp [Value.ownBlock]; omega)).trans (HNG.out k hlt);clear hr hok;obtain ⟨ng,hng⟩:∃ ng,ng=(dD (au rows)).getD k false:=⟨_,rfl⟩;rw [← hng] at c0;have HNK:Hid (ng=(dD (au rows)).getD k false):=hng;clear hng;obtain ⟨W1,hW1⟩:∃ W1,W1=wr.alloc (.cells #[.int .i64 rows[k].e.kind,.slice rows[k].adA rows[k].e.allow.length rows[k].capA,.string rows[k].e.over,.string rows[k].e.name,.slice rows[k].adK rows[k].e.kids.length rows[k].capK] 139):=⟨_,rfl⟩;have hal:Below wr.heap.size wr W1:=by rw [hW1]; exact (Below.refl _ _).alloc (Nat.le_refl _) _
      have HAL:Hid (Below wr.heap.size wr W1):=hal;have HBW:=gW HB hal;have hglW:wr.heap.size < W1.heap.size:=by rw [hW1]; simp
      have g0:W1.cell? ⟨wr.heap.size,0,none⟩=some (.int .i64 rows[k].e.kind):=by rw [hW1]; simp
      have g1:W1.cell? ⟨wr.heap.size,1,none⟩=some (.slice rows[k].adA rows[k].e.allow.length rows[k].capA):=by rw [hW1]; simp
      have g2:W1.cell? ⟨wr.heap.size,2,none⟩=some (.string rows[k].e.over):=by rw [hW1]; simp
      have g3:W1.cell? ⟨wr.heap.size,3,none⟩=some (.string rows[k].e.name):=by rw [hW1]; simp
      have hgr:gN < wr.heap.size:=Nat.lt_of_lt_of_le hgl HAS.out.size;have gn:=ak hal hgr c0;have HOW1:Hid (W1.ownsRow w.heap.size 210 3 u7 (aK (ah rs) typ (au rows) k).length (dI (aK (ah rs) typ (au rows) k))):=own_below HOW.out hal;have HV1:Hid (u7.ownBlock ≠ some gN):=HAS.out.apart hgl (by simp [Value.ownBlock]; omega);have HV2:Hid (u7.ownBlock ≠ some wr.heap.size):=fun e=>by have:=(HOW.out.lt _ e).2; omega
      clear hal c0;go_wp2_with fail;rw [← hW1];clear hW1 t0 t1 t2 t3 t4;obtain ⟨wo,hwo⟩:∃ wo,wo=wr:=⟨_,rfl⟩;subst hwo;go_loopw [7,11] (fun v i w2=>∃ j:Nat,j≤rows[k].e.allow.length∧i=.int .i64 j∧Hid (w2.ownsRow w.heap.size 210 3 v ((aK (ah rs) typ (au rows) k).length + (bM ng (rows[k].e.allow.take j)).length) (dI (aK (ah rs) typ (au rows) k ++ bM ng (rows[k].e.allow.take j))))∧Hid (Below w.heap.size w w2)∧Hid (Aside W1 u7 w2 v)) (fun _ i _=>rows[k].e.allow.length - (intOf i).toNat);case atStart=>exact ⟨0,Nat.zero_le _,rfl,(by simpa [bM,Hid] using HOW1),HBW,Aside.refl _ _⟩
      case round =>
        obtain ⟨j,hj,rfl,HO2,HB2,HA2⟩:=hrel;have d0:=nR HA2.out hglW HV2.out g0;have d1:=nR HA2.out hglW HV2.out g1;have d2:=nR HA2.out hglW HV2.out g2;have d3:=nR HA2.out hglW HV2.out g3;have dn:=nR HA2.out (Nat.lt_trans hgr hglW) HV1.out gn;clear g0 g1 g2 g3 gn;by_cases hjl:j < rows[k].e.allow.length
        · have hA3:=(HOK.out.1).below HB2.out;have hA4:=HOK.out.1;rcases hA4 with hnil | ⟨ba,offa,hadA,hba,-⟩
          · rw [hnil] at hjl; simp at hjl
          rcases hA3 with hnil | ⟨ba',offa',hadA',-,hra⟩
          · rw [hnil] at hjl; simp at hjl
          rw [hadA] at hadA' d1;injection hadA' with hadA'; injection hadA' with e1 e2;subst e1; subst e2;obtain ⟨q0,q1⟩:=hra j hjl;have hj1:=bR j;have hj2:(j:Int) < (rows[k].e.allow.length:Int):=by omega
          clear hra hadA;cases he:rows[k].e.allow[j].s.toList.isEmpty with
          | true =>
            have HE2:Hid (bM ng (rows[k].e.allow.take (j + 1))=bM ng (rows[k].e.allow.take j)):=IM _ _ _ hjl he;go_wp2;go_roundw;case rel=>exact ⟨j + 1,by omega,by go_num,by rw [HE2.out]; exact HO2,HB2,HA2⟩
            case measure=>simp [intOf] <;> omega
          | false =>
            have HE2:Hid (bM ng (rows[k].e.allow.take (j + 1))=bM ng (rows[k].e.allow.take j) ++ [⟨rows[k].e.allow[j].t,rows[k].e.allow[j].s,ng⟩]):=FZ _ _ _ hjl he;have a1:u7.ownBlock ≠ some wo.heap.size:=HA2.out.apart hglW HV2.out;have a2:u7.ownBlock ≠ some gN:=HA2.out.apart (Nat.lt_trans hgr hglW) HV1.out;have a3:u7.ownBlock ≠ some ba:=fun e=>by have:=(HO2.out.lt _ e).1; omega
            have l1:wo.heap.size < wr.heap.size:=Nat.lt_of_lt_of_le hglW HA2.out.size;have l2:gN < wr.heap.size:=Nat.lt_trans hgr l1;have l3:ba < wr.heap.size:=Nat.lt_of_lt_of_le hba HB2.out.size;have l4:w.heap.size≤wr.heap.size:=HB2.out.size;obtain ⟨xs,hxs⟩:∃ xs,xs=dI (aK (ah rs) typ (au rows) k ++ bM ng (rows[k].e.allow.take j)):=⟨_,rfl⟩;obtain ⟨n,hn⟩:∃ n,n=(aK (ah rs) typ (au rows) k).length + (bM ng (rows[k].e.allow.take j)).length:=⟨_,rfl⟩;have hnl:n≤101048576:=by
              have h1:=HSM.out k;have h2:=za ng (rows[k].e.allow.take j);rw [List.length_take] at h2;omega
            have hown:=HO2.out;rw [← hxs,← hn] at hown;have HXS:Hid (dI (aK (ah rs) typ (au rows) k ++ bM ng (rows[k].e.allow.take (j + 1)))=xs ++ [.string rows[k].e.allow[j].t,.string rows[k].e.allow[j].s,.bool ng]):=by
              show _=_;rw [HE2.out,← List.append_assoc,qx,← hxs]; rfl
            have HNN:Hid ((aK (ah rs) typ (au rows) k).length + (bM ng (rows[k].e.allow.take (j + 1))).length=n + 1):=by
              show _=_;rw [HE2.out,hn]; simp; omega
            clear HO2 hxs hn;go_wp2_with fail
            go_region_held3 (fun w'=>w'.cell? ⟨wo.heap.size,1,none⟩=some (.slice (some ⟨ba,offa,none⟩) rows[k].e.allow.length rows[k].capA)∧w'.cell? ⟨ba,offa + j * 2,none⟩=some (.string rows[k].e.allow[j].t) ∧
                w'.cell? ⟨ba,offa + j * 2 + 1,none⟩=some (.string rows[k].e.allow[j].s)∧w'.cell? ⟨gN,k,none⟩=some (.bool ng))
              (first
                | go_keep
                | (go_split_ands
                   refine ⟨?_,?_,?_,?_⟩
                   · (rw [hgrow.cell_far _ (by simp; omega) (Ne.symm a1)]; assumption)
                   · (rw [hgrow.cell_far _ (by simp; omega) (Ne.symm a3)]; assumption)
                   · (rw [hgrow.cell_far _ (by simp; omega) (Ne.symm a3)]; assumption)
                   · (rw [hgrow.cell_far _ (by simp; omega) (Ne.symm a2)]; assumption)))
              ((refine step_append_lies _ (by rfl) _ _ _ (by rfl) w.heap.size 210 i0 _ 3 40 underlying206 hi hz0 hz1 hz2 rfl (by omega) u7 n xs (by rfl) ((hown.alloc _).drew)
                  ⟨wr.heap.size,0,none⟩ 1 1 [.string rows[k].e.allow[j].t,.string rows[k].e.allow[j].s,.bool ng] (by rfl) (by rfl) (World.news_of_block (cs:=#[.string rows[k].e.allow[j].t,.string rows[k].e.allow[j].s,.bool ng]) (t:=210) (fr:=(0,0)) (heap_alloc_new wr _)) (by simp [Value.oneCell'])
                  (by omega) (by unfold maxLen; omega) (by omega) (by simp; omega) (wr.heap.size + 1) (by simp) ?_; intro gg cp w5 hown5 hgrow hat hlt5))
            have hb5:Hid (Below w.heap.size w w5):=((HB2.out.alloc HB2.out.size _).drew).grown hgrow (by simp; omega) (fun i hi=>(hown.lt i hi).1);have hAx:Aside wr u7 w5 (.slice (some ⟨gg,0,none⟩) (n + 1) cp):=(Aside.below (((Below.refl _ _).alloc (Nat.le_refl _) _).drew)).trans (Aside.app hgrow (by
              rcases hat with e | e
              · left; rw [e]; rfl
              · right; rw [e]; simp [Value.ownBlock]))
            have HA5:=HA2.out.trans hAx;have HA5':Hid (Aside W1 _ w5 (.slice (some ⟨gg,0,none⟩) (n + 1) cp)):=HA5;have HO5:Hid (w5.ownsRow w.heap.size 210 3 (.slice (some ⟨gg,0,none⟩) (n + 1) cp) ((aK (ah rs) typ (au rows) k).length + (bM ng (rows[k].e.allow.take (j + 1))).length) (dI (aK (ah rs) typ (au rows) k ++ bM ng (rows[k].e.allow.take (j + 1))))):=by
              show World.ownsRow _ _ _ _ _ _ _;rw [HXS.out,HNN.out]; exact hown5
            clear hown5 hgrow hat hAx HA5 hown;go_wp2;go_roundw;case rel=>exact ⟨j + 1,by omega,by go_num,HO5,hb5,HA5'⟩
            case measure=>simp [intOf] <;> omega
        · obtain rfl:j=rows[k].e.allow.length:=by omega
          have a1:u7.ownBlock ≠ some wo.heap.size:=HA2.out.apart hglW HV2.out;have a2:u7.ownBlock ≠ some gN:=HA2.out.apart (Nat.lt_trans hgr hglW) HV1.out;have l1:wo.heap.size < wr.heap.size:=Nat.lt_of_lt_of_le hglW HA2.out.size;have l2:gN < wr.heap.size:=Nat.lt_trans hgr l1;have l4:w.heap.size≤wr.heap.size:=HB2.out.size;have HUS:=BG (ah rs) typ rows k hlt ng HNK.out;obtain ⟨D,hD⟩:∃ D,D=aK (ah rs) typ (au rows) k ++ bM ng rows[k].e.allow:=⟨_,rfl⟩;have hown:wr.ownsRow w.heap.size 210 3 u7 D.length (dI D):=by
            have:=HO2.out;rw [List.take_length,← hD,← List.length_append,← hD] at this;exact this
          rw [← hD] at HUS;have hnl:D.length≤100000000:=by
            have h1:=HSM.out (k + 1);rw [HUS,List.length_append] at h1;omega
          have HUP:Hid (aK (ah rs) typ (au rows) (k + 1)=D ++ lq (ah rs) typ ng rows[k].e):=HUS;have HAW:Hid (Aside w1 (.slice (some ⟨w.heap.size,0,none⟩) 0 0) wr u7):=(HAS.out.trans (Aside.below HAL.out)).trans HA2.out;clear HO2 HUS hD;by_cases h2:rows[k].e.kind=2
          · have HXS:Hid (aK (ah rs) typ (au rows) (k + 1)=D ++ [⟨typ,rows[k].e.name,ng⟩]):=by show _=_; rw [HUP.out]; simp [lq,h2]
            obtain ⟨xs,hxs⟩:∃ xs,xs=dI D:=⟨_,rfl⟩;obtain ⟨n,hn⟩:∃ n,n=D.length:=⟨_,rfl⟩;rw [← hxs,← hn] at hown;rw [← hn] at hnl;have HFX:Hid (dI (aK (ah rs) typ (au rows) (k + 1))=xs ++ [.string typ,.string rows[k].e.name,.bool ng]):=by
              show _=_;rw [HXS.out,qx,← hxs]; rfl
            have HNN:Hid ((aK (ah rs) typ (au rows) (k + 1)).length=n + 1):=by show _=_; rw [HXS.out,hn]; simp
            clear hxs hn;go_wp2_with fail
            go_region_held3 (fun w'=>w'.cell? ⟨wo.heap.size,3,none⟩=some (.string rows[k].e.name)∧w'.cell? ⟨gN,k,none⟩=some (.bool ng))
              (first
                | go_keep
                | (go_split_ands
                   refine ⟨?_,?_⟩
                   · (rw [hgrow.cell_far _ (by simp; omega) (Ne.symm a1)]; assumption)
                   · (rw [hgrow.cell_far _ (by simp; omega) (Ne.symm a2)]; assumption)))
              ((refine step_append_lies _ (by rfl) _ _ _ (by rfl) w.heap.size 210 i0 _ 3 40 underlying206 hi hz0 hz1 hz2 rfl (by omega) u7 n xs (by rfl) ((hown.alloc _).drew)
                  ⟨wr.heap.size,0,none⟩ 1 1 [.string typ,.string rows[k].e.name,.bool ng] (by rfl) (by rfl) (World.news_of_block (cs:=#[.string typ,.string rows[k].e.name,.bool ng]) (t:=210) (fr:=(0,0)) (heap_alloc_new wr _)) (by simp [Value.oneCell'])
                  (by omega) (by unfold maxLen; omega) (by omega) (by simp; omega) (wr.heap.size + 1) (by simp) ?_; intro gg cp w5 hown5 hgrow hat hlt5))
            have hb5:Hid (Below w.heap.size w w5):=((HB2.out.alloc HB2.out.size _).drew).grown hgrow (by simp; omega) (fun i hi=>(hown.lt i hi).1);have hAx:Aside wr u7 w5 (.slice (some ⟨gg,0,none⟩) (n + 1) cp):=(Aside.below (((Below.refl _ _).alloc (Nat.le_refl _) _).drew)).trans (Aside.app hgrow (by
              rcases hat with e | e
              · left; rw [e]; rfl
              · right; rw [e]; simp [Value.ownBlock]))
            have f0:=nR hAx l1 a1 d0;have HA5:Hid (Aside w1 (.slice (some ⟨w.heap.size,0,none⟩) 0 0) w5 (.slice (some ⟨gg,0,none⟩) (n + 1) cp)):=HAW.out.trans hAx;have HO5:Hid (w5.ownsRow w.heap.size 210 3 (.slice (some ⟨gg,0,none⟩) (n + 1) cp) (aK (ah rs) typ (au rows) (k + 1)).length (dI (aK (ah rs) typ (au rows) (k + 1)))):=by
              show World.ownsRow _ _ _ _ _ _ _;rw [HFX.out,HNN.out]; exact hown5
            clear hown5 hgrow hat hAx hown d0 d1 d2 d3 dn;go_wp2;go_roundw;case rel=>exact ⟨k + 1,by omega,by go_num,HO5,hb5,HA5⟩
            case measure=>simp [intOf] <;> omega
          by_cases h3:rows[k].e.kind=3
          · go_wp2_with fail;refine (uj ad cap rs _ _ _ _ hlen (HS.out.below HB2.out) HL.out).mono ?_;rintro e w4 ⟨⟨ad4,cap4,rfl,hs4,hn4⟩,hb4⟩;have HXG:Hid (aK (ah rs) typ (au rows) (k + 1)=D ++ (fH (ah rs) typ rows[k].e.over rows[k].e.name).map fun g=>(⟨g,rows[k].e.name,ng⟩:Dp)):=by show _=_; rw [HUP.out]; simp [lq,h3]
            generalize fH (ah rs) typ rows[k].e.over rows[k].e.name=gs at *
            have hgs:D.length + gs.length≤100000000:=by
              have h1:=HSM.out (k + 1);rw [HXG.out,List.length_append,List.length_map] at h1;exact h1
            have f3:=ak hb4 l1 d3;have fn:=ak hb4 l2 dn;have HO4:Hid (w4.ownsRow w.heap.size 210 3 u7 D.length (dI D)):=own_below hown hb4;have HB4:=gW HB2 hb4;have HA4:Hid (Aside w1 (.slice (some ⟨w.heap.size,0,none⟩) 0 0) w4 u7):=HAW.out.trans (Aside.below hb4);have HSG:Hid (Kq w4 ad4 gs):=hs4;have HVG:Hid (∀ p,ad4=some p→u7.ownBlock ≠ some p.block):=fun p hp e=>by have h1:=(hown.lt _ e).2; have h2:=hn4 p hp; omega
            have m1:wo.heap.size < w4.heap.size:=Nat.lt_of_lt_of_le l1 hb4.size;have m2:gN < w4.heap.size:=Nat.lt_of_lt_of_le l2 hb4.size;have m4:w.heap.size≤w4.heap.size:=HB4.out.size;clear hown hb4 hs4 hn4 d0 d1 d2 d3 dn l1 l2 l4;obtain ⟨uo,huo⟩:∃ uo,uo=u7:=⟨_,rfl⟩;subst huo;go_wp2_with fail;go_loopw [7,13] (fun v i w6=>∃ m:Nat,m≤gs.length∧i=.int .i64 m∧Hid (w6.ownsRow w.heap.size 210 3 v (D.length + m) (dI (D ++ (gs.take m).map fun g=>(⟨g,rows[k].e.name,ng⟩:Dp))))∧Hid (Below w.heap.size w w6)∧Hid (Aside w4 uo w6 v)) (fun _ i _=>gs.length - (intOf i).toNat);case atStart=>exact ⟨0,Nat.zero_le _,rfl,(by simpa [Hid] using HO4),HB4,Aside.refl _ _⟩
            case round =>
              obtain ⟨m,hm,rfl,HO6,HB6,HA6⟩:=hrel;have x3:=nR HA6.out m1 a1 f3;have xn:=nR HA6.out m2 a2 fn;by_cases hml:m < gs.length
              · rcases HSG.out with rfl | ⟨bg,offg,rfl,hbg,hrg⟩
                · simp at hml
                have q0:=nR HA6.out hbg (HVG.out _ rfl) (hrg m hml);have hm1:=bR m;have hm2:(m:Int) < (gs.length:Int):=by omega
                have b1:u7.ownBlock ≠ some wo.heap.size:=HA6.out.apart m1 a1;have b2:u7.ownBlock ≠ some gN:=HA6.out.apart m2 a2;have b3:u7.ownBlock ≠ some bg:=HA6.out.apart hbg (HVG.out _ rfl);have l1:wo.heap.size < wr.heap.size:=Nat.lt_of_lt_of_le m1 HA6.out.size;have l2:gN < wr.heap.size:=Nat.lt_of_lt_of_le m2 HA6.out.size;have l3:bg < wr.heap.size:=Nat.lt_of_lt_of_le hbg HA6.out.size;have l4:w.heap.size≤wr.heap.size:=HB6.out.size;obtain ⟨xs,hxs⟩:∃ xs,xs=dI (D ++ (gs.take m).map fun g=>(⟨g,rows[k].e.name,ng⟩:Dp)):=⟨_,rfl⟩;obtain ⟨n,hn⟩:∃ n,n=D.length + m:=⟨_,rfl⟩;have hown:=HO6.out;rw [← hxs,← hn] at hown;have HFX:Hid (dI (D ++ (gs.take (m + 1)).map fun g=>(⟨g,rows[k].e.name,ng⟩:Dp))=xs ++ [.string gs[m],.string rows[k].e.name,.bool ng]):=by
                  show _=_;rw [List.take_succ_eq_append_getElem hml,List.map_append,← List.append_assoc,List.map_singleton,qx,← hxs]; rfl
                have HNN:Hid (D.length + (m + 1)=n + 1):=by show _=_; omega
                have hnl2:n≤100000000:=by omega
                have hgb:gs.length≤100000000:=by omega
                clear HO6 hxs hn hrg hnl hgs;go_wp2_with fail
                go_region_held3 (fun w'=>w'.cell? ⟨wo.heap.size,3,none⟩=some (.string rows[k].e.name)∧w'.cell? ⟨gN,k,none⟩=some (.bool ng)∧w'.cell? ⟨bg,offg + m,none⟩=some (.string gs[m]))
                  (first
                    | go_keep
                    | (go_split_ands
                       refine ⟨?_,?_,?_⟩
                       · (rw [hgrow.cell_far _ (by simp; omega) (Ne.symm b1)]; assumption)
                       · (rw [hgrow.cell_far _ (by simp; omega) (Ne.symm b2)]; assumption)
                       · (rw [hgrow.cell_far _ (by simp; omega) (Ne.symm b3)]; assumption)))
                  ((refine step_append_lies _ (by rfl) _ _ _ (by rfl) w.heap.size 210 i0 _ 3 40 underlying206 hi hz0 hz1 hz2 rfl (by omega) u7 n xs (by rfl) ((hown.alloc _).drew)
                      ⟨wr.heap.size,0,none⟩ 1 1 [.string gs[m],.string rows[k].e.name,.bool ng] (by rfl) (by rfl) (World.news_of_block (cs:=#[.string gs[m],.string rows[k].e.name,.bool ng]) (t:=210) (fr:=(0,0)) (heap_alloc_new wr _)) (by simp [Value.oneCell'])
                      (by omega) (by unfold maxLen; omega) (by omega) (by simp; omega) (wr.heap.size + 1) (by simp) ?_; intro gg cp w5 hown5 hgrow hat hlt5))
                have hb5:Hid (Below w.heap.size w w5):=((HB6.out.alloc HB6.out.size _).drew).grown hgrow (by simp; omega) (fun i hi=>(hown.lt i hi).1);have hAx:Aside wr u7 w5 (.slice (some ⟨gg,0,none⟩) (n + 1) cp):=(Aside.below (((Below.refl _ _).alloc (Nat.le_refl _) _).drew)).trans (Aside.app hgrow (by
                  rcases hat with e | e
                  · left; rw [e]; rfl
                  · right; rw [e]; simp [Value.ownBlock]))
                have HA5:Hid (Aside w4 uo w5 (.slice (some ⟨gg,0,none⟩) (n + 1) cp)):=HA6.out.trans hAx;have HO5:Hid (w5.ownsRow w.heap.size 210 3 (.slice (some ⟨gg,0,none⟩) (n + 1) cp) (D.length + (m + 1)) (dI (D ++ (gs.take (m + 1)).map fun g=>(⟨g,rows[k].e.name,ng⟩:Dp)))):=by
                  show World.ownsRow _ _ _ _ _ _ _;rw [HFX.out,HNN.out]; exact hown5
                clear hown5 hgrow hat hAx hown;go_wp2;go_roundw;case rel=>exact ⟨m + 1,by omega,by go_num,HO5,hb5,HA5⟩
                case measure=>simp [intOf] <;> omega
              · obtain rfl:m=gs.length:=by omega
                have HO5:Hid (wr.ownsRow w.heap.size 210 3 u7 (aK (ah rs) typ (au rows) (k + 1)).length (dI (aK (ah rs) typ (au rows) (k + 1)))):=by
                  have:=HO6.out;show World.ownsRow _ _ _ _ _ _ _;rw [List.take_length] at this;rw [HXG.out,List.length_append,List.length_map];exact this
                have HA5:Hid (Aside w1 (.slice (some ⟨w.heap.size,0,none⟩) 0 0) wr u7):=HA4.out.trans HA6.out;clear HO6;go_wp2;go_roundw;case rel=>exact ⟨k + 1,by omega,by go_num,HO5,HB6,HA5⟩
                case measure=>simp [intOf] <;> omega
          · have HXS:Hid (aK (ah rs) typ (au rows) (k + 1)=D):=by show _=_; rw [HUP.out]; simp [lq,h2,h3]
            have hb2:(rows[k].e.kind == 2)=false:=by simpa using h2
            have hb3:(rows[k].e.kind == 3)=false:=by simpa using h3
            have HO5:Hid (wr.ownsRow w.heap.size 210 3 u7 (aK (ah rs) typ (au rows) (k + 1)).length (dI (aK (ah rs) typ (au rows) (k + 1)))):=by
              show World.ownsRow _ _ _ _ _ _ _;rw [HXS.out]; exact hown
            clear hown;go_wp2;go_roundw;case rel=>exact ⟨k + 1,by omega,by go_num,HO5,HB2,HAW⟩
            case measure=>simp [intOf] <;> omega
    · obtain rfl:k=rows.length:=by omega
      have HFI:Hid (wr.ownsRow w.heap.size 210 3 u7 (nN (ah rs) typ (au rows)).length (dI (nN (ah rs) typ (au rows)))):=by
        have:=HOW.out;show World.ownsRow _ _ _ _ _ _ _;unfold nN;rw [bq];exact this
      clear HOW;go_wp2;go_ret;exact ⟨⟨_,rfl,HFI.out⟩,HB.out⟩
def St.cells (s:St):List Value:=[.string s.typ,.string s.rel,.int .i64 s.n]
def fT:List St→List Value
 | []=>[]
 | s::xs=>s.cells ++ fT xs
theorem Aj (xs ys:List St):fT (xs ++ ys)=fT xs ++ fT ys:=by
 induction xs with
 | nil=>rfl
 | cons d ds ih=>simp [fT,ih]
theorem wL (xs:List St) (d:St):fT (xs ++ [d])=fT xs ++ d.cells:=by rw [Aj]; simp [fT]
theorem fP (xs:List St) (i:Nat) (h:i < xs.length) (o:Nat) (ho:o < 3):(fT xs)[i * 3 + o]?=(xs[i].cells)[o]?:=by
 induction xs generalizing i with
 | nil=>simp at h
 | cons s xs ih =>
  cases i with
  | zero =>
   simp only [fT,Nat.zero_mul,Nat.zero_add,List.getElem_cons_zero];rw [List.getElem?_append_left (by simp [St.cells]; omega)]
  | succ i =>
   simp only [fT,List.getElem_cons_succ];rw [List.getElem?_append_right (by simp [St.cells]; omega)];have e:(i + 1) * 3 + o - s.cells.length=i * 3 + o:=by simp [St.cells]; omega
   rw [e];exact ih i (by simpa using h)
theorem sM (xs:List Dp) (i:Nat) (h:i < xs.length) (o:Nat) (ho:o < 3):(dI xs)[i * 3 + o]?=(xs[i].cells)[o]?:=by
 induction xs generalizing i with
 | nil=>simp at h
 | cons s xs ih =>
  cases i with
  | zero =>
   simp only [dI,Nat.zero_mul,Nat.zero_add,List.getElem_cons_zero];rw [List.getElem?_append_left (by simp [Dp.cells]; omega)]
  | succ i =>
   simp only [dI,List.getElem_cons_succ];rw [List.getElem?_append_right (by simp [Dp.cells]; omega)];have e:(i + 1) * 3 + o - s.cells.length=i * 3 + o:=by simp [Dp.cells]; omega
   rw [e];exact ih i (by simpa using h)
theorem BH (g j:Nat):(⟨g,0,none⟩:Addr).add j=⟨g,j,none⟩:=by
 unfold Addr.add;by_cases hj:j=0
 ·subst hj; simp
 ·simp [hj]
theorem IW {w:World} {base:Nat} {t:TypeId} {v:Value} {n:Nat} {xs:List Value} (h:w.ownsRow base t 3 v n xs):∃ ad cp,v=.slice ad n cp∧(n=0 ∨ ∃ g,ad=some ⟨g,0,none⟩∧base≤g∧g < w.heap.size∧∀ (j:Nat) (u:Value),xs[j]?=some u→w.cell? ⟨g,j,none⟩=some u):=by
 have h2:=h;rcases h.2 with ⟨rfl,h0⟩ | ⟨g,cp,cur,rfl,hbg,hg,hnc,-⟩
 ·exact ⟨none,0,by rw [h0],.inl h0⟩
 ·have hlt:=h2.lt g rfl;refine ⟨_,cp,rfl,.inr ⟨g,rfl,hlt.1,hlt.2,fun j u hu=>?_⟩⟩;have:=h2.cells (g:=g) rfl j u hu;rwa [BH] at this
def AtD (w:World) (b off:Nat) (d:Dp):Prop:=w.cell? ⟨b,off,none⟩=some (.string d.typ)∧w.cell? ⟨b,off + 1,none⟩=some (.string d.rel)∧w.cell? ⟨b,off + 2,none⟩=some (.bool d.neg)
def KO (w:World) (lo:Nat) (ad:Option Addr) (xs:List Dp):Prop:=xs=[] ∨ ∃ b,ad=some ⟨b,0,none⟩∧lo≤b∧b < w.heap.size∧∀ (i:Nat) (h:i < xs.length),AtD w b (i * 3) xs[i]
theorem Ni {w:World} {base:Nat} {v:Value} {xs:List Dp} (h:w.ownsRow base 210 3 v xs.length (dI xs)):∃ ad cp,v=.slice ad xs.length cp∧KO w base ad xs:=by
 obtain ⟨ad,cp,e,h0⟩:=IW h;refine ⟨ad,cp,e,?_⟩;rcases h0 with h0 | ⟨g,e1,hb,hg,hc⟩
 ·exact .inl (List.length_eq_zero_iff.1 h0)
 ·refine .inr ⟨g,e1,hb,hg,fun i hi=>⟨?_,?_,?_⟩⟩
  ·exact hc _ _ (by have:=sM xs i hi 0 (by omega); simpa [Dp.cells] using this)
  ·exact hc _ _ (by have:=sM xs i hi 1 (by omega); simpa [Dp.cells] using this)
  ·exact hc _ _ (by have:=sM xs i hi 2 (by omega); simpa [Dp.cells] using this)
def NB (w:World) (g:Nat) (xs:List St):Prop:=∀ (i:Nat) (h:i < xs.length),Nh w g (i * 3) xs[i]
theorem Nj {w:World} {base:Nat} {v:Value} {xs:List St} (h:w.ownsRow base 205 3 v xs.length (fT xs)):∃ ad cp,v=.slice ad xs.length cp∧(xs.length=0 ∨ ∃ g,ad=some ⟨g,0,none⟩∧base≤g∧g < w.heap.size∧NB w g xs):=by
 obtain ⟨ad,cp,e,h0⟩:=IW h;refine ⟨ad,cp,e,?_⟩;rcases h0 with h0 | ⟨g,e1,hb,hg,hc⟩
 ·exact .inl h0
 ·refine .inr ⟨g,e1,hb,hg,fun i hi=>⟨?_,?_,?_⟩⟩
  ·exact hc _ _ (by have:=fP xs i hi 0 (by omega); simpa [St.cells] using this)
  ·exact hc _ _ (by have:=fP xs i hi 1 (by omega); simpa [St.cells] using this)
  ·exact hc _ _ (by have:=fP xs i hi 2 (by omega); simpa [St.cells] using this)
theorem KP:(prog.info? 205).map (fun i=>(i.zero,i.size,i.bytes))=some (some (.agg #[.string ⟨#[]⟩,.string ⟨#[]⟩,.int .i64 0]),3,40):=by kernel_rfl
def Bb (ks:List (ByteArray × ByteArray)):List St:=ks.map fun k=>⟨k.1,k.2,0⟩
theorem Ak (ks:List (ByteArray × ByteArray)):(Bb ks).length=ks.length:=by simp [Bb]
theorem IX (ks:List (ByteArray × ByteArray)) (k:ByteArray × ByteArray):Bb (ks ++ [k])=Bb ks ++ [⟨k.1,k.2,0⟩]:=by simp [Bb]
def bP (rs:List TR) (k:Nat):List (ByteArray × ByteArray):=az (ah (rs.take k))
def gy (t:TR) (j:Nat):List (ByteArray × ByteArray):=(t.rows.take j).map fun q=>(t.name,q.name)
theorem mq (rs:List TR) (k:Nat) (h:k < rs.length):bP rs (k + 1)=bP rs k ++ gy rs[k] rs[k].rows.length:=by
 unfold bP gy;rw [List.take_succ_eq_append_getElem h,List.take_length];unfold ah az;rw [List.map_append,List.flatMap_append,List.map_singleton,List.flatMap_singleton];congr 1;simp [zb,TR.p,dO,RR.p]
theorem qD (t:TR) (j:Nat) (h:j < t.rows.length):gy t (j + 1)=gy t j ++ [(t.name,t.rows[j].name)]:=by
 unfold gy;rw [List.take_succ_eq_append_getElem h,List.map_append]; rfl
theorem zg (t:TR) (j:Nat):(gy t j).length≤t.rows.length:=by unfold gy; simp; omega
theorem sN (rs:List TR) (hr:∀ r ∈ rs,r.rows.length≤6) (k:Nat):(bP rs k).length≤k * 6:=by
 induction k with
 | zero=>simp [bP,ah,az]
 | succ k ih =>
  by_cases h:k < rs.length
  ·rw [mq _ _ h,List.length_append];have h1:=zg rs[k] rs[k].rows.length;have h2:=hr rs[k] (List.getElem_mem h);omega
  ·have e:rs.take (k + 1)=rs.take k:=by rw [List.take_of_length_le (by omega),List.take_of_length_le (by omega)]
   unfold bP at ih ⊢;rw [e]; omega
open Go.Maps
def RR.sl (q:RR):Value:=.slice q.ad q.rows.length q.cap
def jG (t:ByteArray) (M:ByteArray × ByteArray→Option Value):List RR→ByteArray × ByteArray→Option Value
 | []=>M
 | q::qs=>jG t (kD M (t,q.name) (some q.sl)) qs
def dJ (M:ByteArray × ByteArray→Option Value):List TR→ByteArray × ByteArray→Option Value
 | []=>M
 | t::ts=>dJ (jG t.name M t.rows) ts
def mr (rs:List TR):ByteArray × ByteArray→Option Value:=dJ (fun _=>none) rs
theorem Am (t:ByteArray) (M:ByteArray × ByteArray→Option Value) (xs ys:List RR):jG t M (xs ++ ys)=jG t (jG t M xs) ys:=by
 induction xs generalizing M with
 | nil=>rfl
 | cons q qs ih=>simp only [List.cons_append,jG]; exact ih _
theorem wM (M:ByteArray × ByteArray→Option Value) (xs ys:List TR):dJ M (xs ++ ys)=dJ (dJ M xs) ys:=by
 induction xs generalizing M with
 | nil=>rfl
 | cons q qs ih=>simp only [List.cons_append,dJ]; exact ih _
theorem DF (t:ByteArray) (M:ByteArray × ByteArray→Option Value) (qs:List RR) (j:Nat) (h:j < qs.length):jG t M (qs.take (j + 1))=kD (jG t M (qs.take j)) (t,qs[j].name) (some qs[j].sl):=by
 rw [List.take_succ_eq_append_getElem h,Am]; rfl
theorem Ao (M:ByteArray × ByteArray→Option Value) (rs:List TR) (k:Nat) (h:k < rs.length):dJ M (rs.take (k + 1))=jG rs[k].name (dJ M (rs.take k)) rs[k].rows:=by
 rw [List.take_succ_eq_append_getElem h,wM]; rfl
set_option maxRecDepth 100000 in
theorem nU (ad:Option Addr) (cap:Nat) (rs:List TR) (w:World) (hlen:rs.length≤6) (hs:gp w ad rs) (hrl:∀ r ∈ rs,r.rows.length≤6) (hf:∀ r ∈ rs,r.fits) :
  Calls prog 41 #[.slice ad rs.length cap] w fun e w'=>e=.returned (.map (some w.heap.size))∧aJ bI prog 147 w' w.heap.size 36 (mr rs)∧Below w.heap.size w w':=by
 have HS:Hid (gp w ad rs):=hs;have HRL:Hid (∀ r ∈ rs,r.rows.length≤6):=hrl;have HFT:Hid (∀ r ∈ rs,r.fits):=hf;have HM0:Hid (aJ bI prog 147 (w.alloc (.map #[] 0)) w.heap.size 0 (fun _=>none)):=oQ _ _ _ w;have HB0:Hid (Below w.heap.size w (w.alloc (.map #[] 0))):=(Below.refl _ _).alloc (Nat.le_refl _) _;clear hs hrl hf;have hmm:=@run_makeMap prog;go_enter func41,ntmps41;go_wp2_with fail;go_loopw [11] (fun i wr=>∃ k:Nat,k≤rs.length∧i=.int .i64 k∧Hid (aJ bI prog 147 wr w.heap.size (k * 6) (dJ (fun _=>none) (rs.take k)))∧Hid (Below w.heap.size w wr)) (fun i _=>rs.length - (intOf i).toNat);case atStart=>exact ⟨0,Nat.zero_le _,rfl,HM0,HB0⟩
 case round =>
  clear HM0 HB0 hmm;obtain ⟨k,hk,rfl,HM,HB⟩:=hrel;by_cases hlt:k < rs.length
  ·rcases HS.out.below HB.out with rfl | ⟨b,off,rfl,hb,hr,hok⟩
   ·simp at hlt
   obtain ⟨t0,t1⟩:=hr k hlt;have hk1:=bR k;have hk2:(k:Int) < (rs.length:Int):=by omega
   have h6:rs[k].rows.length≤6:=HRL.out _ (List.getElem_mem hlt);have z0:rs[k].name.size≤maxLen:=(HFT.out _ (List.getElem_mem hlt)).1;have HFR:Hid (∀ q ∈ rs[k].rows,q.fits):=(HFT.out _ (List.getElem_mem hlt)).2.2;clear hr hok;obtain ⟨W1,hW1⟩:∃ W1,W1=wr.alloc (.cells #[.string rs[k].name,.slice rs[k].ad rs[k].rows.length rs[k].cap] 63):=⟨_,rfl⟩;have hal:Below wr.heap.size wr W1:=by rw [hW1]; exact (Below.refl _ _).alloc (Nat.le_refl _) _
   have HM1:Hid (aJ bI prog 147 W1 w.heap.size (k * 6) (dJ (fun _=>none) (rs.take k))):=HM.out.below hal;have HB1:=gW HB hal;have HC1:Hid (wr.heap.size < W1.heap.size∧W1.cell? ⟨wr.heap.size,0,none⟩=some (.string rs[k].name)):=⟨by rw [hW1]; simp,by rw [hW1]; simp⟩;have hgw:w.heap.size < wr.heap.size:=HM.out.lt;clear HM hal;go_wp2_with fail;rw [← hW1];clear hW1 t0 t1 HB;obtain ⟨wo,hwo⟩:∃ wo,wo=wr:=⟨_,rfl⟩;subst hwo;go_loopw [18] (fun i w2=>∃ j:Nat,j≤rs[k].rows.length∧i=.int .i64 j∧Hid (aJ bI prog 147 w2 w.heap.size (k * 6 + j) (jG rs[k].name (dJ (fun _=>none) (rs.take k)) (rs[k].rows.take j)))∧Hid (Below w.heap.size w w2)∧Hid (wo.heap.size < w2.heap.size∧w2.cell? ⟨wo.heap.size,0,none⟩=some (.string rs[k].name))) (fun i _=>rs[k].rows.length - (intOf i).toNat);case atStart=>exact ⟨0,Nat.zero_le _,rfl,HM1,HB1,HC1⟩
   case round =>
    clear HM1 HB1 HC1;obtain ⟨j,hj,rfl,HM,HB,HC⟩:=hrel;by_cases hjl:j < rs[k].rows.length
    ·rcases HS.out.below HB.out with hnil | ⟨b',off',he,hb2,hr,hok⟩
     ·rw [hnil] at hlt; simp at hlt
     injection he with he; injection he with he1 he2; subst he1; subst he2;have ok:=hok rs[k] (List.getElem_mem hlt);rcases ok with hnil | ⟨b2,off2,had,hbb,hr2,-⟩
     ·rw [hnil] at hjl; simp at hjl
     obtain ⟨q0,q1⟩:=hr2 j hjl;have z1:rs[k].rows[j].name.size≤maxLen:=(HFR.out _ (List.getElem_mem hjl)).1;have hj1:=bR j;have hj2:(j:Int) < (rs[k].rows.length:Int):=by omega
     obtain ⟨kl,hkl⟩:=jo (rs[k].name,rs[k].rows[j].name) z0 z1;have HKL:Hid (keyOf prog 147 (bI (rs[k].name,rs[k].rows[j].name))=some kl):=hkl;obtain ⟨W2,hW2⟩:∃ W2,W2=wr.alloc (.cells #[.string rs[k].rows[j].name,.slice rs[k].rows[j].ad rs[k].rows[j].rows.length rs[k].rows[j].cap] 126):=⟨_,rfl⟩;have hal:Below wr.heap.size wr W2:=by rw [hW2]; exact (Below.refl _ _).alloc (Nat.le_refl _) _
     have HM2:Hid (aJ bI prog 147 W2 w.heap.size (k * 6 + j) (jG rs[k].name (dJ (fun _=>none) (rs.take k)) (rs[k].rows.take j))):=HM.out.below hal;have HB2:=gW HB hal;have hc1:=ak hal HC.out.1 HC.out.2;have HC2:Hid (wo.heap.size < W2.heap.size∧W2.cell? ⟨wo.heap.size,0,none⟩=some (.string rs[k].name)):=⟨Nat.lt_of_lt_of_le HC.out.1 hal.size,hc1⟩;have g0:W2.cell? ⟨wr.heap.size,0,none⟩=some (.string rs[k].rows[j].name):=by rw [hW2]; simp
     have g1:W2.cell? ⟨wr.heap.size,1,none⟩=some (.slice rs[k].rows[j].ad rs[k].rows[j].rows.length rs[k].rows[j].cap):=by rw [hW2]; simp
     have hsz:wo.heap.size < wr.heap.size:=HC.out.1;have hc0:=HC.out.2;rw [had];clear hr hok hr2 hkl HM hal HC;go_wp2_with (first | (at_mapUpdate; rw [← hW2]; refine kQ _ rfl _ _ _ 88 rfl 147 124 iq nI underlying88 w.heap.size (k * 6 + j) _ rfl HM2.out (by unfold maxLen; omega) (rs[k].name,rs[k].rows[j].name) kl rfl HKL.out _ rfl ?_; intro w3 hV3 hg3) | go_in);have HM4:Hid (aJ bI prog 147 w3 w.heap.size (k * 6 + (j + 1)) (jG rs[k].name (dJ (fun _=>none) (rs.take k)) (rs[k].rows.take (j + 1)))):=by
      show aJ _ _ _ _ _ _ _;rw [DF _ _ _ _ hjl]; exact hV3
     have HB4:Hid (Below w.heap.size w w3):=HB2.out.grown hg3 HB2.out.size (fun i hi=>by injection hi with hi; omega);have HC4:Hid (wo.heap.size < w3.heap.size∧w3.cell? ⟨wo.heap.size,0,none⟩=some (.string rs[k].name)):=⟨Nat.lt_of_lt_of_le HC2.out.1 hg3.size,by rw [hg3.cell_far _ HC2.out.1 (by simp; omega)]; exact HC2.out.2⟩;clear hV3 hg3 hW2 HM2 HB2 HC2 g0 g1 q0 q1 hc0 hc1;go_wp2;go_roundw;case rel=>exact ⟨j + 1,by omega,by go_num,HM4,HB4,HC4⟩
     case measure=>simp [intOf] <;> omega
    ·obtain rfl:j=rs[k].rows.length:=by omega
     have HM4:Hid (aJ bI prog 147 wr w.heap.size ((k + 1) * 6) (dJ (fun _=>none) (rs.take (k + 1)))):=by
      show aJ _ _ _ _ _ _ _;have:=HM.out;rw [List.take_length] at this;rw [Ao _ _ _ hlt]; exact this.mono (by omega)
     clear HM;go_wp2;go_roundw;case rel=>exact ⟨k + 1,by omega,by go_num,HM4,HB⟩
     case measure=>simp [intOf] <;> omega
  ·obtain rfl:k=rs.length:=by omega
   have HM4:Hid (aJ bI prog 147 wr w.heap.size 36 (mr rs)):=by
    show aJ _ _ _ _ _ _ _;have:=HM.out;rw [List.take_length] at this;exact this.mono (by omega)
   go_wp2;go_ret;exact ⟨rfl,HM4.out,HB.out⟩
theorem LC:∀ x:List UInt8,Op.bytesLess x x=false
 | []=>rfl
 | a::x=>by simp [Op.bytesLess,LC x]
theorem LD:∀ x y z:List UInt8,Op.bytesLess x y=true→Op.bytesLess y z=true→Op.bytesLess x z=true
 | [],_,[],h,k=>by cases ‹List UInt8› <;> simp [Op.bytesLess] at h k
 | [],_,_::_,_,_=>rfl
 | _::_,[],_,h,_=>by simp [Op.bytesLess] at h
 | _::_,_::_,[],_,k=>by simp [Op.bytesLess] at k
 | a::x,b::y,c::z,h,k=>by
  simp only [Op.bytesLess,Bool.or_eq_true,Bool.and_eq_true,decide_eq_true_eq,beq_iff_eq] at h k ⊢;rcases h with h | ⟨h,h'⟩
  ·rcases k with k | ⟨k,k'⟩
   ·exact .inl (UInt8.lt_trans h k)
   ·exact .inl (k ▸ h)
  ·rcases k with k | ⟨k,k'⟩
   ·exact .inl (h ▸ k)
   ·exact .inr ⟨h.trans k,LD x y z h' k'⟩
theorem zh {f:Nat→ByteArray} {n:Nat} (h:∀ i,i + 1 < n→fD (f i) (f (i + 1))=true):∀ i j,i < j→j < n→f i ≠ f j:=by
 have h2:∀ d i,i + d + 1 < n→fD (f i) (f (i + d + 1))=true:=by
  intro d
  induction d with
  | zero=>intro i hi; exact h i (by omega)
  | succ d ih =>
   intro i hi;have h3:=ih i (by omega);have h4:=h (i + d + 1) (by omega);exact LD _ _ _ h3 h4
 intro i j hij hj e;have h5:=h2 (j - i - 1) i (by omega);have e2:i + (j - i - 1) + 1=j:=by omega
 rw [e2,e] at h5;unfold fD at h5;rw [LC] at h5;cases h5
theorem oU {rs:List TR} (h:cu (ah rs)=true) (k:Nat) (hk:k < rs.length):aU rs[k].name=true∧(∀ i (hi:i < rs.length),k=i + 1→fD rs[i].name rs[k].name=true)∧dN (dO rs[k].rows) rs[k].rows.length=true:=by
 simp only [cu,Bool.and_eq_true,decide_eq_true_eq] at h;rw [jL] at h;have h1:=qB h.2 k hk;unfold jF at h1;have e:(ah rs)[k]?=some rs[k].p:=by simp [ah,hk]
 rw [e] at h1;simp only [Bool.and_eq_true,decide_eq_true_eq] at h1;have e2:rs[k].p.rels.length=rs[k].rows.length:=by simp [TR.p,dO]
 rw [e2] at h1;refine ⟨h1.1.1.1,fun i hi hki=>?_,h1.2⟩;subst hki;have h2:=h1.1.1.2;have e3:(ah rs)[i]?=some rs[i].p:=by simp [ah,hi]
 simp only [e3,Option.map_some,Option.getD_some] at h2;exact h2
theorem F9 {rs:List RR} {n:Nat} (h:dN (dO rs) n=true) (k:Nat) (hk:k < rs.length) (hn:k < n):aU rs[k].name=true∧(∀ i (hi:i < rs.length),k=i + 1→fD rs[i].name rs[k].name=true)∧aS (au rs[k].rows)=true:=by
 have h1:=qA h k hn;unfold kI at h1;have e:(dO rs)[k]?=some rs[k].p:=by simp [dO,hk]
 rw [e] at h1;simp only [Bool.and_eq_true] at h1;refine ⟨h1.1.1,fun i hi hki=>?_,h1.2⟩;subst hki;have h2:=h1.1.2;have e3:(dO rs)[i]?=some rs[i].p:=by simp [dO,hi]
 simp only [e3,Option.map_some,Option.getD_some] at h2;exact h2
theorem BI {rs:List TR} (h:cu (ah rs)=true) {t t':TR} (ht:t ∈ rs) (ht':t' ∈ rs) (e:t.name=t'.name):t=t':=by
 obtain ⟨i,hi,rfl⟩:=List.mem_iff_getElem.1 ht;obtain ⟨j,hj,rfl⟩:=List.mem_iff_getElem.1 ht';have hne:=zh (f:=fun k=>(rs[k]?.map TR.name).getD ByteArray.empty) (n:=rs.length) (fun k hk=>by
  have h0:k < rs.length:=by omega
  simp only [List.getElem?_eq_getElem hk,List.getElem?_eq_getElem h0,Option.map_some,Option.getD_some];exact (oU h (k + 1) hk).2.1 k h0 rfl)
 by_cases hij:i=j
 ·subst hij; rfl
 ·exfalso;rcases Nat.lt_or_gt_of_ne hij with hl | hl
  ·have:=hne i j hl hj; simp [hi,hj] at this; exact this e
  ·have:=hne j i hl hi; simp [hi,hj] at this; exact this e.symm
theorem BJ {rs:List RR} (h:dN (dO rs) rs.length=true) {t t':RR} (ht:t ∈ rs) (ht':t' ∈ rs) (e:t.name=t'.name):t=t':=by
 obtain ⟨i,hi,rfl⟩:=List.mem_iff_getElem.1 ht;obtain ⟨j,hj,rfl⟩:=List.mem_iff_getElem.1 ht';have hne:=zh (f:=fun k=>(rs[k]?.map RR.name).getD ByteArray.empty) (n:=rs.length) (fun k hk=>by
  have h0:k < rs.length:=by omega
  simp only [List.getElem?_eq_getElem hk,List.getElem?_eq_getElem h0,Option.map_some,Option.getD_some];exact (F9 h (k + 1) hk hk).2.1 k h0 rfl)
 by_cases hij:i=j
 ·subst hij; rfl
 ·exfalso;rcases Nat.lt_or_gt_of_ne hij with hl | hl
  ·have:=hne i j hl hj; simp [hi,hj] at this; exact this e
  ·have:=hne j i hl hi; simp [hi,hj] at this; exact this e.symm
theorem DI {t:ByteArray} {M:ByteArray × ByteArray→Option Value} {qs:List RR} {k:ByteArray × ByteArray} {v:Value} (h:jG t M qs k=some v):M k=some v ∨ ∃ q ∈ qs,k=(t,q.name)∧v=q.sl:=by
 induction qs generalizing M with
 | nil=>exact .inl h
 | cons q qs ih =>
  simp only [jG] at h;rcases ih h with h | ⟨q',hq,e⟩
  ·by_cases e:k=(t,q.name)
   ·rw [e,dP] at h; injection h with h; exact .inr ⟨q,by simp,e,h.symm⟩
   ·rw [bJ e] at h; exact .inl h
  ·exact .inr ⟨q',by simp [hq],e⟩
theorem uu {t:ByteArray} {M:ByteArray × ByteArray→Option Value} {qs:List RR} {k:ByteArray × ByteArray} (h:(M k).isSome=true ∨ ∃ q ∈ qs,k=(t,q.name)):(jG t M qs k).isSome=true:=by
 induction qs generalizing M with
 | nil=>rcases h with h | ⟨q,hq,-⟩; exact h; cases hq
 | cons q qs ih =>
  simp only [jG];refine ih ?_;by_cases e:k=(t,q.name)
  ·left; rw [e,dP]; rfl
  ·rcases h with h | ⟨q',hq,e'⟩
   ·left; rw [bJ e]; exact h
   ·rcases List.mem_cons.1 hq with rfl | hq
    ·exact absurd e' e
    ·exact .inr ⟨q',hq,e'⟩
theorem Ap {M:ByteArray × ByteArray→Option Value} {rs:List TR} {k:ByteArray × ByteArray} {v:Value} (h:dJ M rs k=some v):M k=some v ∨ ∃ t ∈ rs,∃ q ∈ t.rows,k=(t.name,q.name)∧v=q.sl:=by
 induction rs generalizing M with
 | nil=>exact .inl h
 | cons t rs ih =>
  simp only [dJ] at h;rcases ih h with h | ⟨t',ht,e⟩
  ·rcases DI h with h | ⟨q,hq,e⟩
   ·exact .inl h
   ·exact .inr ⟨t,by simp,q,hq,e⟩
  ·exact .inr ⟨t',by simp [ht],e⟩
theorem pW {M:ByteArray × ByteArray→Option Value} {rs:List TR} {k:ByteArray × ByteArray} (h:(M k).isSome=true ∨ ∃ t ∈ rs,∃ q ∈ t.rows,k=(t.name,q.name)):(dJ M rs k).isSome=true:=by
 induction rs generalizing M with
 | nil=>rcases h with h | ⟨q,hq,-⟩; exact h; cases hq
 | cons t rs ih =>
  simp only [dJ];refine ih ?_;rcases h with h | ⟨t',ht,q,hq,e⟩
  ·exact .inl (uu (.inl h))
  ·rcases List.mem_cons.1 ht with rfl | ht
   ·exact .inl (uu (.inr ⟨q,hq,e⟩))
   ·exact .inr ⟨t',ht,q,hq,e⟩
theorem DJ {rs:List Rl} {n:ByteArray} (h:iJ rs n=none):∀ r ∈ rs,r.name ≠ n:=by
 induction rs with
 | nil=>intro r hr; cases hr
 | cons r rs ih =>
  simp only [iJ] at h;split at h
  ·cases h
  ·rename_i hn;intro q hq;rcases List.mem_cons.1 hq with rfl | hq
   ·exact fun e=>hn (sJ.2 e)
   ·exact ih h q hq
theorem Ga {ts:List Ty} {ty n:ByteArray} (h:fE ts ty n=none):∀ t ∈ ts,t.name=ty→∀ r ∈ t.rels,r.name ≠ n:=by
 induction ts with
 | nil=>intro t ht; cases ht
 | cons t ts ih =>
  simp only [fE] at h;intro q hq e;split at h
  ·rw [Option.or_eq_none_iff] at h;rcases List.mem_cons.1 hq with rfl | hq
   ·exact DJ h.1
   ·exact ih h.2 q hq e
  ·rename_i hn;rcases List.mem_cons.1 hq with rfl | hq
   ·exact absurd (sJ.2 e) hn
   ·exact ih h q hq e
theorem nV {rs:List TR} {ty n:ByteArray} {es:List Ex} (h:fE (ah rs) ty n=some es):∃ t ∈ rs,∃ q ∈ t.rows,t.name=ty∧q.name=n∧au q.rows=es:=by
 obtain ⟨t,ht,r,hr,e1,e2,e3⟩:=wJ h;obtain ⟨t',ht',rfl⟩:=List.mem_map.1 ht;obtain ⟨q,hq,rfl⟩:=List.mem_map.1 hr;exact ⟨t',ht',q,hq,e1,e2,e3⟩
structure Tab (rs:List TR) (M:ByteArray × ByteArray→Option Value):Prop where
 no:∀ k,M k=none→fE (ah rs) k.1 k.2=none
 yes:∀ k v,M k=some v→∃ t ∈ rs,∃ q ∈ t.rows,k=(t.name,q.name)∧v=q.sl∧fE (ah rs) k.1 k.2=some (au q.rows)∧aS (au q.rows)=true
theorem wN {rs:List TR} (h:cu (ah rs)=true):Tab rs (mr rs) where
 no k hk:=by
  cases e:fE (ah rs) k.1 k.2 with
  | none=>rfl
  | some es =>
   obtain ⟨t,ht,q,hq,e1,e2,-⟩:=nV e;have:=pW (M:=fun _=>none) (rs:=rs) (k:=k) (.inr ⟨t,ht,q,hq,by rw [e1,e2]⟩);unfold mr at hk;rw [hk] at this; cases this
 yes k v hk:=by
  rcases Ap hk with h0 | ⟨t,ht,q,hq,e,ev⟩
  ·cases h0
  have hSF:=dF h;refine ⟨t,ht,q,hq,e,ev,?_,(hSF.2.2 t ht q hq).1⟩;cases e2:fE (ah rs) k.1 k.2 with
  | none=>exact (Ga e2 t.p (List.mem_map_of_mem ht) (by rw [e]; rfl) q.p (List.mem_map_of_mem hq) (by rw [e]; rfl)).elim
  | some es =>
   obtain ⟨t',ht',q',hq',e3,e4,e5⟩:=nV e2;have h1:t'=t:=BI h ht' ht (by rw [e3,e]);subst h1;obtain ⟨i,hi,rfl⟩:=List.mem_iff_getElem.1 ht;have h2:q'=q:=BJ (oU h i hi).2.2 hq' hq (by rw [e4,e]);subst h2;rw [e5]
theorem Tab.some_iff {rs:List TR} {M:ByteArray × ByteArray→Option Value} (h:Tab rs M) (k:ByteArray × ByteArray):(M k).isSome=!(aN (ah rs) k.1 k.2).isEmpty:=by
 unfold aN;cases e:M k with
 | none=>rw [h.no k e]; rfl
 | some v =>
  obtain ⟨t,ht,q,hq,-,-,e1,e2⟩:=h.yes k v e;rw [e1];have:=lw e2;cases e3:au q.rows with
  | nil=>rw [e3] at this; simp at this
  | cons x xs=>rfl
end Go.Proofs.YteoflgocljfgeaaGreatDoor
