/- Contract of the document's function on what a relation leans on: the walk. -/
import Derived.Test.YtajkkeikihhejaaGreatSq
import Derived.Test.YtajkkeikihhejaaGreatJ13
import Derived.Test.YtajkkeikihhejaaGreatJ11
open Go.Proofs.Tryz
set_option maxHeartbeats 80000000
namespace Go.Proofs.YtajkkeikihhejaaGreat
open Go.ChangeShapes Go.WideShapes Go.ChangeAt Go.RowKit
open Pl
theorem own_below {w w':ae} {base:Nat} {e:TypeId} {size:Nat} {v:Value} {n:Nat} {xs:List Value} (h:w.ownsRow base e size v n xs) (hB:af w w'):w'.ownsRow base e size v n xs:=by
 have hg:w.grownBy w' none:=⟨hB.os,hB.tape,hB.output,hB.size,fun k hk _=>hB.block k hk⟩;cases ho:v.ownBlock with
 | none=>exact h.kept hg (.inl ho)
 | some g=>exact h.kept hg (.inr (by rw [ho]; simp))
theorem qo {w w':ae} {v v':Value} {g o:Nat} {u:Value} (h:Aside w v w' v') (hg:g < w.heap.size) (hv:v.ownBlock ≠ some g) (hc:w.cell? ⟨g,o,none⟩=some u):w'.cell? ⟨g,o,none⟩=some u:=(h.cell (p:=⟨g,o,none⟩) hg hv).trans hc
theorem EU (es:List Ex) (m:Nat) (out:List Bool):(iB es m out).length=out.length:=by
 induction m generalizing out with
 | zero=>rfl
 | succ m ih =>
  simp only [iB];rw [ih];split
  ·rfl
  exact ES _ _ _ _ _
theorem EW (es:List Ex):(fw es).length=es.length:=by unfold fw; rw [EU]; simp
theorem EX (ts:List Ty) (typ:aD) (rows:List ER) (k:Nat) (h:k < rows.length) (ng:Bool) (hn:ng=(fw (ak rows)).getD k false):aR ts typ (ak rows) (k + 1)=(aR ts typ (ak rows) k ++ di ng rows[k].e.allow) ++ nO ts typ ng rows[k].e:=by
 have e:(ak rows)[k]?=some rows[k].e:=by simp [ak,h]
 show aR ts typ (ak rows) k ++ kS ts typ (ak rows) k=_;unfold kS;rw [e,hn,List.append_assoc]
set_option maxRecDepth 100000 in
theorem Ha (ad TA:Option Addr) (cap capE:Nat) (rs:List TR) (typ:aD) (rows:List ER) (w:ae) (hlen:rs.length≤1048576) (hs:mD w ad rs) (hl:∀ r ∈ rs,r.light) (hle:rows.length≤15) (hse:jk w TA rows) (Ze:∀ q ∈ rows,q.e.light) (hkE:∀ q ∈ rows,eB rows.length q.e.kids)
    (hsm:∀ k,(aR (ah rs) typ (ak rows) k).length≤100000000) :
    Calls prog 139 #[.slice ad rs.length cap,.string typ,.slice TA rows.length capE] w fun e w'=>(∃ v,e=.returned v∧w'.ownsRow w.heap.size 220 3 v (qd (ah rs) typ (ak rows)).length (dZ (qd (ah rs) typ (ak rows))))∧af w w':=by
  have HS:=az hs;have HL:=az hl;have HE:=az hse;have UH:=az Ze;have Yk:=az hkE;have Zc:Hid (∀ k,(aR (ah rs) typ (ak rows) k).length≤100000000):=hsm;clear hs hl hse Ze hkE hsm;obtain ⟨i0,hi,hz0,hz1,hz2⟩:=info_parts M9;go_enter func139,ntmps139;go_wp2_with fail;have Zd:af w (w.alloc (.cells #[] 220)):=(Sz _ _).alloc (Sy _) _;have hown1:(w.alloc (.cells #[] 220)).ownsRow w.heap.size 220 3 (.slice (some ⟨w.heap.size,0,none⟩) 0 0) 0 []:=World.ownsRow_made w #[] 0 (Sy _) (by decide) rfl;refine (Kj TA capE rows _ (by omega) (HE.out.below Zd) UH.out Yk.out).mono ?_;rintro e w1 ⟨rfl,hF⟩;have TE:Hid (w1.ownsRow w.heap.size 220 3 (.slice (some ⟨w.heap.size,0,none⟩) 0 0) 0 []):=own_below hown1 hF.below;have HB1:Hid (af w w1):=Zd.trans (hF.below.mono (by simp));have hgN:(w.alloc (.cells #[] 220)).heap.size=w.heap.size + 1:=by simp
  rw [hgN] at hF ⊢;have hgl:=hF.lt;have HNG:Hid (∀ (j:Nat) (h:j < rows.length),w1.cell? ⟨w.heap.size + 1,j,none⟩=some (.bool ((fw (ak rows)).getD j false))):=by
    intro j hj;have hn:j < (fw (ak rows)).length:=by rw [EW,bi]; exact hj
    have:=hF.done j (by simpa [bools] using hn);rw [this];simp [bools,hn]
  clear hF hown1 Zd hgN;obtain ⟨gN,hgN⟩:∃ gN,gN=w.heap.size + 1:=⟨_,rfl⟩;rw [← hgN] at hgl HNG ⊢;have hgne:w.heap.size < gN:=by omega
  clear hgN;go_wp2_with fail;go_loopw [7,9] (fun v i wr=>∃ k:Nat,k≤rows.length∧i=.int .i64 k∧Hid (wr.ownsRow w.heap.size 220 3 v (aR (ah rs) typ (ak rows) k).length (dZ (aR (ah rs) typ (ak rows) k)))∧Hid (af w wr)∧Hid (Aside w1 (.slice (some ⟨w.heap.size,0,none⟩) 0 0) wr v)) (fun _ i _=>rows.length - (intOf i).toNat);case atStart=>exact ⟨0,SC _,rfl,TE,HB1,Aside.refl _ _⟩
  obtain ⟨k,hk,rfl,HOW,HB,HAS⟩:=hrel;by_cases hlt:k < rows.length
  · rcases HE.out.below HB.out with rfl | ⟨b,off,rfl,hb,hr,hok⟩
    · simp at hlt
    obtain ⟨t0,t1,t2,t3,t4⟩:=hr k hlt;have U6:Hid (rows[k].ok w):=HE.out.mem (Sw hlt);have lg:=(UH.out rows[k] (Sw hlt)).1;have hk1:=bq k;have hk2:(k:Int) < (rows.length:Int):=by omega
    have c0:wr.cell? ⟨gN,k,none⟩=some (.bool ((fw (ak rows)).getD k false)):=(HAS.out.cell (p:=⟨gN,k,none⟩) hgl (by simp [Value.ownBlock]; omega)).trans (HNG.out k hlt);clear hr hok;obtain ⟨ng,hng⟩:∃ ng,ng=(fw (ak rows)).getD k false:=⟨_,rfl⟩;rw [← hng] at c0;have HNK:Hid (ng=(fw (ak rows)).getD k false):=hng;clear hng;obtain ⟨W1,hW1⟩:∃ W1,W1=wr.alloc (.cells #[.int .i64 rows[k].e.kind,.slice rows[k].adA rows[k].e.allow.length rows[k].capA,.string rows[k].e.over,.string rows[k].e.name,.slice rows[k].adK rows[k].e.kids.length rows[k].capK] 39):=⟨_,rfl⟩;have hal:af wr W1:=by rw [hW1]; exact (Sz _ _).alloc (Sy _) _
    have TL:=az hal;have TB:=jI HB hal;have VH:wr.heap.size < W1.heap.size:=by rw [hW1]; simp
    have g0:W1.cell? ⟨wr.heap.size,0,none⟩=some (.int .i64 rows[k].e.kind):=by rw [hW1]; simp
    have g1:W1.cell? ⟨wr.heap.size,1,none⟩=some (.slice rows[k].adA rows[k].e.allow.length rows[k].capA):=by rw [hW1]; simp
    have g2:W1.cell? ⟨wr.heap.size,2,none⟩=some (.string rows[k].e.over):=by rw [hW1]; simp
    have g3:W1.cell? ⟨wr.heap.size,3,none⟩=some (.string rows[k].e.name):=by rw [hW1]; simp
    have hgr:gN < wr.heap.size:=Sv hgl HAS.out.size;have gn:=aI hal hgr c0;have VR:Hid (W1.ownsRow w.heap.size 220 3 u7 (aR (ah rs) typ (ak rows) k).length (dZ (aR (ah rs) typ (ak rows) k))):=own_below HOW.out hal;have HV1:Hid (u7.ownBlock ≠ some gN):=HAS.out.apart hgl (by simp [Value.ownBlock]; omega);have Yl:Hid (u7.ownBlock ≠ some wr.heap.size):=fun e=>by have:=(HOW.out.lt _ e).2; omega
    clear hal c0;go_wp2_with fail;rw [← hW1];clear hW1 t0 t1 t2 t3 t4;obtain ⟨wo,hwo⟩:∃ wo,wo=wr:=⟨_,rfl⟩;subst hwo;go_loopw [7,11] (fun v i w2=>∃ j:Nat,j≤rows[k].e.allow.length∧i=.int .i64 j∧Hid (w2.ownsRow w.heap.size 220 3 v ((aR (ah rs) typ (ak rows) k).length + (di ng (rows[k].e.allow.take j)).length) (dZ (aR (ah rs) typ (ak rows) k ++ di ng (rows[k].e.allow.take j))))∧Hid (af w w2)∧Hid (Aside W1 u7 w2 v)) (fun _ i _=>rows[k].e.allow.length - (intOf i).toNat);case atStart=>exact ⟨0,SC _,rfl,(by simpa [di,Hid] using VR),TB,Aside.refl _ _⟩
    obtain ⟨j,hj,rfl,Tx,HB2,HA2⟩:=hrel;have d0:=qo HA2.out VH Yl.out g0;have d1:=qo HA2.out VH Yl.out g1;have d2:=qo HA2.out VH Yl.out g2;have d3:=qo HA2.out VH Yl.out g3;have dn:=qo HA2.out (Nat.lt_trans hgr VH) HV1.out gn;clear g0 g1 g2 g3 gn;by_cases hjl:j < rows[k].e.allow.length
    · have hA3:=(U6.out.1).below HB2.out;have hA4:=U6.out.1;rcases hA4 with hnil | ⟨ba,VC,VD,VE,-⟩
      · rw [hnil] at hjl; simp at hjl
      rcases hA3 with hnil | ⟨ba',offa',XA,-,hra⟩
      · rw [hnil] at hjl; simp at hjl
      rw [VD] at XA d1;injection XA with XA; injection XA with e1 e2;subst e1; subst e2;obtain ⟨q0,q1⟩:=hra j hjl;have hj1:=bq j;have hj2:(j:Int) < (rows[k].e.allow.length:Int):=by omega
      clear hra VD;cases he:rows[k].e.allow[j].s.toList.isEmpty;case true=>
        have HE2:Hid (di ng (rows[k].e.allow.take (j + 1))=di ng (rows[k].e.allow.take j)):=M8 _ _ _ hjl he;go_wp2;go_roundw;case rel=>exact ⟨j + 1,by omega,by go_num,by rw [HE2.out]; exact Tx,HB2,HA2⟩
        simp [intOf] <;> omega
      have HE2:Hid (di ng (rows[k].e.allow.take (j + 1))=di ng (rows[k].e.allow.take j) ++ [⟨rows[k].e.allow[j].t,rows[k].e.allow[j].s,ng⟩]):=Kk _ _ _ hjl he;have a1:u7.ownBlock ≠ some wo.heap.size:=HA2.out.apart VH Yl.out;have a2:u7.ownBlock ≠ some gN:=HA2.out.apart (Nat.lt_trans hgr VH) HV1.out;have a3:u7.ownBlock ≠ some ba:=fun e=>by have:=(Tx.out.lt _ e).1; omega
      have l1:wo.heap.size < wr.heap.size:=Sv VH HA2.out.size;have l2:gN < wr.heap.size:=Nat.lt_trans hgr l1;have l3:ba < wr.heap.size:=Sv VE HB2.out.size;have l4:w.heap.size≤wr.heap.size:=HB2.out.size;obtain ⟨xs,hxs⟩:∃ xs,xs=dZ (aR (ah rs) typ (ak rows) k ++ di ng (rows[k].e.allow.take j)):=⟨_,rfl⟩;obtain ⟨n,hn⟩:∃ n,n=(aR (ah rs) typ (ak rows) k).length + (di ng (rows[k].e.allow.take j)).length:=⟨_,rfl⟩;have hnl:n≤101048576:=by
        have h1:=Zc.out k;have h2:=BU ng (rows[k].e.allow.take j);rw [Tg] at h2;omega
      have hown:=Tx.out;rw [← hxs,← hn] at hown;have WN:Hid (dZ (aR (ah rs) typ (ak rows) k ++ di ng (rows[k].e.allow.take (j + 1)))=xs ++ [.string rows[k].e.allow[j].t,.string rows[k].e.allow[j].s,.bool ng]):=by
        show _=_;rw [HE2.out,← List.append_assoc,sM,← hxs]; rfl
      have VN:Hid ((aR (ah rs) typ (ak rows) k).length + (di ng (rows[k].e.allow.take (j + 1))).length=n + 1):=by
        show _=_;rw [HE2.out,hn]; simp; omega
      clear Tx hxs hn;go_wp2_with fail
      go_region_held3 (fun w'=>w'.cell? ⟨wo.heap.size,1,none⟩=some (.slice (some ⟨ba,VC,none⟩) rows[k].e.allow.length rows[k].capA)∧w'.cell? ⟨ba,VC + j * 2,none⟩=some (.string rows[k].e.allow[j].t) ∧
          w'.cell? ⟨ba,VC + j * 2 + 1,none⟩=some (.string rows[k].e.allow[j].s)∧w'.cell? ⟨gN,k,none⟩=some (.bool ng))
        (first
          | go_keep
          | (go_split_ands
             refine ⟨?_,?_,?_,?_⟩
             · (rw [hgrow.cell_far _ (by simp; omega) (Ne.symm a1)]; assumption)
             · (rw [hgrow.cell_far _ (by simp; omega) (Ne.symm a3)]; assumption)
             · (rw [hgrow.cell_far _ (by simp; omega) (Ne.symm a3)]; assumption)
             · (rw [hgrow.cell_far _ (by simp; omega) (Ne.symm a2)]; assumption)))
        ((refine step_append_lies _ (by rfl) _ _ _ (by rfl) w.heap.size 220 i0 _ 3 40 underlying216 hi hz0 hz1 hz2 rfl (by omega) u7 n xs (by rfl) ((hown.alloc _).drew)
            ⟨wr.heap.size,0,none⟩ 1 1 [.string rows[k].e.allow[j].t,.string rows[k].e.allow[j].s,.bool ng] (by rfl) (by rfl) (World.news_of_block (cs:=#[.string rows[k].e.allow[j].t,.string rows[k].e.allow[j].s,.bool ng]) (t:=220) (fr:=(0,0)) (heap_alloc_new wr _)) (by simp [Value.oneCell'])
            (by omega) (by unfold maxLen; omega) (by omega) (by simp; omega) (wr.heap.size + 1) (by simp) ?_; intro gg cp w5 hown5 hgrow hat hlt5))
      have hb5:Hid (af w w5):=((HB2.out.alloc HB2.out.size _).drew).grown hgrow (by simp; omega) (fun i hi=>(hown.lt i hi).1);have hAx:Aside wr u7 w5 (.slice (some ⟨gg,0,none⟩) (n + 1) cp):=(Aside.below (((Sz _ _).alloc (Sy _) _).drew)).trans (Aside.app hgrow (by
        rcases hat with e | e
        · left; rw [e]; rfl
        · right; rw [e]; simp [Value.ownBlock]))
      have HA5:=HA2.out.trans hAx;have HA5':Hid (Aside W1 _ w5 (.slice (some ⟨gg,0,none⟩) (n + 1) cp)):=HA5;have TK:Hid (w5.ownsRow w.heap.size 220 3 (.slice (some ⟨gg,0,none⟩) (n + 1) cp) ((aR (ah rs) typ (ak rows) k).length + (di ng (rows[k].e.allow.take (j + 1))).length) (dZ (aR (ah rs) typ (ak rows) k ++ di ng (rows[k].e.allow.take (j + 1))))):=by
        show World.ownsRow _ _ _ _ _ _ _;rw [WN.out,VN.out]; exact hown5
      clear hown5 hgrow hat hAx HA5 hown;go_wp2;go_roundw;case rel=>exact ⟨j + 1,by omega,by go_num,TK,hb5,HA5'⟩
      simp [intOf] <;> omega
    · obtain rfl:j=rows[k].e.allow.length:=by omega
      have a1:u7.ownBlock ≠ some wo.heap.size:=HA2.out.apart VH Yl.out;have a2:u7.ownBlock ≠ some gN:=HA2.out.apart (Nat.lt_trans hgr VH) HV1.out;have l1:wo.heap.size < wr.heap.size:=Sv VH HA2.out.size;have l2:gN < wr.heap.size:=Nat.lt_trans hgr l1;have l4:w.heap.size≤wr.heap.size:=HB2.out.size;have HUS:=EX (ah rs) typ rows k hlt ng HNK.out;obtain ⟨D,hD⟩:∃ D,D=aR (ah rs) typ (ak rows) k ++ di ng rows[k].e.allow:=⟨_,rfl⟩;have hown:wr.ownsRow w.heap.size 220 3 u7 D.length (dZ D):=by
        have:=Tx.out;rw [SS,← hD,← SE,← hD] at this;exact this
      rw [← hD] at HUS;have hnl:D.length≤100000000:=by
        have h1:=Zc.out (k + 1);rw [HUS,SE] at h1;omega
      have HUP:Hid (aR (ah rs) typ (ak rows) (k + 1)=D ++ nO (ah rs) typ ng rows[k].e):=HUS;have Y7:Hid (Aside w1 (.slice (some ⟨w.heap.size,0,none⟩) 0 0) wr u7):=(HAS.out.trans (Aside.below TL.out)).trans HA2.out;clear Tx HUS hD;by_cases h2:rows[k].e.kind=2
      · have WN:Hid (aR (ah rs) typ (ak rows) (k + 1)=D ++ [⟨typ,rows[k].e.name,ng⟩]):=by show _=_; rw [HUP.out]; simp [nO,h2]
        obtain ⟨xs,hxs⟩:∃ xs,xs=dZ D:=⟨_,rfl⟩;obtain ⟨n,hn⟩:∃ n,n=D.length:=⟨_,rfl⟩;rw [← hxs,← hn] at hown;rw [← hn] at hnl;have HFX:Hid (dZ (aR (ah rs) typ (ak rows) (k + 1))=xs ++ [.string typ,.string rows[k].e.name,.bool ng]):=by
          show _=_;rw [WN.out,sM,← hxs]; rfl
        have VN:Hid ((aR (ah rs) typ (ak rows) (k + 1)).length=n + 1):=by show _=_; rw [WN.out,hn]; simp
        clear hxs hn;go_wp2_with fail
        go_region_held3 (fun w'=>w'.cell? ⟨wo.heap.size,3,none⟩=some (.string rows[k].e.name)∧w'.cell? ⟨gN,k,none⟩=some (.bool ng))
          (first
            | go_keep
            | (go_split_ands
               refine ⟨?_,?_⟩
               · (rw [hgrow.cell_far _ (by simp; omega) (Ne.symm a1)]; assumption)
               · (rw [hgrow.cell_far _ (by simp; omega) (Ne.symm a2)]; assumption)))
          ((refine step_append_lies _ (by rfl) _ _ _ (by rfl) w.heap.size 220 i0 _ 3 40 underlying216 hi hz0 hz1 hz2 rfl (by omega) u7 n xs (by rfl) ((hown.alloc _).drew)
              ⟨wr.heap.size,0,none⟩ 1 1 [.string typ,.string rows[k].e.name,.bool ng] (by rfl) (by rfl) (World.news_of_block (cs:=#[.string typ,.string rows[k].e.name,.bool ng]) (t:=220) (fr:=(0,0)) (heap_alloc_new wr _)) (by simp [Value.oneCell'])
              (by omega) (by unfold maxLen; omega) (by omega) (by simp; omega) (wr.heap.size + 1) (by simp) ?_; intro gg cp w5 hown5 hgrow hat hlt5))
        have hb5:Hid (af w w5):=((HB2.out.alloc HB2.out.size _).drew).grown hgrow (by simp; omega) (fun i hi=>(hown.lt i hi).1);have hAx:Aside wr u7 w5 (.slice (some ⟨gg,0,none⟩) (n + 1) cp):=(Aside.below (((Sz _ _).alloc (Sy _) _).drew)).trans (Aside.app hgrow (by
          rcases hat with e | e
          · left; rw [e]; rfl
          · right; rw [e]; simp [Value.ownBlock]))
        have f0:=qo hAx l1 a1 d0;have HA5:Hid (Aside w1 (.slice (some ⟨w.heap.size,0,none⟩) 0 0) w5 (.slice (some ⟨gg,0,none⟩) (n + 1) cp)):=Y7.out.trans hAx;have TK:Hid (w5.ownsRow w.heap.size 220 3 (.slice (some ⟨gg,0,none⟩) (n + 1) cp) (aR (ah rs) typ (ak rows) (k + 1)).length (dZ (aR (ah rs) typ (ak rows) (k + 1)))):=by
          show World.ownsRow _ _ _ _ _ _ _;rw [HFX.out,VN.out]; exact hown5
        clear hown5 hgrow hat hAx hown d0 d1 d2 d3 dn;go_wp2;go_roundw;case rel=>exact ⟨k + 1,by omega,by go_num,TK,hb5,HA5⟩
        simp [intOf] <;> omega
      by_cases h3:rows[k].e.kind=3
      · go_wp2_with fail;refine (xh ad cap rs _ _ _ _ hlen (HS.out.below HB2.out) HL.out).mono ?_;rintro e w4 ⟨⟨ad4,cap4,rfl,hs4,hn4⟩,hb4⟩;have HXG:Hid (aR (ah rs) typ (ak rows) (k + 1)=D ++ (il (ah rs) typ rows[k].e.over rows[k].e.name).map fun g=>(⟨g,rows[k].e.name,ng⟩:Dp)):=by show _=_; rw [HUP.out]; simp [nO,h3]
        generalize il (ah rs) typ rows[k].e.over rows[k].e.name=gs at *
        have hgs:D.length + gs.length≤100000000:=by
          have h1:=Zc.out (k + 1);rw [HXG.out,SE,Tk] at h1;exact h1
        have f3:=aI hb4 l1 d3;have fn:=aI hb4 l2 dn;have TI:Hid (w4.ownsRow w.heap.size 220 3 u7 D.length (dZ D)):=own_below hown hb4;have U7:=jI HB2 hb4;have HA4:Hid (Aside w1 (.slice (some ⟨w.heap.size,0,none⟩) 0 0) w4 u7):=Y7.out.trans (Aside.below hb4);have HSG:=az hs4;have HVG:Hid (∀ p,ad4=some p→u7.ownBlock ≠ some p.block):=fun p hp e=>by have h1:=(hown.lt _ e).2; have h2:=hn4 p hp; omega
        have m1:wo.heap.size < w4.heap.size:=Sv l1 hb4.size;have m2:gN < w4.heap.size:=Sv l2 hb4.size;have m4:w.heap.size≤w4.heap.size:=U7.out.size;clear hown hb4 hs4 hn4 d0 d1 d2 d3 dn l1 l2 l4;obtain ⟨uo,huo⟩:∃ uo,uo=u7:=⟨_,rfl⟩;subst huo;go_wp2_with fail;go_loopw [7,13] (fun v i w6=>∃ m:Nat,m≤gs.length∧i=.int .i64 m∧Hid (w6.ownsRow w.heap.size 220 3 v (D.length + m) (dZ (D ++ (gs.take m).map fun g=>(⟨g,rows[k].e.name,ng⟩:Dp))))∧Hid (af w w6)∧Hid (Aside w4 uo w6 v)) (fun _ i _=>gs.length - (intOf i).toNat);case atStart=>exact ⟨0,SC _,rfl,(by simpa [Hid] using TI),U7,Aside.refl _ _⟩
        obtain ⟨m,hm,rfl,Uq,V4,XB⟩:=hrel;have x3:=qo XB.out m1 a1 f3;have xn:=qo XB.out m2 a2 fn;by_cases Uf:m < gs.length
        · rcases HSG.out with rfl | ⟨bg,offg,rfl,hbg,hrg⟩
          · simp at Uf
          have q0:=qo XB.out hbg (HVG.out _ rfl) (hrg m Uf);have hm1:=bq m;have hm2:(m:Int) < (gs.length:Int):=by omega
          have b1:u7.ownBlock ≠ some wo.heap.size:=XB.out.apart m1 a1;have b2:u7.ownBlock ≠ some gN:=XB.out.apart m2 a2;have b3:u7.ownBlock ≠ some bg:=XB.out.apart hbg (HVG.out _ rfl);have l1:wo.heap.size < wr.heap.size:=Sv m1 XB.out.size;have l2:gN < wr.heap.size:=Sv m2 XB.out.size;have l3:bg < wr.heap.size:=Sv hbg XB.out.size;have l4:w.heap.size≤wr.heap.size:=V4.out.size;obtain ⟨xs,hxs⟩:∃ xs,xs=dZ (D ++ (gs.take m).map fun g=>(⟨g,rows[k].e.name,ng⟩:Dp)):=⟨_,rfl⟩;obtain ⟨n,hn⟩:∃ n,n=D.length + m:=⟨_,rfl⟩;have hown:=Uq.out;rw [← hxs,← hn] at hown;have HFX:Hid (dZ (D ++ (gs.take (m + 1)).map fun g=>(⟨g,rows[k].e.name,ng⟩:Dp))=xs ++ [.string gs[m],.string rows[k].e.name,.bool ng]):=by
            show _=_;rw [SA Uf,List.map_append,← List.append_assoc,List.map_singleton,sM,← hxs]; rfl
          have VN:Hid (D.length + (m + 1)=n + 1):=by show _=_; omega
          have hnl2:n≤100000000:=by omega
          have hgb:gs.length≤100000000:=by omega
          clear Uq hxs hn hrg hnl hgs;go_wp2_with fail
          go_region_held3 (fun w'=>w'.cell? ⟨wo.heap.size,3,none⟩=some (.string rows[k].e.name)∧w'.cell? ⟨gN,k,none⟩=some (.bool ng)∧w'.cell? ⟨bg,offg + m,none⟩=some (.string gs[m]))
            (first
              | go_keep
              | (go_split_ands
                 refine ⟨?_,?_,?_⟩
                 · (rw [hgrow.cell_far _ (by simp; omega) (Ne.symm b1)]; assumption)
                 · (rw [hgrow.cell_far _ (by simp; omega) (Ne.symm b2)]; assumption)
                 · (rw [hgrow.cell_far _ (by simp; omega) (Ne.symm b3)]; assumption)))
            ((refine step_append_lies _ (by rfl) _ _ _ (by rfl) w.heap.size 220 i0 _ 3 40 underlying216 hi hz0 hz1 hz2 rfl (by omega) u7 n xs (by rfl) ((hown.alloc _).drew)
                ⟨wr.heap.size,0,none⟩ 1 1 [.string gs[m],.string rows[k].e.name,.bool ng] (by rfl) (by rfl) (World.news_of_block (cs:=#[.string gs[m],.string rows[k].e.name,.bool ng]) (t:=220) (fr:=(0,0)) (heap_alloc_new wr _)) (by simp [Value.oneCell'])
                (by omega) (by unfold maxLen; omega) (by omega) (by simp; omega) (wr.heap.size + 1) (by simp) ?_; intro gg cp w5 hown5 hgrow hat hlt5))
          have hb5:Hid (af w w5):=((V4.out.alloc V4.out.size _).drew).grown hgrow (by simp; omega) (fun i hi=>(hown.lt i hi).1);have hAx:Aside wr u7 w5 (.slice (some ⟨gg,0,none⟩) (n + 1) cp):=(Aside.below (((Sz _ _).alloc (Sy _) _).drew)).trans (Aside.app hgrow (by
            rcases hat with e | e
            · left; rw [e]; rfl
            · right; rw [e]; simp [Value.ownBlock]))
          have HA5:Hid (Aside w4 uo w5 (.slice (some ⟨gg,0,none⟩) (n + 1) cp)):=XB.out.trans hAx;have TK:Hid (w5.ownsRow w.heap.size 220 3 (.slice (some ⟨gg,0,none⟩) (n + 1) cp) (D.length + (m + 1)) (dZ (D ++ (gs.take (m + 1)).map fun g=>(⟨g,rows[k].e.name,ng⟩:Dp)))):=by
            show World.ownsRow _ _ _ _ _ _ _;rw [HFX.out,VN.out]; exact hown5
          clear hown5 hgrow hat hAx hown;go_wp2;go_roundw;case rel=>exact ⟨m + 1,by omega,by go_num,TK,hb5,HA5⟩
          simp [intOf] <;> omega
        · obtain rfl:m=gs.length:=by omega
          have TK:Hid (wr.ownsRow w.heap.size 220 3 u7 (aR (ah rs) typ (ak rows) (k + 1)).length (dZ (aR (ah rs) typ (ak rows) (k + 1)))):=by
            have:=Uq.out;show World.ownsRow _ _ _ _ _ _ _;rw [SS] at this;rw [HXG.out,SE,Tk];exact this
          have HA5:Hid (Aside w1 (.slice (some ⟨w.heap.size,0,none⟩) 0 0) wr u7):=HA4.out.trans XB.out;clear Uq;go_wp2;go_roundw;case rel=>exact ⟨k + 1,by omega,by go_num,TK,V4,HA5⟩
          simp [intOf] <;> omega
      · have WN:Hid (aR (ah rs) typ (ak rows) (k + 1)=D):=by show _=_; rw [HUP.out]; simp [nO,h2,h3]
        have hb2:(rows[k].e.kind == 2)=false:=by simpa using h2
        have hb3:(rows[k].e.kind == 3)=false:=by simpa using h3
        have TK:Hid (wr.ownsRow w.heap.size 220 3 u7 (aR (ah rs) typ (ak rows) (k + 1)).length (dZ (aR (ah rs) typ (ak rows) (k + 1)))):=by
          show World.ownsRow _ _ _ _ _ _ _;rw [WN.out]; exact hown
        clear hown;go_wp2;go_roundw;case rel=>exact ⟨k + 1,by omega,by go_num,TK,HB2,Y7⟩
        simp [intOf] <;> omega
  · obtain rfl:k=rows.length:=by omega
    have HFI:Hid (wr.ownsRow w.heap.size 220 3 u7 (qd (ah rs) typ (ak rows)).length (dZ (qd (ah rs) typ (ak rows)))):=by
      have:=HOW.out;show World.ownsRow _ _ _ _ _ _ _;unfold qd;rw [bi];exact this
    clear HOW;go_wp2;go_ret;exact ⟨⟨_,rfl,HFI.out⟩,HB.out⟩
def St.cells (s:St):List Value:=[.string s.typ,.string s.rel,.int .i64 s.n]
def iH:List St→List Value
 | []=>[]
 | s::xs=>s.cells ++ iH xs
theorem DC (xs ys:List St):iH (xs ++ ys)=iH xs ++ iH ys:=by
 induction xs with
 | nil=>rfl
 | cons d ds ih=>simp [iH,ih]
theorem zq (xs:List St) (d:St):iH (xs ++ [d])=iH xs ++ d.cells:=by rw [DC]; simp [iH]
theorem iC (xs:List St) (i:Nat) (h:i < xs.length) (o:Nat) (ho:o < 3):(iH xs)[i * 3 + o]?=(xs[i].cells)[o]?:=by
 induction xs generalizing i with
 | nil=>simp at h
 | cons s xs ih =>
  cases i with
  | zero =>
   simp only [iH,Nat.zero_mul,Td,List.getElem_cons_zero];rw [List.getElem?_append_left (by simp [St.cells]; omega)]
  | succ i =>
   simp only [iH,List.getElem_cons_succ];rw [List.getElem?_append_right (by simp [St.cells]; omega)];have e:(i + 1) * 3 + o - s.cells.length=i * 3 + o:=by simp [St.cells]; omega
   rw [e];exact ih i (by simpa using h)
theorem vS (xs:List Dp) (i:Nat) (h:i < xs.length) (o:Nat) (ho:o < 3):(dZ xs)[i * 3 + o]?=(xs[i].cells)[o]?:=by
 induction xs generalizing i with
 | nil=>simp at h
 | cons s xs ih =>
  cases i with
  | zero =>
   simp only [dZ,Nat.zero_mul,Td,List.getElem_cons_zero];rw [List.getElem?_append_left (by simp [Dp.cells]; omega)]
  | succ i =>
   simp only [dZ,List.getElem_cons_succ];rw [List.getElem?_append_right (by simp [Dp.cells]; omega)];have e:(i + 1) * 3 + o - s.cells.length=i * 3 + o:=by simp [Dp.cells]; omega
   rw [e];exact ih i (by simpa using h)
theorem EY (g j:Nat):(⟨g,0,none⟩:Addr).add j=⟨g,j,none⟩:=by
 unfold Addr.add;by_cases hj:j=0
 ·subst hj; simp
 simp [hj]
theorem Ng {w:ae} {base:Nat} {t:TypeId} {v:Value} {n:Nat} {xs:List Value} (h:w.ownsRow base t 3 v n xs):∃ ad cp,v=.slice ad n cp∧(n=0 ∨ ∃ g,ad=some ⟨g,0,none⟩∧base≤g∧g < w.heap.size∧∀ (j:Nat) (u:Value),xs[j]?=some u→w.cell? ⟨g,j,none⟩=some u):=by
 have h2:=h;rcases h.2 with ⟨rfl,h0⟩ | ⟨g,cp,cur,rfl,hbg,hg,hnc,-⟩
 ·exact ⟨none,0,by rw [h0],.inl h0⟩
 have hlt:=h2.lt g rfl;refine ⟨_,cp,rfl,.inr ⟨g,rfl,hlt.1,hlt.2,fun j u hu=>?_⟩⟩;have:=h2.cells (g:=g) rfl j u hu;rwa [EY] at this
def AtD (w:ae) (b off:Nat) (d:Dp):Prop:=w.cell? ⟨b,off,none⟩=some (.string d.typ)∧w.cell? ⟨b,off + 1,none⟩=some (.string d.rel)∧w.cell? ⟨b,off + 2,none⟩=some (.bool d.neg)
def Qu (w:ae) (lo:Nat) (ad:Option Addr) (xs:List Dp):Prop:=xs=[] ∨ ∃ b,ad=some ⟨b,0,none⟩∧lo≤b∧b < w.heap.size∧∀ (i:Nat) (h:i < xs.length),AtD w b (i * 3) xs[i]
theorem RV {w:ae} {base:Nat} {v:Value} {xs:List Dp} (h:w.ownsRow base 220 3 v xs.length (dZ xs)):∃ ad cp,v=.slice ad xs.length cp∧Qu w base ad xs:=by
 obtain ⟨ad,cp,e,h0⟩:=Ng h;refine ⟨ad,cp,e,?_⟩;rcases h0 with h0 | ⟨g,e1,hb,hg,hc⟩
 ·exact .inl (SX.1 h0)
 refine .inr ⟨g,e1,hb,hg,fun i hi=>⟨?_,?_,?_⟩⟩
 ·exact hc _ _ (by have:=vS xs i hi 0 (by omega); simpa [Dp.cells] using this)
 ·exact hc _ _ (by have:=vS xs i hi 1 (by omega); simpa [Dp.cells] using this)
 exact hc _ _ (by have:=vS xs i hi 2 (by omega); simpa [Dp.cells] using this)
def Si (w:ae) (g:Nat) (xs:List St):Prop:=∀ (i:Nat) (h:i < xs.length),Rx w g (i * 3) xs[i]
theorem RX {w:ae} {base:Nat} {v:Value} {xs:List St} (h:w.ownsRow base 162 3 v xs.length (iH xs)):∃ ad cp,v=.slice ad xs.length cp∧(xs.length=0 ∨ ∃ g,ad=some ⟨g,0,none⟩∧base≤g∧g < w.heap.size∧Si w g xs):=by
 obtain ⟨ad,cp,e,h0⟩:=Ng h;refine ⟨ad,cp,e,?_⟩;rcases h0 with h0 | ⟨g,e1,hb,hg,hc⟩
 ·exact .inl h0
 refine .inr ⟨g,e1,hb,hg,fun i hi=>⟨?_,?_,?_⟩⟩
 ·exact hc _ _ (by have:=iC xs i hi 0 (by omega); simpa [St.cells] using this)
 ·exact hc _ _ (by have:=iC xs i hi 1 (by omega); simpa [St.cells] using this)
 exact hc _ _ (by have:=iC xs i hi 2 (by omega); simpa [St.cells] using this)
theorem Ps:(prog.info? 162).map (fun i=>(i.zero,i.size,i.bytes))=some (some (.agg #[.string ⟨#[]⟩,.string ⟨#[]⟩,.int .i64 0]),3,40):=by kernel_rfl
def EZ (ks:List (ByteArray × ByteArray)):List St:=ks.map fun k=>⟨k.1,k.2,0⟩
theorem DD (ks:List (ByteArray × ByteArray)):(EZ ks).length=ks.length:=by simp [EZ]
theorem Nh (ks:List (ByteArray × ByteArray)) (k:ByteArray × ByteArray):EZ (ks ++ [k])=EZ ks ++ [⟨k.1,k.2,0⟩]:=by simp [EZ]
def dw (rs:List TR) (k:Nat):List (ByteArray × ByteArray):=au (ah (rs.take k))
def iP (t:TR) (j:Nat):List (ByteArray × ByteArray):=(t.rows.take j).map fun q=>(t.name,q.name)
theorem oQ (rs:List TR) (k:Nat) (h:k < rs.length):dw rs (k + 1)=dw rs k ++ iP rs[k] rs[k].rows.length:=by
 unfold dw iP;rw [SA h,SS];unfold ah au;rw [List.map_append,List.flatMap_append,List.map_singleton,List.flatMap_singleton];congr 1;simp [jL,TR.p,eu,RR.p]
theorem sQ (t:TR) (j:Nat) (h:j < t.rows.length):iP t (j + 1)=iP t j ++ [(t.name,t.rows[j].name)]:=by
 unfold iP;rw [SA h,List.map_append]; rfl
theorem Ca (t:TR) (j:Nat):(iP t j).length≤t.rows.length:=by unfold iP; simp; omega
theorem vV (rs:List TR) (hr:∀ r ∈ rs,r.rows.length≤6) (k:Nat):(dw rs k).length≤k * 6:=by
 induction k with
 | zero=>simp [dw,ah,au]
 | succ k ih =>
  by_cases h:k < rs.length
  ·rw [oQ _ _ h,SE];have h1:=Ca rs[k] rs[k].rows.length;have h2:=hr rs[k] (Sw h);omega
  have e:rs.take (k + 1)=rs.take k:=by rw [List.take_of_length_le (by omega),List.take_of_length_le (by omega)]
  unfold dw at ih ⊢;rw [e]; omega
open Go.Maps
def RR.sl (q:RR):Value:=.slice q.ad q.rows.length q.cap
def kX (t:aD) (M:ByteArray × ByteArray→Option Value):List RR→ByteArray × ByteArray→Option Value
 | []=>M
 | q::qs=>kX t (lm M (t,q.name) (some q.sl)) qs
def eD (M:ByteArray × ByteArray→Option Value):List TR→ByteArray × ByteArray→Option Value
 | []=>M
 | t::ts=>eD (kX t.name M t.rows) ts
def sS (rs:List TR):ByteArray × ByteArray→Option Value:=eD (fun _=>none) rs
theorem DF (t:aD) (M:ByteArray × ByteArray→Option Value) (xs ys:List RR):kX t M (xs ++ ys)=kX t (kX t M xs) ys:=by
 induction xs generalizing M with
 | nil=>rfl
 | cons q qs ih=>simp only [List.cons_append,kX]; exact ih _
theorem zt (M:ByteArray × ByteArray→Option Value) (xs ys:List TR):eD M (xs ++ ys)=eD (eD M xs) ys:=by
 induction xs generalizing M with
 | nil=>rfl
 | cons q qs ih=>simp only [List.cons_append,eD]; exact ih _
theorem Hd (t:aD) (M:ByteArray × ByteArray→Option Value) (qs:List RR) (j:Nat) (h:j < qs.length):kX t M (qs.take (j + 1))=lm (kX t M (qs.take j)) (t,qs[j].name) (some qs[j].sl):=by
 rw [SA h,DF]; rfl
theorem DI (M:ByteArray × ByteArray→Option Value) (rs:List TR) (k:Nat) (h:k < rs.length):eD M (rs.take (k + 1))=kX rs[k].name (eD M (rs.take k)) rs[k].rows:=by
 rw [SA h,zt]; rfl
set_option maxRecDepth 100000 in
theorem xx (ad:Option Addr) (cap:Nat) (rs:List TR) (w:ae) (hlen:rs.length≤6) (hs:mD w ad rs) (hrl:∀ r ∈ rs,r.rows.length≤6) (hf:∀ r ∈ rs,r.fits) :
  Calls prog 53 #[.slice ad rs.length cap] w fun e w'=>e=.returned (.map (some w.heap.size))∧aO dU prog 94 w' w.heap.size 36 (sS rs)∧af w w':=by
 have HS:=az hs;have XP:Hid (∀ r ∈ rs,r.rows.length≤6):=hrl;have TP:=az hf;have HM0:Hid (aO dU prog 94 (w.alloc (.map #[] 0)) w.heap.size 0 (fun _=>none)):=nH _ _ _ w;have HB0:Hid (af w (w.alloc (.map #[] 0))):=(Sz _ _).alloc (Sy _) _;clear hs hrl hf;have hmm:=@run_makeMap prog;go_enter func53,ntmps53;go_wp2_with fail;go_loopw [11] (fun i wr=>∃ k:Nat,k≤rs.length∧i=.int .i64 k∧Hid (aO dU prog 94 wr w.heap.size (k * 6) (eD (fun _=>none) (rs.take k)))∧Hid (af w wr)) (fun i _=>rs.length - (intOf i).toNat);case atStart=>exact ⟨0,SC _,rfl,HM0,HB0⟩
 clear HM0 HB0 hmm;obtain ⟨k,hk,rfl,HM,HB⟩:=hrel;by_cases hlt:k < rs.length
 ·rcases HS.out.below HB.out with rfl | ⟨b,off,rfl,hb,hr,hok⟩
  ·simp at hlt
  obtain ⟨t0,t1⟩:=hr k hlt;have hk1:=bq k;have hk2:(k:Int) < (rs.length:Int):=by omega
  have h6:rs[k].rows.length≤6:=XP.out _ (Sw hlt);have z0:rs[k].name.size≤maxLen:=(TP.out _ (Sw hlt)).1;have V5:Hid (∀ q ∈ rs[k].rows,q.fits):=(TP.out _ (Sw hlt)).2.2;clear hr hok;obtain ⟨W1,hW1⟩:∃ W1,W1=wr.alloc (.cells #[.string rs[k].name,.slice rs[k].ad rs[k].rows.length rs[k].cap] 127):=⟨_,rfl⟩;have hal:af wr W1:=by rw [hW1]; exact (Sz _ _).alloc (Sy _) _
  have WO:Hid (aO dU prog 94 W1 w.heap.size (k * 6) (eD (fun _=>none) (rs.take k))):=HM.out.below hal;have HB1:=jI HB hal;have UV:Hid (wr.heap.size < W1.heap.size∧W1.cell? ⟨wr.heap.size,0,none⟩=some (.string rs[k].name)):=⟨by rw [hW1]; simp,by rw [hW1]; simp⟩;have hgw:w.heap.size < wr.heap.size:=HM.out.lt;clear HM hal;go_wp2_with fail;rw [← hW1];clear hW1 t0 t1 HB;obtain ⟨wo,hwo⟩:∃ wo,wo=wr:=⟨_,rfl⟩;subst hwo;go_loopw [18] (fun i w2=>∃ j:Nat,j≤rs[k].rows.length∧i=.int .i64 j∧Hid (aO dU prog 94 w2 w.heap.size (k * 6 + j) (kX rs[k].name (eD (fun _=>none) (rs.take k)) (rs[k].rows.take j)))∧Hid (af w w2)∧Hid (wo.heap.size < w2.heap.size∧w2.cell? ⟨wo.heap.size,0,none⟩=some (.string rs[k].name))) (fun i _=>rs[k].rows.length - (intOf i).toNat);case atStart=>exact ⟨0,SC _,rfl,WO,HB1,UV⟩
  clear WO HB1 UV;obtain ⟨j,hj,rfl,HM,HB,HC⟩:=hrel;by_cases hjl:j < rs[k].rows.length
  ·rcases HS.out.below HB.out with hnil | ⟨b',off',he,hb2,hr,hok⟩
   ·rw [hnil] at hlt; simp at hlt
   injection he with he; injection he with he1 he2; subst he1; subst he2;have ok:=hok rs[k] (Sw hlt);rcases ok with hnil | ⟨b2,Uc,had,hbb,hr2,-⟩
   ·rw [hnil] at hjl; simp at hjl
   obtain ⟨q0,q1⟩:=hr2 j hjl;have z1:rs[k].rows[j].name.size≤maxLen:=(V5.out _ (Sw hjl)).1;have hj1:=bq j;have hj2:(j:Int) < (rs[k].rows.length:Int):=by omega
   obtain ⟨kl,hkl⟩:=kE (rs[k].name,rs[k].rows[j].name) z0 z1;have UJ:Hid (keyOf prog 94 (dU (rs[k].name,rs[k].rows[j].name))=some kl):=hkl;obtain ⟨W2,hW2⟩:∃ W2,W2=wr.alloc (.cells #[.string rs[k].rows[j].name,.slice rs[k].rows[j].ad rs[k].rows[j].rows.length rs[k].rows[j].cap] 147):=⟨_,rfl⟩;have hal:af wr W2:=by rw [hW2]; exact (Sz _ _).alloc (Sy _) _
   have Un:Hid (aO dU prog 94 W2 w.heap.size (k * 6 + j) (kX rs[k].name (eD (fun _=>none) (rs.take k)) (rs[k].rows.take j))):=HM.out.below hal;have HB2:=jI HB hal;have hc1:=aI hal HC.out.1 HC.out.2;have Us:Hid (wo.heap.size < W2.heap.size∧W2.cell? ⟨wo.heap.size,0,none⟩=some (.string rs[k].name)):=⟨Sv HC.out.1 hal.size,hc1⟩;have g0:W2.cell? ⟨wr.heap.size,0,none⟩=some (.string rs[k].rows[j].name):=by rw [hW2]; simp
   have g1:W2.cell? ⟨wr.heap.size,1,none⟩=some (.slice rs[k].rows[j].ad rs[k].rows[j].rows.length rs[k].rows[j].cap):=by rw [hW2]; simp
   have hsz:wo.heap.size < wr.heap.size:=HC.out.1;have hc0:=HC.out.2;rw [had];clear hr hok hr2 hkl HM hal HC;go_wp2_with (first | (at_mapUpdate; rw [← hW2]; refine nk _ rfl _ _ _ 91 rfl 94 33 ja uy underlying91 w.heap.size (k * 6 + j) _ rfl Un.out (by unfold maxLen; omega) (rs[k].name,rs[k].rows[j].name) kl rfl UJ.out _ rfl ?_; intro w3 hV3 hg3) | go_in);have HM4:Hid (aO dU prog 94 w3 w.heap.size (k * 6 + (j + 1)) (kX rs[k].name (eD (fun _=>none) (rs.take k)) (rs[k].rows.take (j + 1)))):=by
    show aO _ _ _ _ _ _ _;rw [Hd _ _ _ _ hjl]; exact hV3
   have U7:Hid (af w w3):=HB2.out.grown hg3 HB2.out.size (fun i hi=>by injection hi with hi; omega);have HC4:Hid (wo.heap.size < w3.heap.size∧w3.cell? ⟨wo.heap.size,0,none⟩=some (.string rs[k].name)):=⟨Sv Us.out.1 hg3.size,by rw [hg3.cell_far _ Us.out.1 (by simp; omega)]; exact Us.out.2⟩;clear hV3 hg3 hW2 Un HB2 Us g0 g1 q0 q1 hc0 hc1;go_wp2;go_roundw;case rel=>exact ⟨j + 1,by omega,by go_num,HM4,U7,HC4⟩
   simp [intOf] <;> omega
  obtain rfl:j=rs[k].rows.length:=by omega
  have HM4:Hid (aO dU prog 94 wr w.heap.size ((k + 1) * 6) (eD (fun _=>none) (rs.take (k + 1)))):=by
   show aO _ _ _ _ _ _ _;have:=HM.out;rw [SS] at this;rw [DI _ _ _ hlt]; exact this.mono (by omega)
  clear HM;go_wp2;go_roundw;case rel=>exact ⟨k + 1,by omega,by go_num,HM4,HB⟩
  simp [intOf] <;> omega
 obtain rfl:k=rs.length:=by omega
 have HM4:Hid (aO dU prog 94 wr w.heap.size 36 (sS rs)):=by
  show aO _ _ _ _ _ _ _;have:=HM.out;rw [SS] at this;exact this.mono (by omega)
 go_wp2;go_ret;exact ⟨rfl,HM4.out,HB.out⟩
theorem Qv:∀ x:List UInt8,Op.bytesLess x x=false
 | []=>rfl
 | a::x=>by simp [Op.bytesLess,Qv x]
theorem Qw:∀ x y z:List UInt8,Op.bytesLess x y=true→Op.bytesLess y z=true→Op.bytesLess x z=true
 | [],_,[],h,k=>by cases ‹List UInt8› <;> simp [Op.bytesLess] at h k
 | [],_,_::_,_,_=>rfl
 | _::_,[],_,h,_=>by simp [Op.bytesLess] at h
 | _::_,_::_,[],_,k=>by simp [Op.bytesLess] at k
 | a::x,b::y,c::z,h,k=>by
  simp only [Op.bytesLess,Bool.or_eq_true,SB,SN,beq_iff_eq] at h k ⊢;rcases h with h | ⟨h,h'⟩
  ·rcases k with k | ⟨k,k'⟩
   ·exact .inl (UInt8.lt_trans h k)
   exact .inl (k ▸ h)
  rcases k with k | ⟨k,k'⟩
  ·exact .inl (h ▸ k)
  exact .inr ⟨h.trans k,Qw x y z h' k'⟩
theorem qX {f:Nat→ByteArray} {n:Nat} (h:∀ i,i + 1 < n→jd (f i) (f (i + 1))=true):∀ i j,i < j→j < n→f i ≠ f j:=by
 have h2:∀ d i,i + d + 1 < n→jd (f i) (f (i + d + 1))=true:=by
  intro d
  induction d with
  | zero=>intro i hi; exact h i (by omega)
  | succ d ih =>
   intro i hi;have h3:=ih i (by omega);have h4:=h (i + d + 1) (by omega);exact Qw _ _ _ h3 h4
 intro i j hij hj e;have h5:=h2 (j - i - 1) i (by omega);have e2:i + (j - i - 1) + 1=j:=by omega
 rw [e2,e] at h5;unfold jd at h5;rw [Qv] at h5;cases h5
theorem lw {rs:List TR} (h:bz (ah rs)=true) (k:Nat) (hk:k < rs.length):aQ rs[k].name=true∧(∀ i (hi:i < rs.length),k=i + 1→jd rs[i].name rs[k].name=true)∧dF (eu rs[k].rows) rs[k].rows.length=true:=by
 simp only [bz,SB,SN] at h;rw [lh] at h;have h1:=oP h.2 k hk;unfold kF at h1;have e:(ah rs)[k]?=some rs[k].p:=by simp [ah,hk]
 rw [e] at h1;simp only [SB,SN] at h1;have e2:rs[k].p.rels.length=rs[k].rows.length:=by simp [TR.p,eu]
 rw [e2] at h1;refine ⟨h1.1.1.1,fun i hi hki=>?_,h1.2⟩;subst hki;have h2:=h1.1.1.2;have e3:(ah rs)[i]?=some rs[i].p:=by simp [ah,hi]
 simp only [e3,Option.map_some,Option.getD_some] at h2;exact h2
theorem Cb {rs:List RR} {n:Nat} (h:dF (eu rs) n=true) (k:Nat) (hk:k < rs.length) (hn:k < n):aQ rs[k].name=true∧(∀ i (hi:i < rs.length),k=i + 1→jd rs[i].name rs[k].name=true)∧aN (ak rs[k].rows)=true:=by
 have h1:=oO h k hn;unfold l5 at h1;have e:(eu rs)[k]?=some rs[k].p:=by simp [eu,hk]
 rw [e] at h1;simp only [SB] at h1;refine ⟨h1.1.1,fun i hi hki=>?_,h1.2⟩;subst hki;have h2:=h1.1.2;have e3:(eu rs)[i]?=some rs[i].p:=by simp [eu,hi]
 simp only [e3,Option.map_some,Option.getD_some] at h2;exact h2
theorem E5 {rs:List TR} (h:bz (ah rs)=true) {t t':TR} (ht:t ∈ rs) (ht':t' ∈ rs) (e:t.name=t'.name):t=t':=by
 obtain ⟨i,hi,rfl⟩:=List.mem_iff_getElem.1 ht;obtain ⟨j,hj,rfl⟩:=List.mem_iff_getElem.1 ht';have hne:=qX (f:=fun k=>(rs[k]?.map TR.name).getD ByteArray.empty) (n:=rs.length) (fun k hk=>by
  have h0:k < rs.length:=by omega
  simp only [SH hk,SH h0,Option.map_some,Option.getD_some];exact (lw h (k + 1) hk).2.1 k h0 rfl)
 by_cases hij:i=j
 ·subst hij; rfl
 exfalso;rcases Nat.lt_or_gt_of_ne hij with hl | hl
 ·have:=hne i j hl hj; simp [hi,hj] at this; exact this e
 have:=hne j i hl hi; simp [hi,hj] at this; exact this e.symm
theorem E8 {rs:List RR} (h:dF (eu rs) rs.length=true) {t t':RR} (ht:t ∈ rs) (ht':t' ∈ rs) (e:t.name=t'.name):t=t':=by
 obtain ⟨i,hi,rfl⟩:=List.mem_iff_getElem.1 ht;obtain ⟨j,hj,rfl⟩:=List.mem_iff_getElem.1 ht';have hne:=qX (f:=fun k=>(rs[k]?.map RR.name).getD ByteArray.empty) (n:=rs.length) (fun k hk=>by
  have h0:k < rs.length:=by omega
  simp only [SH hk,SH h0,Option.map_some,Option.getD_some];exact (Cb h (k + 1) hk hk).2.1 k h0 rfl)
 by_cases hij:i=j
 ·subst hij; rfl
 exfalso;rcases Nat.lt_or_gt_of_ne hij with hl | hl
 ·have:=hne i j hl hj; simp [hi,hj] at this; exact this e
 have:=hne j i hl hi; simp [hi,hj] at this; exact this e.symm
theorem He {t:ByteArray} {M:ByteArray × ByteArray→Option Value} {qs:List RR} {k:ByteArray × ByteArray} {v:Value} (h:kX t M qs k=some v):M k=some v ∨ ∃ q ∈ qs,k=(t,q.name)∧v=q.sl:=by
 induction qs generalizing M with
 | nil=>exact .inl h
 | cons q qs ih =>
  simp only [kX] at h;rcases ih h with h | ⟨q',hq,e⟩
  ·by_cases e:k=(t,q.name)
   ·rw [e,dX] at h; injection h with h; exact .inr ⟨q,by simp,e,h.symm⟩
   rw [bZ e] at h; exact .inl h
  exact .inr ⟨q',by simp [hq],e⟩
theorem xy {t:ByteArray} {M:ByteArray × ByteArray→Option Value} {qs:List RR} {k:ByteArray × ByteArray} (h:(M k).isSome=true ∨ ∃ q ∈ qs,k=(t,q.name)):(kX t M qs k).isSome=true:=by
 induction qs generalizing M with
 | nil=>rcases h with h | ⟨q,hq,-⟩; exact h; cases hq
 | cons q qs ih =>
  simp only [kX];refine ih ?_;by_cases e:k=(t,q.name)
  ·left; rw [e,dX]; rfl
  rcases h with h | ⟨q',hq,e'⟩
  ·left; rw [bZ e]; exact h
  rcases List.mem_cons.1 hq with rfl | hq
  ·exact absurd e' e
  exact .inr ⟨q',hq,e'⟩
theorem DJ {M:ByteArray × ByteArray→Option Value} {rs:List TR} {k:ByteArray × ByteArray} {v:Value} (h:eD M rs k=some v):M k=some v ∨ ∃ t ∈ rs,∃ q ∈ t.rows,k=(t.name,q.name)∧v=q.sl:=by
 induction rs generalizing M with
 | nil=>exact .inl h
 | cons t rs ih =>
  simp only [eD] at h;rcases ih h with h | ⟨t',ht,e⟩
  ·rcases He h with h | ⟨q,hq,e⟩
   ·exact .inl h
   exact .inr ⟨t,by simp,q,hq,e⟩
  exact .inr ⟨t',by simp [ht],e⟩
theorem rW {M:ByteArray × ByteArray→Option Value} {rs:List TR} {k:ByteArray × ByteArray} (h:(M k).isSome=true ∨ ∃ t ∈ rs,∃ q ∈ t.rows,k=(t.name,q.name)):(eD M rs k).isSome=true:=by
 induction rs generalizing M with
 | nil=>rcases h with h | ⟨q,hq,-⟩; exact h; cases hq
 | cons t rs ih =>
  simp only [eD];refine ih ?_;rcases h with h | ⟨t',ht,q,hq,e⟩
  ·exact .inl (xy (.inl h))
  rcases List.mem_cons.1 ht with rfl | ht
  ·exact .inl (xy (.inr ⟨q,hq,e⟩))
  exact .inr ⟨t',ht,q,hq,e⟩
theorem Hf {rs:List Rl} {n:ByteArray} (h:jK rs n=none):∀ r ∈ rs,r.name ≠ n:=by
 induction rs with
 | nil=>intro r hr; cases hr
 | cons r rs ih =>
  simp only [jK] at h;split at h
  ·cases h
  rename_i hn;intro q hq;rcases List.mem_cons.1 hq with rfl | hq
  ·exact fun e=>hn (eZ.2 e)
  exact ih h q hq
theorem Kt {ts:List Ty} {ty n:ByteArray} (h:gm ts ty n=none):∀ t ∈ ts,t.name=ty→∀ r ∈ t.rels,r.name ≠ n:=by
 induction ts with
 | nil=>intro t ht; cases ht
 | cons t ts ih =>
  simp only [gm] at h;intro q hq e;split at h
  ·rw [Option.or_eq_none_iff] at h;rcases List.mem_cons.1 hq with rfl | hq
   ·exact Hf h.1
   exact ih h.2 q hq e
  rename_i hn;rcases List.mem_cons.1 hq with rfl | hq
  ·exact absurd (eZ.2 e) hn
  exact ih h q hq e
theorem qp {rs:List TR} {ty n:ByteArray} {es:List Ex} (h:gm (ah rs) ty n=some es):∃ t ∈ rs,∃ q ∈ t.rows,t.name=ty∧q.name=n∧ak q.rows=es:=by
 obtain ⟨t,ht,r,hr,e1,e2,e3⟩:=zn h;obtain ⟨t',ht',rfl⟩:=SK.1 ht;obtain ⟨q,hq,rfl⟩:=SK.1 hr;exact ⟨t',ht',q,hq,e1,e2,e3⟩
structure Tab (rs:List TR) (M:ByteArray × ByteArray→Option Value):Prop where
 no:∀ k,M k=none→gm (ah rs) k.1 k.2=none
 yes:∀ k v,M k=some v→∃ t ∈ rs,∃ q ∈ t.rows,k=(t.name,q.name)∧v=q.sl∧gm (ah rs) k.1 k.2=some (ak q.rows)∧aN (ak q.rows)=true
theorem zu {rs:List TR} (h:bz (ah rs)=true):Tab rs (sS rs) where
 no k hk:=by
  cases e:gm (ah rs) k.1 k.2 with
  | none=>rfl
  | some es =>
   obtain ⟨t,ht,q,hq,e1,e2,-⟩:=qp e;have:=rW (M:=fun _=>none) (rs:=rs) (k:=k) (.inr ⟨t,ht,q,hq,by rw [e1,e2]⟩);unfold sS at hk;rw [hk] at this; cases this
 yes k v hk:=by
  rcases DJ hk with h0 | ⟨t,ht,q,hq,e,ev⟩
  ·cases h0
  have hSF:=bP h;refine ⟨t,ht,q,hq,e,ev,?_,(hSF.2.2 t ht q hq).1⟩;cases e2:gm (ah rs) k.1 k.2 with
  | none=>exact (Kt e2 t.p (List.mem_map_of_mem ht) (by rw [e]; rfl) q.p (List.mem_map_of_mem hq) (by rw [e]; rfl)).elim
  | some es =>
   obtain ⟨t',ht',q',hq',e3,e4,e5⟩:=qp e2;have h1:t'=t:=E5 h ht' ht (by rw [e3,e]);subst h1;obtain ⟨i,hi,rfl⟩:=List.mem_iff_getElem.1 ht;have h2:q'=q:=E8 (lw h i hi).2.2 hq' hq (by rw [e4,e]);subst h2;rw [e5]
theorem Tab.some_iff {rs:List TR} {M:ByteArray × ByteArray→Option Value} (h:Tab rs M) (k:ByteArray × ByteArray):(M k).isSome=!(aL (ah rs) k.1 k.2).isEmpty:=by
 unfold aL;cases e:M k with
 | none=>rw [h.no k e]; rfl
 | some v =>
  obtain ⟨t,ht,q,hq,-,-,e1,e2⟩:=h.yes k v e;rw [e1];have:=nP e2;cases e3:ak q.rows with
  | nil=>rw [e3] at this; simp at this
  | cons x xs=>rfl
end Go.Proofs.YtajkkeikihhejaaGreat
