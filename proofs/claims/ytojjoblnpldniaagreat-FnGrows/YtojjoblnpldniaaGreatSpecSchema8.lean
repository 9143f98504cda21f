/- Contract of the document's function on what a relation leans on: the walk. -/
import Derived.Test.YtojjoblnpldniaaGreatSq
import Derived.Test.YtojjoblnpldniaaGreatJ5
open Go.Proofs.Tryz
set_option maxHeartbeats 80000000
namespace Go.Proofs.YtojjoblnpldniaaGreat
open ChangeShapes WideShapes ChangeAt RowKit
open Pl
theorem own_below{w w':ae}{base:Nat}{e:TypeId}{size:Nat}{v:Value}{n:Nat}{xs:Q03}(h:w.ownsRow base e size v n xs)(hB:ag w w'):w'.ownsRow base e size v n xs:=by
 have hg:w.grownBy w' none:=⟨hB.os,hB.tape,hB.output,hB.size,fun k hk _=>hB.block k hk⟩;cases ho:v.ownBlock with
 | none=>exact h.kept hg (.inl ho)
 | some g=>exact h.kept hg (.inr (by rw[ho];simp))
theorem qC{w w':ae}{v v':Value}{g o:Nat}{u:Value}(h:Aside w v w' v')(hg:g<w.heap.size)(hv:v.ownBlock≠some g)(hc:w.cell? ⟨g,o,none⟩=some u):w'.cell? ⟨g,o,none⟩=some u:=(h.cell (p:=⟨g,o,none⟩) hg hv).trans hc
theorem Gf(es:Q09)(m:Nat)(out:List Bool):(dX es m out).length=out.length:=by
 induction m generalizing out with
 | zero=>rfl
 | succ m ih =>
  simp only[dX];rw[ih];split
  ·rfl
  exact xP _ _ _ _ _
theorem Gg(es:Q09):(dz es).length=es.length:=by unfold dz;rw[Gf];simp
theorem Gh(ts:Q0b)(typ:bQ)(rows:Q08)(k:Nat)(h:k<rows.length)(ng:Bool)(hn:ng=(dz (aj rows)).getD k false):aM ts typ (aj rows) (k+1)=(aM ts typ (aj rows) k++cz ng rows[k].e.allow)++kX ts typ ng rows[k].e:=by
 have e:(aj rows)[k]?=some rows[k].e:=by simp[aj,h]
 show aM ts typ (aj rows) k++gX ts typ (aj rows) k=_;unfold gX;rw[e,hn,VU]
set_option maxRecDepth 100000 in
theorem Je(ad WM:Q02)(cap capE:Nat)(rs:Q06)(typ:bQ)(rows:Q08)(w:ae)(hlen:rs.length<=1048576)(hs:mP w ad rs)(hl:∀r∈rs,r.light)(hle:rows.length<=15)(hse:jw w WM rows)(hlE:∀q∈rows,q.e.light)(hkE:∀q∈rows,eT rows.length q.e.kids)
    (hsm:∀k,(aM (af rs) typ (aj rows) k).length<=100000000) :
    Calls prog 218 #[.slice ad rs.length cap,.string typ,.slice WM rows.length capE] w fun e w'=>(∃v,e=.returned v/\w'.ownsRow w.heap.size 294 3 v (pX (af rs) typ (aj rows)).length (eD (pX (af rs) typ (aj rows))))/\ag w w':=by
  have HS:=aC hs;have HL:=aC hl;have HE:=aC hse;have XA:=aC hlE;have HKE:=aC hkE;have HSM:Hid (∀k,(aM (af rs) typ (aj rows) k).length<=100000000):=hsm;clear hs hl hse hlE hkE hsm;obtain⟨i0,hi,hz0,hz1,hz2⟩:=info_parts Pb;go_enter func218,ntmps218;go_wp2_with fail;have hbA:ag w (w.alloc (.cells #[] 294)):=(Vs _ _).alloc (Vr _) _;have hown1:(w.alloc (.cells #[] 294)).ownsRow w.heap.size 294 3 (.slice (some ⟨w.heap.size,0,none⟩) 0 0) 0 []:=World.ownsRow_made w #[] 0 (Vr _) (by decide) rfl;refine(Mk WM capE rows _ (by omega) (HE.out.below hbA) XA.out HKE.out).mono ?_;rintro e w1 ⟨rfl,hF⟩;have Xb:Hid (w1.ownsRow w.heap.size 294 3 (.slice (some ⟨w.heap.size,0,none⟩) 0 0) 0 []):=own_below hown1 hF.below;have HB1:Hid (ag w w1):=hbA.trans (hF.below.mono (by simp));have hgN:(w.alloc (.cells #[] 294)).heap.size=w.heap.size+1:=by simp
  rw[hgN]at hF ⊢;have hgl:=hF.lt;have HNG:Hid (∀(j:Nat) (h:j<rows.length),w1.cell? ⟨w.heap.size+1,j,none⟩=some (.bool ((dz (aj rows)).getD j false))):=by
    intro j hj;have hn:j<(dz (aj rows)).length:=by rw[Gg,aX];exact hj
    have:=hF.done j (by simpa[bools] using hn);rw[this];simp[bools,hn]
  clear hF hown1 hbA hgN;obtain⟨gN,hgN⟩:∃gN,gN=w.heap.size+1:=⟨_,rfl⟩;rw[<-hgN]at hgl HNG ⊢;have hgne:w.heap.size<gN:=by omega
  clear hgN;go_wp2_with fail;go_loopw[7,9] (fun v i wr=>∃k:Nat,k<=rows.length/\i=.int .i64 k/\Hid (wr.ownsRow w.heap.size 294 3 v (aM (af rs) typ (aj rows) k).length (eD (aM (af rs) typ (aj rows) k)))/\Hid (ag w wr)/\Hid (Aside w1 (.slice (some ⟨w.heap.size,0,none⟩) 0 0) wr v)) (fun _ i _=>rows.length-(intOf i).toNat);case atStart=>exact⟨0,Vv _,rfl,Xb,HB1,Aside.refl _ _⟩
  obtain⟨k,hk,rfl,HOW,HB,HAS⟩:=hrel;by_cases hlt:k<rows.length
  · rcases HE.out.below HB.out with rfl|⟨b,off,rfl,hb,hr,hok⟩
    · simp at hlt
    obtain⟨t0,t1,t2,t3,t4⟩:=hr k hlt;have XN:Hid (rows[k].ok w):=HE.out.mem (Vp hlt);have lg:=(XA.out rows[k] (Vp hlt)).1;have hk1:=bC k;have hk2:(k:Int)<(rows.length:Int):=by omega
    have c0:wr.cell? ⟨gN,k,none⟩=some (.bool ((dz (aj rows)).getD k false)):=(HAS.out.cell (p:=⟨gN,k,none⟩) hgl (by simp[Value.ownBlock];omega)).trans (HNG.out k hlt);clear hr hok;obtain⟨ng,hng⟩:∃ng,ng=(dz (aj rows)).getD k false:=⟨_,rfl⟩;rw[<-hng]at c0;have HNK:Hid (ng=(dz (aj rows)).getD k false):=hng;clear hng;obtain⟨W1,hW1⟩:∃W1,W1=wr.alloc (.cells #[.int .i64 rows[k].e.kind,.slice rows[k].adA rows[k].e.allow.length rows[k].capA,.string rows[k].e.over,.string rows[k].e.name,.slice rows[k].adK rows[k].e.kids.length rows[k].capK] 43):=⟨_,rfl⟩;have hal:ag wr W1:=by rw[hW1];exact(Vs _ _).alloc (Vr _) _
    have WX:=aC hal;have WP:=iJ HB hal;have YB:wr.heap.size<W1.heap.size:=by rw[hW1];simp
    have g0:W1.cell? ⟨wr.heap.size,0,none⟩=some (.int .i64 rows[k].e.kind):=by rw[hW1];simp
    have g1:W1.cell? ⟨wr.heap.size,1,none⟩=some (.slice rows[k].adA rows[k].e.allow.length rows[k].capA):=by rw[hW1];simp
    have g2:W1.cell? ⟨wr.heap.size,2,none⟩=some (.string rows[k].e.over):=by rw[hW1];simp
    have g3:W1.cell? ⟨wr.heap.size,3,none⟩=some (.string rows[k].e.name):=by rw[hW1];simp
    have hgr:gN<wr.heap.size:=Vq hgl HAS.out.size;have gn:=aA hal hgr c0;have YI:Hid (W1.ownsRow w.heap.size 294 3 u7 (aM (af rs) typ (aj rows) k).length (eD (aM (af rs) typ (aj rows) k))):=own_below HOW.out hal;have HV1:Hid (u7.ownBlock≠some gN):=HAS.out.apart hgl (by simp[Value.ownBlock];omega);have HV2:Hid (u7.ownBlock≠some wr.heap.size):=fun e=>by have:=(HOW.out.lt _ e).2;omega
    clear hal c0;go_wp2_with fail;rw[<-hW1];clear hW1 t0 t1 t2 t3 t4;obtain⟨wo,hwo⟩:∃wo,wo=wr:=⟨_,rfl⟩;subst hwo;go_loopw[7,11] (fun v i w2=>∃j:Nat,j<=rows[k].e.allow.length/\i=.int .i64 j/\Hid (w2.ownsRow w.heap.size 294 3 v ((aM (af rs) typ (aj rows) k).length+(cz ng (rows[k].e.allow.take j)).length) (eD (aM (af rs) typ (aj rows) k++cz ng (rows[k].e.allow.take j))))/\Hid (ag w w2)/\Hid (Aside W1 u7 w2 v)) (fun _ i _=>rows[k].e.allow.length-(intOf i).toNat);case atStart=>exact⟨0,Vv _,rfl,(by simpa[cz,Hid] using YI),WP,Aside.refl _ _⟩
    obtain⟨j,hj,rfl,WL,HB2,HA2⟩:=hrel;have d0:=qC HA2.out YB HV2.out g0;have d1:=qC HA2.out YB HV2.out g1;have d2:=qC HA2.out YB HV2.out g2;have d3:=qC HA2.out YB HV2.out g3;have dn:=qC HA2.out (Nat.lt_trans hgr YB) HV1.out gn;clear g0 g1 g2 g3 gn;by_cases hjl:j<rows[k].e.allow.length
    · have hA3:=(XN.out.1).below HB2.out;have hA4:=XN.out.1;rcases hA4 with hnil|⟨ba,Yx,Yy,ZT,-⟩
      · rw[hnil]at hjl;simp at hjl
      rcases hA3 with hnil|⟨ba',offa',aaf,-,hra⟩
      · rw[hnil]at hjl;simp at hjl
      rw[Yy]at aaf d1;injection aaf with aaf;injection aaf with e1 e2;subst e1;subst e2;obtain⟨q0,q1⟩:=hra j hjl;have hj1:=bC j;have hj2:(j:Int)<(rows[k].e.allow.length:Int):=by omega
      clear hra Yy;cases he:rows[k].e.allow[j].s.toList.isEmpty;case true=>
        have HE2:Hid (cz ng (rows[k].e.allow.take (j+1))=cz ng (rows[k].e.allow.take j)):=O9 _ _ _ hjl he;go_wp2;go_roundw;case rel=>exact⟨j+1,by omega,by go_num,by rw[HE2.out];exact WL,HB2,HA2⟩
        simp[intOf]<;>omega
      have HE2:Hid (cz ng (rows[k].e.allow.take (j+1))=cz ng (rows[k].e.allow.take j)++[⟨rows[k].e.allow[j].t,rows[k].e.allow[j].s,ng⟩]):=Ml _ _ _ hjl he;have a1:u7.ownBlock≠some wo.heap.size:=HA2.out.apart YB HV2.out;have a2:u7.ownBlock≠some gN:=HA2.out.apart (Nat.lt_trans hgr YB) HV1.out;have a3:u7.ownBlock≠some ba:=fun e=>by have:=(WL.out.lt _ e).1;omega
      have l1:wo.heap.size<wr.heap.size:=Vq YB HA2.out.size;have l2:gN<wr.heap.size:=Nat.lt_trans hgr l1;have l3:ba<wr.heap.size:=Vq ZT HB2.out.size;have l4:w.heap.size<=wr.heap.size:=HB2.out.size;obtain⟨xs,hxs⟩:∃xs,xs=eD (aM (af rs) typ (aj rows) k++cz ng (rows[k].e.allow.take j)):=⟨_,rfl⟩;obtain⟨n,hn⟩:∃n,n=(aM (af rs) typ (aj rows) k).length+(cz ng (rows[k].e.allow.take j)).length:=⟨_,rfl⟩;have hnl:n<=101048576:=by
        have h1:=HSM.out k;have h2:=CY ng (rows[k].e.allow.take j);rw[Wi]at h2;omega
      have hown:=WL.out;rw[<-hxs,<-hn]at hown;have Zm:Hid (eD (aM (af rs) typ (aj rows) k++cz ng (rows[k].e.allow.take (j+1)))=xs++[.string rows[k].e.allow[j].t,.string rows[k].e.allow[j].s,.bool ng]):=by
        show _=_;rw[HE2.out,<-VU,tZ,<-hxs];rfl
      have YP:Hid ((aM (af rs) typ (aj rows) k).length+(cz ng (rows[k].e.allow.take (j+1))).length=n+1):=by
        show _=_;rw[HE2.out,hn];simp;omega
      clear WL hxs hn;go_wp2_with fail
      go_region_held3 (fun w'=>w'.cell? ⟨wo.heap.size,1,none⟩=some (.slice (some ⟨ba,Yx,none⟩) rows[k].e.allow.length rows[k].capA)/\w'.cell? ⟨ba,Yx+j*2,none⟩=some (.string rows[k].e.allow[j].t) /\
          w'.cell? ⟨ba,Yx+j*2+1,none⟩=some (.string rows[k].e.allow[j].s)/\w'.cell? ⟨gN,k,none⟩=some (.bool ng))
        (first
          | go_keep
          | (go_split_ands
             refine⟨?_,?_,?_,?_⟩
             · (rw[hgrow.cell_far _ (by simp;omega) (Ne.symm a1)];assumption)
             · (rw[hgrow.cell_far _ (by simp;omega) (Ne.symm a3)];assumption)
             · (rw[hgrow.cell_far _ (by simp;omega) (Ne.symm a3)];assumption)
             · (rw[hgrow.cell_far _ (by simp;omega) (Ne.symm a2)];assumption)))
        ((refine step_append_lies _ (by rfl) _ _ _ (by rfl) w.heap.size 294 i0 _ 3 40 underlying290 hi hz0 hz1 hz2 rfl (by omega) u7 n xs (by rfl) ((hown.alloc _).drew)
            ⟨wr.heap.size,0,none⟩ 1 1 [.string rows[k].e.allow[j].t,.string rows[k].e.allow[j].s,.bool ng] (by rfl) (by rfl) (World.news_of_block (cs:=#[.string rows[k].e.allow[j].t,.string rows[k].e.allow[j].s,.bool ng]) (t:=294) (fr:=(0,0)) (heap_alloc_new wr _)) (by simp[Value.oneCell'])
            (by omega) (by unfold maxLen;omega) (by omega) (by simp;omega) (wr.heap.size+1) (by simp) ?_;intro gg cp w5 hown5 hgrow hat hlt5))
      have hb5:Hid (ag w w5):=((HB2.out.alloc HB2.out.size _).drew).grown hgrow (by simp;omega) (fun i hi=>(hown.lt i hi).1);have hAx:Aside wr u7 w5 (.slice (some ⟨gg,0,none⟩) (n+1) cp):=(Aside.below (((Vs _ _).alloc (Vr _) _).drew)).trans (Aside.app hgrow (by
        rcases hat with e|e
        · left;rw[e];rfl
        · right;rw[e];simp[Value.ownBlock]))
      have HA5:=HA2.out.trans hAx;have HA5':Hid (Aside W1 _ w5 (.slice (some ⟨gg,0,none⟩) (n+1) cp)):=HA5;have WV:Hid (w5.ownsRow w.heap.size 294 3 (.slice (some ⟨gg,0,none⟩) (n+1) cp) ((aM (af rs) typ (aj rows) k).length+(cz ng (rows[k].e.allow.take (j+1))).length) (eD (aM (af rs) typ (aj rows) k++cz ng (rows[k].e.allow.take (j+1))))):=by
        show World.ownsRow _ _ _ _ _ _ _;rw[Zm.out,YP.out];exact hown5
      clear hown5 hgrow hat hAx HA5 hown;go_wp2;go_roundw;case rel=>exact⟨j+1,by omega,by go_num,WV,hb5,HA5'⟩
      simp[intOf]<;>omega
    · obtain rfl:j=rows[k].e.allow.length:=by omega
      have a1:u7.ownBlock≠some wo.heap.size:=HA2.out.apart YB HV2.out;have a2:u7.ownBlock≠some gN:=HA2.out.apart (Nat.lt_trans hgr YB) HV1.out;have l1:wo.heap.size<wr.heap.size:=Vq YB HA2.out.size;have l2:gN<wr.heap.size:=Nat.lt_trans hgr l1;have l4:w.heap.size<=wr.heap.size:=HB2.out.size;have HUS:=Gh (af rs) typ rows k hlt ng HNK.out;obtain⟨D,hD⟩:∃D,D=aM (af rs) typ (aj rows) k++cz ng rows[k].e.allow:=⟨_,rfl⟩;have hown:wr.ownsRow w.heap.size 294 3 u7 D.length (eD D):=by
        have:=WL.out;rw[VI,<-hD,<-Vx,<-hD]at this;exact this
      rw[<-hD]at HUS;have hnl:D.length<=100000000:=by
        have h1:=HSM.out (k+1);rw[HUS,Vx]at h1;omega
      have HUP:Hid (aM (af rs) typ (aj rows) (k+1)=D++kX (af rs) typ ng rows[k].e):=HUS;have HAW:Hid (Aside w1 (.slice (some ⟨w.heap.size,0,none⟩) 0 0) wr u7):=(HAS.out.trans (Aside.below WX.out)).trans HA2.out;clear WL HUS hD;by_cases h2:rows[k].e.kind=2
      · have Zm:Hid (aM (af rs) typ (aj rows) (k+1)=D++[⟨typ,rows[k].e.name,ng⟩]):=by show _=_;rw[HUP.out];simp[kX,h2]
        obtain⟨xs,hxs⟩:∃xs,xs=eD D:=⟨_,rfl⟩;obtain⟨n,hn⟩:∃n,n=D.length:=⟨_,rfl⟩;rw[<-hxs,<-hn]at hown;rw[<-hn]at hnl;have HFX:Hid (eD (aM (af rs) typ (aj rows) (k+1))=xs++[.string typ,.string rows[k].e.name,.bool ng]):=by
          show _=_;rw[Zm.out,tZ,<-hxs];rfl
        have YP:Hid ((aM (af rs) typ (aj rows) (k+1)).length=n+1):=by show _=_;rw[Zm.out,hn];simp
        clear hxs hn;go_wp2_with fail
        go_region_held3 (fun w'=>w'.cell? ⟨wo.heap.size,3,none⟩=some (.string rows[k].e.name)/\w'.cell? ⟨gN,k,none⟩=some (.bool ng))
          (first
            | go_keep
            | (go_split_ands
               refine⟨?_,?_⟩
               · (rw[hgrow.cell_far _ (by simp;omega) (Ne.symm a1)];assumption)
               · (rw[hgrow.cell_far _ (by simp;omega) (Ne.symm a2)];assumption)))
          ((refine step_append_lies _ (by rfl) _ _ _ (by rfl) w.heap.size 294 i0 _ 3 40 underlying290 hi hz0 hz1 hz2 rfl (by omega) u7 n xs (by rfl) ((hown.alloc _).drew)
              ⟨wr.heap.size,0,none⟩ 1 1 [.string typ,.string rows[k].e.name,.bool ng] (by rfl) (by rfl) (World.news_of_block (cs:=#[.string typ,.string rows[k].e.name,.bool ng]) (t:=294) (fr:=(0,0)) (heap_alloc_new wr _)) (by simp[Value.oneCell'])
              (by omega) (by unfold maxLen;omega) (by omega) (by simp;omega) (wr.heap.size+1) (by simp) ?_;intro gg cp w5 hown5 hgrow hat hlt5))
        have hb5:Hid (ag w w5):=((HB2.out.alloc HB2.out.size _).drew).grown hgrow (by simp;omega) (fun i hi=>(hown.lt i hi).1);have hAx:Aside wr u7 w5 (.slice (some ⟨gg,0,none⟩) (n+1) cp):=(Aside.below (((Vs _ _).alloc (Vr _) _).drew)).trans (Aside.app hgrow (by
          rcases hat with e|e
          · left;rw[e];rfl
          · right;rw[e];simp[Value.ownBlock]))
        have f0:=qC hAx l1 a1 d0;have HA5:Hid (Aside w1 (.slice (some ⟨w.heap.size,0,none⟩) 0 0) w5 (.slice (some ⟨gg,0,none⟩) (n+1) cp)):=HAW.out.trans hAx;have WV:Hid (w5.ownsRow w.heap.size 294 3 (.slice (some ⟨gg,0,none⟩) (n+1) cp) (aM (af rs) typ (aj rows) (k+1)).length (eD (aM (af rs) typ (aj rows) (k+1)))):=by
          show World.ownsRow _ _ _ _ _ _ _;rw[HFX.out,YP.out];exact hown5
        clear hown5 hgrow hat hAx hown d0 d1 d2 d3 dn;go_wp2;go_roundw;case rel=>exact⟨k+1,by omega,by go_num,WV,hb5,HA5⟩
        simp[intOf]<;>omega
      by_cases h3:rows[k].e.kind=3
      · go_wp2_with fail;refine(xO ad cap rs _ _ _ _ hlen (HS.out.below HB2.out) HL.out).mono ?_;rintro e w4 ⟨⟨ad4,cap4,rfl,hs4,hn4⟩,hb4⟩;have HXG:Hid (aM (af rs) typ (aj rows) (k+1)=D++(gW (af rs) typ rows[k].e.over rows[k].e.name).map fun g=>(⟨g,rows[k].e.name,ng⟩:Dp)):=by show _=_;rw[HUP.out];simp[kX,h3]
        generalize gW (af rs) typ rows[k].e.over rows[k].e.name=gs at *
        have hgs:D.length+gs.length<=100000000:=by
          have h1:=HSM.out (k+1);rw[HXG.out,Vx,Wy]at h1;exact h1
        have f3:=aA hb4 l1 d3;have fn:=aA hb4 l2 dn;have WZ:Hid (w4.ownsRow w.heap.size 294 3 u7 D.length (eD D)):=own_below hown hb4;have Xt:=iJ HB2 hb4;have HA4:Hid (Aside w1 (.slice (some ⟨w.heap.size,0,none⟩) 0 0) w4 u7):=HAW.out.trans (Aside.below hb4);have HSG:=aC hs4;have HVG:Hid (∀p,ad4=some p->u7.ownBlock≠some p.block):=fun p hp e=>by have h1:=(hown.lt _ e).2;have h2:=hn4 p hp;omega
        have m1:wo.heap.size<w4.heap.size:=Vq l1 hb4.size;have m2:gN<w4.heap.size:=Vq l2 hb4.size;have m4:w.heap.size<=w4.heap.size:=Xt.out.size;clear hown hb4 hs4 hn4 d0 d1 d2 d3 dn l1 l2 l4;obtain⟨uo,huo⟩:∃uo,uo=u7:=⟨_,rfl⟩;subst huo;go_wp2_with fail;go_loopw[7,13] (fun v i w6=>∃m:Nat,m<=gs.length/\i=.int .i64 m/\Hid (w6.ownsRow w.heap.size 294 3 v (D.length+m) (eD (D++(gs.take m).map fun g=>(⟨g,rows[k].e.name,ng⟩:Dp))))/\Hid (ag w w6)/\Hid (Aside w4 uo w6 v)) (fun _ i _=>gs.length-(intOf i).toNat);case atStart=>exact⟨0,Vv _,rfl,(by simpa[Hid] using WZ),Xt,Aside.refl _ _⟩
        obtain⟨m,hm,rfl,XL,Ze,HA6⟩:=hrel;have x3:=qC HA6.out m1 a1 f3;have xn:=qC HA6.out m2 a2 fn;by_cases Xa:m<gs.length
        · rcases HSG.out with rfl|⟨bg,offg,rfl,hbg,hrg⟩
          · simp at Xa
          have q0:=qC HA6.out hbg (HVG.out _ rfl) (hrg m Xa);have hm1:=bC m;have hm2:(m:Int)<(gs.length:Int):=by omega
          have b1:u7.ownBlock≠some wo.heap.size:=HA6.out.apart m1 a1;have b2:u7.ownBlock≠some gN:=HA6.out.apart m2 a2;have b3:u7.ownBlock≠some bg:=HA6.out.apart hbg (HVG.out _ rfl);have l1:wo.heap.size<wr.heap.size:=Vq m1 HA6.out.size;have l2:gN<wr.heap.size:=Vq m2 HA6.out.size;have l3:bg<wr.heap.size:=Vq hbg HA6.out.size;have l4:w.heap.size<=wr.heap.size:=Ze.out.size;obtain⟨xs,hxs⟩:∃xs,xs=eD (D++(gs.take m).map fun g=>(⟨g,rows[k].e.name,ng⟩:Dp)):=⟨_,rfl⟩;obtain⟨n,hn⟩:∃n,n=D.length+m:=⟨_,rfl⟩;have hown:=XL.out;rw[<-hxs,<-hn]at hown;have HFX:Hid (eD (D++(gs.take (m+1)).map fun g=>(⟨g,rows[k].e.name,ng⟩:Dp))=xs++[.string gs[m],.string rows[k].e.name,.bool ng]):=by
            show _=_;rw[Vu Xa,Wu,<-VU,List.map_singleton,tZ,<-hxs];rfl
          have YP:Hid (D.length+(m+1)=n+1):=by show _=_;omega
          have hnl2:n<=100000000:=by omega
          have hgb:gs.length<=100000000:=by omega
          clear XL hxs hn hrg hnl hgs;go_wp2_with fail
          go_region_held3 (fun w'=>w'.cell? ⟨wo.heap.size,3,none⟩=some (.string rows[k].e.name)/\w'.cell? ⟨gN,k,none⟩=some (.bool ng)/\w'.cell? ⟨bg,offg+m,none⟩=some (.string gs[m]))
            (first
              | go_keep
              | (go_split_ands
                 refine⟨?_,?_,?_⟩
                 · (rw[hgrow.cell_far _ (by simp;omega) (Ne.symm b1)];assumption)
                 · (rw[hgrow.cell_far _ (by simp;omega) (Ne.symm b2)];assumption)
                 · (rw[hgrow.cell_far _ (by simp;omega) (Ne.symm b3)];assumption)))
            ((refine step_append_lies _ (by rfl) _ _ _ (by rfl) w.heap.size 294 i0 _ 3 40 underlying290 hi hz0 hz1 hz2 rfl (by omega) u7 n xs (by rfl) ((hown.alloc _).drew)
                ⟨wr.heap.size,0,none⟩ 1 1 [.string gs[m],.string rows[k].e.name,.bool ng] (by rfl) (by rfl) (World.news_of_block (cs:=#[.string gs[m],.string rows[k].e.name,.bool ng]) (t:=294) (fr:=(0,0)) (heap_alloc_new wr _)) (by simp[Value.oneCell'])
                (by omega) (by unfold maxLen;omega) (by omega) (by simp;omega) (wr.heap.size+1) (by simp) ?_;intro gg cp w5 hown5 hgrow hat hlt5))
          have hb5:Hid (ag w w5):=((Ze.out.alloc Ze.out.size _).drew).grown hgrow (by simp;omega) (fun i hi=>(hown.lt i hi).1);have hAx:Aside wr u7 w5 (.slice (some ⟨gg,0,none⟩) (n+1) cp):=(Aside.below (((Vs _ _).alloc (Vr _) _).drew)).trans (Aside.app hgrow (by
            rcases hat with e|e
            · left;rw[e];rfl
            · right;rw[e];simp[Value.ownBlock]))
          have HA5:Hid (Aside w4 uo w5 (.slice (some ⟨gg,0,none⟩) (n+1) cp)):=HA6.out.trans hAx;have WV:Hid (w5.ownsRow w.heap.size 294 3 (.slice (some ⟨gg,0,none⟩) (n+1) cp) (D.length+(m+1)) (eD (D++(gs.take (m+1)).map fun g=>(⟨g,rows[k].e.name,ng⟩:Dp)))):=by
            show World.ownsRow _ _ _ _ _ _ _;rw[HFX.out,YP.out];exact hown5
          clear hown5 hgrow hat hAx hown;go_wp2;go_roundw;case rel=>exact⟨m+1,by omega,by go_num,WV,hb5,HA5⟩
          simp[intOf]<;>omega
        · obtain rfl:m=gs.length:=by omega
          have WV:Hid (wr.ownsRow w.heap.size 294 3 u7 (aM (af rs) typ (aj rows) (k+1)).length (eD (aM (af rs) typ (aj rows) (k+1)))):=by
            have:=XL.out;show World.ownsRow _ _ _ _ _ _ _;rw[VI]at this;rw[HXG.out,Vx,Wy];exact this
          have HA5:Hid (Aside w1 (.slice (some ⟨w.heap.size,0,none⟩) 0 0) wr u7):=HA4.out.trans HA6.out;clear XL;go_wp2;go_roundw;case rel=>exact⟨k+1,by omega,by go_num,WV,Ze,HA5⟩
          simp[intOf]<;>omega
      · have Zm:Hid (aM (af rs) typ (aj rows) (k+1)=D):=by show _=_;rw[HUP.out];simp[kX,h2,h3]
        have hb2:(rows[k].e.kind==2)=false:=by simpa using h2
        have hb3:(rows[k].e.kind==3)=false:=by simpa using h3
        have WV:Hid (wr.ownsRow w.heap.size 294 3 u7 (aM (af rs) typ (aj rows) (k+1)).length (eD (aM (af rs) typ (aj rows) (k+1)))):=by
          show World.ownsRow _ _ _ _ _ _ _;rw[Zm.out];exact hown
        clear hown;go_wp2;go_roundw;case rel=>exact⟨k+1,by omega,by go_num,WV,HB2,HAW⟩
        simp[intOf]<;>omega
  · obtain rfl:k=rows.length:=by omega
    have HFI:Hid (wr.ownsRow w.heap.size 294 3 u7 (pX (af rs) typ (aj rows)).length (eD (pX (af rs) typ (aj rows)))):=by
      have:=HOW.out;show World.ownsRow _ _ _ _ _ _ _;unfold pX;rw[aX];exact this
    clear HOW;go_wp2;go_ret;exact⟨⟨_,rfl,HFI.out⟩,HB.out⟩
end Go.Proofs.YtojjoblnpldniaaGreat
