/- Contract of the document's function on what a relation leans on: the walk. -/
import Derived.Test.YtojjoblnpldniaaGreatSq
import Derived.Test.YtojjoblnpldniaaGreatJ4
open Go.Proofs.Tryz
set_option maxHeartbeats 80000000
namespace Go.Proofs.YtojjoblnpldniaaGreat
open ChangeShapes WideShapes ChangeAt RowKit
open Pl
theorem own_below{w w':af}{base:Nat}{e:TypeId}{size:Nat}{v:Value}{n:Nat}{xs:Q03}(h:w.ownsRow base e size v n xs)(hB:ag w w'):w'.ownsRow base e size v n xs:=by
 have hg:w.grownBy w' none:=⟨hB.os,hB.tape,hB.output,hB.size,fun k hk _=>hB.block k hk⟩;cases ho:v.ownBlock with
 | none=>exact h.kept hg (.inl ho)
 | some g=>exact h.kept hg (.inr (by rw[ho];simp))
theorem qR{w w':af}{v v':Value}{g o:Nat}{u:Value}(h:Aside w v w' v')(hg:g<w.heap.size)(hv:v.ownBlock≠some g)(hc:w.cell? ⟨g,o,none⟩=some u):w'.cell? ⟨g,o,none⟩=some u:=(h.cell (p:=⟨g,o,none⟩) hg hv).trans hc
theorem Gm(es:Q09)(m:Nat)(out:List Bool):(ed es m out).length=out.length:=by
 induction m generalizing out with
 | zero=>rfl
 | succ m ih =>
  simp only[ed];rw[ih];split
  ·rfl
  exact yB _ _ _ _ _
theorem Gn(es:Q09):(dB es).length=es.length:=by unfold dB;rw[Gm];simp
theorem Gp(ts:Q0b)(typ:bi)(rows:Q08)(k:Nat)(h:k<rows.length)(ng:Bool)(hn:ng=(dB (ai rows)).getD k false):aO ts typ (ai rows) (k+1)=(aO ts typ (ai rows) k++cO ng rows[k].e.allow)++kH ts typ ng rows[k].e:=by
 have e:(ai rows)[k]?=some rows[k].e:=by simp[ai,h]
 show aO ts typ (ai rows) k++gG ts typ (ai rows) k=_;unfold gG;rw[e,hn,VY]
set_option maxRecDepth 100000 in
theorem Js(ad WW:Q02)(cap capE:Nat)(rs:Q06)(typ:bi)(rows:Q08)(w:af)(hlen:rs.length<=1048576)(hs:jK w ad rs)(hl:∀r∈rs,r.light)(hle:rows.length<=15)(hse:jo w WW rows)(hlE:∀q∈rows,q.e.light)(hkE:∀q∈rows,fo rows.length q.e.kids)
    (hsm:∀k,(aO (ae rs) typ (ai rows) k).length<=100000000) :
    Calls prog 218 #[.slice ad rs.length cap,.string typ,.slice WW rows.length capE] w fun e w'=>(∃v,e=.returned v/\w'.ownsRow w.heap.size 294 3 v (oH (ae rs) typ (ai rows)).length (eY (oH (ae rs) typ (ai rows))))/\ag w w':=by
  have HS:=az hs;have HL:=az hl;have HE:=az hse;have Yf:=az hlE;have HKE:=az hkE;have YL:Hid (∀k,(aO (ae rs) typ (ai rows) k).length<=100000000):=hsm;clear hs hl hse hlE hkE hsm;obtain⟨i0,hi,hz0,hz1,hz2⟩:=info_parts Pp;go_enter func218,ntmps218;go_wp2_with fail;have hbA:ag w (w.alloc (.cells #[] 294)):=(Vv _ _).alloc (Vu _) _;have hown1:(w.alloc (.cells #[] 294)).ownsRow w.heap.size 294 3 (.slice (some ⟨w.heap.size,0,none⟩) 0 0) 0 []:=World.ownsRow_made w #[] 0 (Vu _) (by decide) rfl;refine(Mx WW capE rows _ (by omega) (HE.out.below hbA) Yf.out HKE.out).mono ?_;rintro e w1 ⟨rfl,hF⟩;have Xf:Hid (w1.ownsRow w.heap.size 294 3 (.slice (some ⟨w.heap.size,0,none⟩) 0 0) 0 []):=own_below hown1 hF.below;have HB1:Hid (ag w w1):=hbA.trans (hF.below.mono (by simp));have hgN:(w.alloc (.cells #[] 294)).heap.size=w.heap.size+1:=by simp
  rw[hgN]at hF ⊢;have hgl:=hF.lt;have HNG:Hid (∀(j:Nat) (h:j<rows.length),w1.cell? ⟨w.heap.size+1,j,none⟩=some (.bool ((dB (ai rows)).getD j false))):=by
    intro j hj;have hn:j<(dB (ai rows)).length:=by rw[Gn,ay];exact hj
    have:=hF.done j (by simpa[bools] using hn);rw[this];simp[bools,hn]
  clear hF hown1 hbA hgN;obtain⟨gN,hgN⟩:=eQx (w.heap.size+1);rw[<-hgN]at hgl HNG ⊢;have hgne:w.heap.size<gN:=by omega
  clear hgN;go_wp2_with fail;go_loopw[7,9] (fun v i wr=>∃k:Nat,k<=rows.length/\i=.int .i64 k/\Hid (wr.ownsRow w.heap.size 294 3 v (aO (ae rs) typ (ai rows) k).length (eY (aO (ae rs) typ (ai rows) k)))/\Hid (ag w wr)/\Hid (Aside w1 (.slice (some ⟨w.heap.size,0,none⟩) 0 0) wr v)) (fun _ i _=>rows.length-(intOf i).toNat);case atStart=>exact⟨0,Vy _,rfl,Xf,HB1,Aside.refl _ _⟩
  obtain⟨k,hk,rfl,HOW,HB,HAS⟩:=hrel;by_cases hlt:k<rows.length
  · rcases HE.out.below HB.out with rfl|⟨b,off,rfl,hb,hr,hok⟩
    · simp at hlt
    obtain⟨t0,t1,t2,t3,t4⟩:=hr k hlt;have Xc:Hid (rows[k].ok w):=HE.out.mem (Vs hlt);have lg:=(Yf.out rows[k] (Vs hlt)).1;have hk1:=bI k;have hk2:(k:Int)<(rows.length:Int):=by omega
    have c0:wr.cell? ⟨gN,k,none⟩=some (.bool ((dB (ai rows)).getD k false)):=(HAS.out.cell (p:=⟨gN,k,none⟩) hgl (by simp[Value.ownBlock];omega)).trans (HNG.out k hlt);clear hr hok;obtain⟨ng,hng⟩:=eQx ((dB (ai rows)).getD k false);rw[<-hng]at c0;have HNK:Hid (ng=(dB (ai rows)).getD k false):=hng;clear hng;obtain⟨W1,hW1⟩:=eQx (wr.alloc (.cells #[.int .i64 rows[k].e.kind,.slice rows[k].adA rows[k].e.allow.length rows[k].capA,.string rows[k].e.over,.string rows[k].e.name,.slice rows[k].adK rows[k].e.kids.length rows[k].capK] 43));have hal:ag wr W1:=by rw[hW1];exact(Vv _ _).alloc (Vu _) _
    have Xd:=az hal;have WS:=iX HB hal;have YM:wr.heap.size<W1.heap.size:=by rw[hW1];simp
    have g0:W1.cell? ⟨wr.heap.size,0,none⟩=some (.int .i64 rows[k].e.kind):=by rw[hW1];simp
    have g1:W1.cell? ⟨wr.heap.size,1,none⟩=some (.slice rows[k].adA rows[k].e.allow.length rows[k].capA):=by rw[hW1];simp
    have g2:W1.cell? ⟨wr.heap.size,2,none⟩=some (.string rows[k].e.over):=by rw[hW1];simp
    have g3:W1.cell? ⟨wr.heap.size,3,none⟩=some (.string rows[k].e.name):=by rw[hW1];simp
    have hgr:gN<wr.heap.size:=Vt hgl HAS.out.size;have gn:=aC hal hgr c0;have Y5:Hid (W1.ownsRow w.heap.size 294 3 u7 (aO (ae rs) typ (ai rows) k).length (eY (aO (ae rs) typ (ai rows) k))):=own_below HOW.out hal;have HV1:Hid (u7.ownBlock≠some gN):=HAS.out.apart hgl (by simp[Value.ownBlock];omega);have HV2:Hid (u7.ownBlock≠some wr.heap.size):=fun e=>by have:=(HOW.out.lt _ e).2;omega
    clear hal c0;go_wp2_with fail;rw[<-hW1];clear hW1 t0 t1 t2 t3 t4;obtain⟨wo,hwo⟩:=eQx wr;subst hwo;go_loopw[7,11] (fun v i w2=>∃j:Nat,j<=rows[k].e.allow.length/\i=.int .i64 j/\Hid (w2.ownsRow w.heap.size 294 3 v ((aO (ae rs) typ (ai rows) k).length+(cO ng (rows[k].e.allow.take j)).length) (eY (aO (ae rs) typ (ai rows) k++cO ng (rows[k].e.allow.take j))))/\Hid (ag w w2)/\Hid (Aside W1 u7 w2 v)) (fun _ i _=>rows[k].e.allow.length-(intOf i).toNat);case atStart=>exact⟨0,Vy _,rfl,(by simpa[cO,Hid] using Y5),WS,Aside.refl _ _⟩
    obtain⟨j,hj,rfl,WY,HB2,HA2⟩:=hrel;have d0:=qR HA2.out YM HV2.out g0;have d1:=qR HA2.out YM HV2.out g1;have d2:=qR HA2.out YM HV2.out g2;have d3:=qR HA2.out YM HV2.out g3;have dn:=qR HA2.out (Nat.lt_trans hgr YM) HV1.out gn;clear g0 g1 g2 g3 gn;by_cases hjl:j<rows[k].e.allow.length
    · have hA3:=(Xc.out.1).below HB2.out;have hA4:=Xc.out.1;rcases hA4 with hnil|⟨ba,YI,YJ,hba,-⟩
      · rw[hnil]at hjl;simp at hjl
      rcases hA3 with hnil|⟨ba',offa',hadA',-,hra⟩
      · rw[hnil]at hjl;simp at hjl
      rw[YJ]at hadA' d1;injection hadA' with hadA';injection hadA' with e1 e2;subst e1;subst e2;obtain⟨q0,q1⟩:=hra j hjl;have hj1:=bI j;have hj2:(j:Int)<(rows[k].e.allow.length:Int):=by omega
      clear hra YJ;cases he:rows[k].e.allow[j].s.toList.isEmpty;case true=>
        have HE2:Hid (cO ng (rows[k].e.allow.take (j+1))=cO ng (rows[k].e.allow.take j)):=Po _ _ _ hjl he;go_wp2;go_roundw;case rel=>exact⟨j+1,by omega,by go_num,by rw[HE2.out];exact WY,HB2,HA2⟩
        simp[intOf]<;>omega
      have HE2:Hid (cO ng (rows[k].e.allow.take (j+1))=cO ng (rows[k].e.allow.take j)++[⟨rows[k].e.allow[j].t,rows[k].e.allow[j].s,ng⟩]):=MB _ _ _ hjl he;have a1:u7.ownBlock≠some wo.heap.size:=HA2.out.apart YM HV2.out;have a2:u7.ownBlock≠some gN:=HA2.out.apart (Nat.lt_trans hgr YM) HV1.out;have a3:u7.ownBlock≠some ba:=fun e=>by have:=(WY.out.lt _ e).1;omega
      have l1:wo.heap.size<wr.heap.size:=Vt YM HA2.out.size;have l2:gN<wr.heap.size:=Nat.lt_trans hgr l1;have l3:ba<wr.heap.size:=Vt hba HB2.out.size;have l4:w.heap.size<=wr.heap.size:=HB2.out.size;obtain⟨xs,hxs⟩:=eQx (eY (aO (ae rs) typ (ai rows) k++cO ng (rows[k].e.allow.take j)));obtain⟨n,hn⟩:=eQx ((aO (ae rs) typ (ai rows) k).length+(cO ng (rows[k].e.allow.take j)).length);have hnl:n<=101048576:=by
        have h1:=YL.out k;have h2:=Di ng (rows[k].e.allow.take j);rw[V9]at h2;omega
      have hown:=WY.out;rw[<-hxs,<-hn]at hown;have YC:Hid (eY (aO (ae rs) typ (ai rows) k++cO ng (rows[k].e.allow.take (j+1)))=xs++[.string rows[k].e.allow[j].t,.string rows[k].e.allow[j].s,.bool ng]):=by
        show _=_;rw[HE2.out,<-VY,uq,<-hxs];rfl
      have Ze:Hid ((aO (ae rs) typ (ai rows) k).length+(cO ng (rows[k].e.allow.take (j+1))).length=n+1):=by
        show _=_;rw[HE2.out,hn];simp;omega
      clear WY hxs hn;go_wp2_with fail
      go_region_held3 (fun w'=>w'.cell? ⟨wo.heap.size,1,none⟩=some (.slice (some ⟨ba,YI,none⟩) rows[k].e.allow.length rows[k].capA)/\w'.cell? ⟨ba,YI+j*2,none⟩=some (.string rows[k].e.allow[j].t) /\
          w'.cell? ⟨ba,YI+j*2+1,none⟩=some (.string rows[k].e.allow[j].s)/\w'.cell? ⟨gN,k,none⟩=some (.bool ng))
        (first
          | go_keep
          | (go_split_ands
             refine⟨?_,?_,?_,?_⟩
             · (rw[hgrow.cell_far _ (by simp;omega) (Ne.symm a1)];assumption)
             · (rw[hgrow.cell_far _ (by simp;omega) (Ne.symm a3)];assumption)
             · (rw[hgrow.cell_far _ (by simp;omega) (Ne.symm a3)];assumption)
             · (rw[hgrow.cell_far _ (by simp;omega) (Ne.symm a2)];assumption)))
        ((refine step_append_lies _ (by rfl) _ _ _ (by rfl) w.heap.size 294 i0 _ 3 40 underlying290 hi hz0 hz1 hz2 rfl (by omega) u7 n xs (by rfl) ((hown.alloc _).drew)
            ⟨wr.heap.size,0,none⟩ 1 1 [.string rows[k].e.allow[j].t,.string rows[k].e.allow[j].s,.bool ng] (by rfl) (by rfl) (World.news_of_block (cs:=#[.string rows[k].e.allow[j].t,.string rows[k].e.allow[j].s,.bool ng]) (t:=294) (fr:=(0,0)) (heap_alloc_new wr _)) (by simp[Value.oneCell'])
            (by omega) (by unfold maxLen;omega) (by omega) (by simp;omega) (wr.heap.size+1) (by simp) ?_;intro gg cp w5 hown5 hgrow hat hlt5))
      have hb5:Hid (ag w w5):=((HB2.out.alloc HB2.out.size _).drew).grown hgrow (by simp;omega) (fun i hi=>(hown.lt i hi).1);have hAx:Aside wr u7 w5 (.slice (some ⟨gg,0,none⟩) (n+1) cp):=(Aside.below (((Vv _ _).alloc (Vu _) _).drew)).trans (Aside.app hgrow (by
        rcases hat with e|e
        · left;rw[e];rfl
        · right;rw[e];simp[Value.ownBlock]))
      have HA5:=HA2.out.trans hAx;have HA5':Hid (Aside W1 _ w5 (.slice (some ⟨gg,0,none⟩) (n+1) cp)):=HA5;have Xa:Hid (w5.ownsRow w.heap.size 294 3 (.slice (some ⟨gg,0,none⟩) (n+1) cp) ((aO (ae rs) typ (ai rows) k).length+(cO ng (rows[k].e.allow.take (j+1))).length) (eY (aO (ae rs) typ (ai rows) k++cO ng (rows[k].e.allow.take (j+1))))):=by
        show World.ownsRow _ _ _ _ _ _ _;rw[YC.out,Ze.out];exact hown5
      clear hown5 hgrow hat hAx HA5 hown;go_wp2;go_roundw;case rel=>exact⟨j+1,by omega,by go_num,Xa,hb5,HA5'⟩
      simp[intOf]<;>omega
    · obtain rfl:j=rows[k].e.allow.length:=by omega
      have a1:u7.ownBlock≠some wo.heap.size:=HA2.out.apart YM HV2.out;have a2:u7.ownBlock≠some gN:=HA2.out.apart (Nat.lt_trans hgr YM) HV1.out;have l1:wo.heap.size<wr.heap.size:=Vt YM HA2.out.size;have l2:gN<wr.heap.size:=Nat.lt_trans hgr l1;have l4:w.heap.size<=wr.heap.size:=HB2.out.size;have HUS:=Gp (ae rs) typ rows k hlt ng HNK.out;obtain⟨D,hD⟩:=eQx (aO (ae rs) typ (ai rows) k++cO ng rows[k].e.allow);have hown:wr.ownsRow w.heap.size 294 3 u7 D.length (eY D):=by
        have:=WY.out;rw[VI,<-hD,<-VD,<-hD]at this;exact this
      rw[<-hD]at HUS;have hnl:D.length<=100000000:=by
        have h1:=YL.out (k+1);rw[HUS,VD]at h1;omega
      have HUP:Hid (aO (ae rs) typ (ai rows) (k+1)=D++kH (ae rs) typ ng rows[k].e):=HUS;have HAW:Hid (Aside w1 (.slice (some ⟨w.heap.size,0,none⟩) 0 0) wr u7):=(HAS.out.trans (Aside.below Xd.out)).trans HA2.out;clear WY HUS hD;by_cases h2:rows[k].e.kind=2
      · have YC:Hid (aO (ae rs) typ (ai rows) (k+1)=D++[⟨typ,rows[k].e.name,ng⟩]):=by show _=_;rw[HUP.out];simp[kH,h2]
        obtain⟨xs,hxs⟩:=eQx (eY D);obtain⟨n,hn⟩:=eQx D.length;rw[<-hxs,<-hn]at hown;rw[<-hn]at hnl;have HFX:Hid (eY (aO (ae rs) typ (ai rows) (k+1))=xs++[.string typ,.string rows[k].e.name,.bool ng]):=by
          show _=_;rw[YC.out,uq,<-hxs];rfl
        have Ze:Hid ((aO (ae rs) typ (ai rows) (k+1)).length=n+1):=by show _=_;rw[YC.out,hn];simp
        clear hxs hn;go_wp2_with fail
        go_region_held3 (fun w'=>w'.cell? ⟨wo.heap.size,3,none⟩=some (.string rows[k].e.name)/\w'.cell? ⟨gN,k,none⟩=some (.bool ng))
          (first
            | go_keep
            | (go_split_ands
               refine⟨?_,?_⟩
               · (rw[hgrow.cell_far _ (by simp;omega) (Ne.symm a1)];assumption)
               · (rw[hgrow.cell_far _ (by simp;omega) (Ne.symm a2)];assumption)))
          ((refine step_append_lies _ (by rfl) _ _ _ (by rfl) w.heap.size 294 i0 _ 3 40 underlying290 hi hz0 hz1 hz2 rfl (by omega) u7 n xs (by rfl) ((hown.alloc _).drew)
              ⟨wr.heap.size,0,none⟩ 1 1 [.string typ,.string rows[k].e.name,.bool ng] (by rfl) (by rfl) (World.news_of_block (cs:=#[.string typ,.string rows[k].e.name,.bool ng]) (t:=294) (fr:=(0,0)) (heap_alloc_new wr _)) (by simp[Value.oneCell'])
              (by omega) (by unfold maxLen;omega) (by omega) (by simp;omega) (wr.heap.size+1) (by simp) ?_;intro gg cp w5 hown5 hgrow hat hlt5))
        have hb5:Hid (ag w w5):=((HB2.out.alloc HB2.out.size _).drew).grown hgrow (by simp;omega) (fun i hi=>(hown.lt i hi).1);have hAx:Aside wr u7 w5 (.slice (some ⟨gg,0,none⟩) (n+1) cp):=(Aside.below (((Vv _ _).alloc (Vu _) _).drew)).trans (Aside.app hgrow (by
          rcases hat with e|e
          · left;rw[e];rfl
          · right;rw[e];simp[Value.ownBlock]))
        have f0:=qR hAx l1 a1 d0;have HA5:Hid (Aside w1 (.slice (some ⟨w.heap.size,0,none⟩) 0 0) w5 (.slice (some ⟨gg,0,none⟩) (n+1) cp)):=HAW.out.trans hAx;have Xa:Hid (w5.ownsRow w.heap.size 294 3 (.slice (some ⟨gg,0,none⟩) (n+1) cp) (aO (ae rs) typ (ai rows) (k+1)).length (eY (aO (ae rs) typ (ai rows) (k+1)))):=by
          show World.ownsRow _ _ _ _ _ _ _;rw[HFX.out,Ze.out];exact hown5
        clear hown5 hgrow hat hAx hown d0 d1 d2 d3 dn;go_wp2;go_roundw;case rel=>exact⟨k+1,by omega,by go_num,Xa,hb5,HA5⟩
        simp[intOf]<;>omega
      by_cases h3:rows[k].e.kind=3
      · go_wp2_with fail;refine(nI ad cap rs _ _ _ _ hlen (HS.out.below HB2.out) HL.out).mono ?_;rintro e w4 ⟨⟨YY,cap4,rfl,hs4,hn4⟩,hb4⟩;have HXG:Hid (aO (ae rs) typ (ai rows) (k+1)=D++(d9 (ae rs) typ rows[k].e.over rows[k].e.name).map fun g=>(⟨g,rows[k].e.name,ng⟩:Dp)):=by show _=_;rw[HUP.out];simp[kH,h3]
        generalize d9 (ae rs) typ rows[k].e.over rows[k].e.name=gs at *
        have hgs:D.length+gs.length<=100000000:=by
          have h1:=YL.out (k+1);rw[HXG.out,VD,Wp]at h1;exact h1
        have f3:=aC hb4 l1 d3;have fn:=aC hb4 l2 dn;have Xr:Hid (w4.ownsRow w.heap.size 294 3 u7 D.length (eY D)):=own_below hown hb4;have XJ:=iX HB2 hb4;have YD:Hid (Aside w1 (.slice (some ⟨w.heap.size,0,none⟩) 0 0) w4 u7):=HAW.out.trans (Aside.below hb4);have HSG:=az hs4;have HVG:Hid (∀p,YY=some p->u7.ownBlock≠some p.block):=fun p hp e=>by have h1:=(hown.lt _ e).2;have h2:=hn4 p hp;omega
        have m1:wo.heap.size<w4.heap.size:=Vt l1 hb4.size;have m2:gN<w4.heap.size:=Vt l2 hb4.size;have m4:w.heap.size<=w4.heap.size:=XJ.out.size;clear hown hb4 hs4 hn4 d0 d1 d2 d3 dn l1 l2 l4;obtain⟨uo,huo⟩:=eQx u7;subst huo;go_wp2_with fail;go_loopw[7,13] (fun v i w6=>∃m:Nat,m<=gs.length/\i=.int .i64 m/\Hid (w6.ownsRow w.heap.size 294 3 v (D.length+m) (eY (D++(gs.take m).map fun g=>(⟨g,rows[k].e.name,ng⟩:Dp))))/\Hid (ag w w6)/\Hid (Aside w4 uo w6 v)) (fun _ i _=>gs.length-(intOf i).toNat);case atStart=>exact⟨0,Vy _,rfl,(by simpa[Hid] using Xr),XJ,Aside.refl _ _⟩
        obtain⟨m,hm,rfl,Yy,ZR,HA6⟩:=hrel;have x3:=qR HA6.out m1 a1 f3;have xn:=qR HA6.out m2 a2 fn;by_cases Xh:m<gs.length
        · rcases HSG.out with rfl|⟨bg,offg,rfl,hbg,hrg⟩
          · simp at Xh
          have q0:=qR HA6.out hbg (HVG.out _ rfl) (hrg m Xh);have hm1:=bI m;have hm2:(m:Int)<(gs.length:Int):=by omega
          have b1:u7.ownBlock≠some wo.heap.size:=HA6.out.apart m1 a1;have b2:u7.ownBlock≠some gN:=HA6.out.apart m2 a2;have b3:u7.ownBlock≠some bg:=HA6.out.apart hbg (HVG.out _ rfl);have l1:wo.heap.size<wr.heap.size:=Vt m1 HA6.out.size;have l2:gN<wr.heap.size:=Vt m2 HA6.out.size;have l3:bg<wr.heap.size:=Vt hbg HA6.out.size;have l4:w.heap.size<=wr.heap.size:=ZR.out.size;obtain⟨xs,hxs⟩:=eQx (eY (D++(gs.take m).map fun g=>(⟨g,rows[k].e.name,ng⟩:Dp)));obtain⟨n,hn⟩:=eQx (D.length+m);have hown:=Yy.out;rw[<-hxs,<-hn]at hown;have HFX:Hid (eY (D++(gs.take (m+1)).map fun g=>(⟨g,rows[k].e.name,ng⟩:Dp))=xs++[.string gs[m],.string rows[k].e.name,.bool ng]):=by
            show _=_;rw[Vx Xh,Wl,<-VY,List.map_singleton,uq,<-hxs];rfl
          have Ze:Hid (D.length+(m+1)=n+1):=by show _=_;omega
          have hnl2:n<=100000000:=by omega
          have hgb:gs.length<=100000000:=by omega
          clear Yy hxs hn hrg hnl hgs;go_wp2_with fail
          go_region_held3 (fun w'=>w'.cell? ⟨wo.heap.size,3,none⟩=some (.string rows[k].e.name)/\w'.cell? ⟨gN,k,none⟩=some (.bool ng)/\w'.cell? ⟨bg,offg+m,none⟩=some (.string gs[m]))
            (first
              | go_keep
              | (go_split_ands
                 refine⟨?_,?_,?_⟩
                 · (rw[hgrow.cell_far _ (by simp;omega) (Ne.symm b1)];assumption)
                 · (rw[hgrow.cell_far _ (by simp;omega) (Ne.symm b2)];assumption)
                 · (rw[hgrow.cell_far _ (by simp;omega) (Ne.symm b3)];assumption)))
            ((refine step_append_lies _ (by rfl) _ _ _ (by rfl) w.heap.size 294 i0 _ 3 40 underlying290 hi hz0 hz1 hz2 rfl (by omega) u7 n xs (by rfl) ((hown.alloc _).drew)
                ⟨wr.heap.size,0,none⟩ 1 1 [.string gs[m],.string rows[k].e.name,.bool ng] (by rfl) (by rfl) (World.news_of_block (cs:=#[.string gs[m],.string rows[k].e.name,.bool ng]) (t:=294) (fr:=(0,0)) (heap_alloc_new wr _)) (by simp[Value.oneCell'])
                (by omega) (by unfold maxLen;omega) (by omega) (by simp;omega) (wr.heap.size+1) (by simp) ?_;intro gg cp w5 hown5 hgrow hat hlt5))
          have hb5:Hid (ag w w5):=((ZR.out.alloc ZR.out.size _).drew).grown hgrow (by simp;omega) (fun i hi=>(hown.lt i hi).1);have hAx:Aside wr u7 w5 (.slice (some ⟨gg,0,none⟩) (n+1) cp):=(Aside.below (((Vv _ _).alloc (Vu _) _).drew)).trans (Aside.app hgrow (by
            rcases hat with e|e
            · left;rw[e];rfl
            · right;rw[e];simp[Value.ownBlock]))
          have HA5:Hid (Aside w4 uo w5 (.slice (some ⟨gg,0,none⟩) (n+1) cp)):=HA6.out.trans hAx;have Xa:Hid (w5.ownsRow w.heap.size 294 3 (.slice (some ⟨gg,0,none⟩) (n+1) cp) (D.length+(m+1)) (eY (D++(gs.take (m+1)).map fun g=>(⟨g,rows[k].e.name,ng⟩:Dp)))):=by
            show World.ownsRow _ _ _ _ _ _ _;rw[HFX.out,Ze.out];exact hown5
          clear hown5 hgrow hat hAx hown;go_wp2;go_roundw;case rel=>exact⟨m+1,by omega,by go_num,Xa,hb5,HA5⟩
          simp[intOf]<;>omega
        · obtain rfl:m=gs.length:=by omega
          have Xa:Hid (wr.ownsRow w.heap.size 294 3 u7 (aO (ae rs) typ (ai rows) (k+1)).length (eY (aO (ae rs) typ (ai rows) (k+1)))):=by
            have:=Yy.out;show World.ownsRow _ _ _ _ _ _ _;rw[VI]at this;rw[HXG.out,VD,Wp];exact this
          have HA5:Hid (Aside w1 (.slice (some ⟨w.heap.size,0,none⟩) 0 0) wr u7):=YD.out.trans HA6.out;clear Yy;go_wp2;go_roundw;case rel=>exact⟨k+1,by omega,by go_num,Xa,ZR,HA5⟩
          simp[intOf]<;>omega
      · have YC:Hid (aO (ae rs) typ (ai rows) (k+1)=D):=by show _=_;rw[HUP.out];simp[kH,h2,h3]
        have hb2:(rows[k].e.kind==2)=false:=by simpa using h2
        have hb3:(rows[k].e.kind==3)=false:=by simpa using h3
        have Xa:Hid (wr.ownsRow w.heap.size 294 3 u7 (aO (ae rs) typ (ai rows) (k+1)).length (eY (aO (ae rs) typ (ai rows) (k+1)))):=by
          show World.ownsRow _ _ _ _ _ _ _;rw[YC.out];exact hown
        clear hown;go_wp2;go_roundw;case rel=>exact⟨k+1,by omega,by go_num,Xa,HB2,HAW⟩
        simp[intOf]<;>omega
  · obtain rfl:k=rows.length:=by omega
    have HFI:Hid (wr.ownsRow w.heap.size 294 3 u7 (oH (ae rs) typ (ai rows)).length (eY (oH (ae rs) typ (ai rows)))):=by
      have:=HOW.out;show World.ownsRow _ _ _ _ _ _ _;unfold oH;rw[ay];exact this
    clear HOW;go_wp2;go_ret;exact⟨⟨_,rfl,HFI.out⟩,HB.out⟩
def St.cells(s:St):List Value:=[.string s.typ,.string s.rel,.int .i64 s.n]
def iY:List St->List Value
 | []=>[]
 | s::xs=>s.cells++iY xs
theorem EK(xs ys:List St):iY (xs++ys)=iY xs++iY ys:=by
 induction xs with
 | nil=>rfl
 | cons d ds ih=>simp[iY,ih]
theorem Aa(xs:List St)(d:St):iY (xs++[d])=iY xs++d.cells:=by rw[EK];simp[iY]
theorem lZ(xs:List St)(i:Nat)(h:i<xs.length)(o:Nat)(ho:o<3):(iY xs)[i*3+o]?=(xs[i].cells)[o]?:=by
 induction xs generalizing i with
 | nil=>simp at h
 | cons s xs ih =>
  cases i with
  | zero =>
   simp only[iY,Nat.zero_mul,VW,List.getElem_cons_zero];rw[Wy (by simp[St.cells];omega)]
  | succ i =>
   simp only[iY,List.getElem_cons_succ];rw[Wx (by simp[St.cells];omega)];have e:(i+1)*3+o-s.cells.length=i*3+o:=by simp[St.cells];omega
   rw[e];exact ih i (by simpa using h)
theorem xz(xs:List Dp)(i:Nat)(h:i<xs.length)(o:Nat)(ho:o<3):(eY xs)[i*3+o]?=(xs[i].cells)[o]?:=by
 induction xs generalizing i with
 | nil=>simp at h
 | cons s xs ih =>
  cases i with
  | zero =>
   simp only[eY,Nat.zero_mul,VW,List.getElem_cons_zero];rw[Wy (by simp[Dp.cells];omega)]
  | succ i =>
   simp only[eY,List.getElem_cons_succ];rw[Wx (by simp[Dp.cells];omega)];have e:(i+1)*3+o-s.cells.length=i*3+o:=by simp[Dp.cells];omega
   rw[e];exact ih i (by simpa using h)
theorem Gq(g j:Nat):(⟨g,0,none⟩:Addr).add j=⟨g,j,none⟩:=by
 unfold Addr.add;by_cases hj:j=0
 ·subst hj;simp
 simp[hj]
theorem RH{w:af}{base:Nat}{t:TypeId}{v:Value}{n:Nat}{xs:Q03}(h:w.ownsRow base t 3 v n xs):∃ad cp,v=.slice ad n cp/\(n=0 \/ ∃g,ad=some ⟨g,0,none⟩/\base<=g/\g<w.heap.size/\∀(j:Nat) (u:Value),xs[j]?=some u->w.cell? ⟨g,j,none⟩=some u):=by
 have h2:=h;rcases h.2 with⟨rfl,h0⟩|⟨g,cp,cur,rfl,hbg,hg,hnc,-⟩
 ·exact⟨none,0,by rw[h0],.inl h0⟩
 have hlt:=h2.lt g rfl;refine⟨_,cp,rfl,.inr ⟨g,rfl,hlt.1,hlt.2,fun j u hu=>?_⟩⟩;have:=h2.cells (g:=g) rfl j u hu;rwa [Gq]at this
def AtD(w:World)(b off:Nat)(d:Dp):Prop:=w.cell? ⟨b,off,none⟩=some (.string d.typ)/\w.cell? ⟨b,off+1,none⟩=some (.string d.rel)/\w.cell? ⟨b,off+2,none⟩=some (.bool d.neg)
def Tq(w:World)(lo:Nat)(ad:Q02)(xs:List Dp):Prop:=xs=[] \/ ∃b,ad=some ⟨b,0,none⟩/\lo<=b/\b<w.heap.size/\∀(i:Nat) (h:i<xs.length),AtD w b (i*3) xs[i]
theorem UO{w:af}{base:Nat}{v:Value}{xs:List Dp}(h:w.ownsRow base 294 3 v xs.length (eY xs)):∃ad cp,v=.slice ad xs.length cp/\Tq w base ad xs:=by
 obtain⟨ad,cp,e,h0⟩:=RH h;refine⟨ad,cp,e,?_⟩;rcases h0 with h0|⟨g,e1,hb,hg,hc⟩
 ·exact .inl (VM.1 h0)
 refine .inr ⟨g,e1,hb,hg,fun i hi=>⟨?_,?_,?_⟩⟩
 ·exact hc _ _ (by have:=xz xs i hi 0 (by omega);simpa[Dp.cells] using this)
 ·exact hc _ _ (by have:=xz xs i hi 1 (by omega);simpa[Dp.cells] using this)
 exact hc _ _ (by have:=xz xs i hi 2 (by omega);simpa[Dp.cells] using this)
def Vk(w:World)(g:Nat)(xs:List St):Prop:=∀(i:Nat) (h:i<xs.length),UN w g (i*3) xs[i]
theorem UQ{w:af}{base:Nat}{v:Value}{xs:List St}(h:w.ownsRow base 212 3 v xs.length (iY xs)):∃ad cp,v=.slice ad xs.length cp/\(xs.length=0 \/ ∃g,ad=some ⟨g,0,none⟩/\base<=g/\g<w.heap.size/\Vk w g xs):=by
 obtain⟨ad,cp,e,h0⟩:=RH h;refine⟨ad,cp,e,?_⟩;rcases h0 with h0|⟨g,e1,hb,hg,hc⟩
 ·exact .inl h0
 refine .inr ⟨g,e1,hb,hg,fun i hi=>⟨?_,?_,?_⟩⟩
 ·exact hc _ _ (by have:=lZ xs i hi 0 (by omega);simpa[St.cells] using this)
 ·exact hc _ _ (by have:=lZ xs i hi 1 (by omega);simpa[St.cells] using this)
 exact hc _ _ (by have:=lZ xs i hi 2 (by omega);simpa[St.cells] using this)
theorem RI:(prog.info? 212).map (fun i=>(i.zero,i.size,i.bytes))=some (some (.agg #[.string ⟨#[]⟩,.string ⟨#[]⟩,.int .i64 0]),3,40):=by kernel_rfl
def Gr(ks:List (ByteArray×ByteArray)):List St:=ks.map fun k=>⟨k.1,k.2,0⟩
theorem EL(ks:List (ByteArray×ByteArray)):(Gr ks).length=ks.length:=by simp[Gr]
theorem Pv(ks:List (ByteArray×ByteArray))(k:Q01):Gr (ks++[k])=Gr ks++[⟨k.1,k.2,0⟩]:=by simp[Gr]
def dC(rs:Q06)(k:Nat):List (ByteArray×ByteArray):=au (ae (rs.take k))
def jg(t:TR)(j:Nat):List (ByteArray×ByteArray):=(t.rows.take j).map fun q=>(t.name,q.name)
theorem pM(rs:Q06)(k:Nat)(h:k<rs.length):dC rs (k+1)=dC rs k++jg rs[k] rs[k].rows.length:=by
 unfold dC jg;rw[Vx h,VI];unfold ae au;rw[Wl,WA,List.map_singleton,List.flatMap_singleton];congr 1;simp[jZ,TR.p,bQ,RR.p]
theorem uw(t:TR)(j:Nat)(h:j<t.rows.length):jg t (j+1)=jg t j++[(t.name,t.rows[j].name)]:=by
 unfold jg;rw[Vx h,Wl];rfl
theorem Dk(t:TR)(j:Nat):(jg t j).length<=t.rows.length:=by unfold jg;simp;omega
theorem xA(rs:Q06)(hr:∀r∈rs,r.rows.length<=6)(k:Nat):(dC rs k).length<=k*6:=by
 induction k with
 | zero=>simp[dC,ae,au]
 | succ k ih =>
  by_cases h:k<rs.length
  ·rw[pM _ _ h,VD];have h1:=Dk rs[k] rs[k].rows.length;have h2:=hr rs[k] (Vs h);omega
  have e:rs.take (k+1)=rs.take k:=by rw[VZ (by omega),VZ (by omega)]
  unfold dC at ih⊢;rw[e];omega
theorem Ab(d:Dp):0<=stepOf d/\stepOf d<=1:=by unfold stepOf;split<;>omega
structure Mid(ts:Q0b)(n:Nat)(oS:List St)(k j:Nat)(mb:Bool)(out:List St):Prop where
 len:out.length=n
 nn:n=(au ts).length
 round:Round ts out
 le:∀i (h:i<out.length),i≠k->out[i].n<=n
 lek:∀h:k<out.length,out[k].n<=n+1+j
 same:mb=false->out=oS/\(∀i (h:i<out.length),i<k->RG ts out out[i] (fZ ts out[i].key).length)/\∀h:k<out.length,RG ts out out[k] j
 grow:nA oS<=nA out/\(mb=true->nA oS<nA out)
theorem Mid.start{ts:Q0b}{n:Nat}{out:List St}(hl:out.length=n)(hn:n=(au ts).length)(hr:Round ts out)(hle:∀s∈out,s.n<=n):Mid ts n out 0 0 false out where
 len:=hl
 nn:=hn
 round:=hr
 le i h _:=hle _ (Vs h)
 lek h:=by have:=hle _ (Vs h);omega
 same _:=⟨rfl,fun i _ hi=>by omega,fun _ d hd=>by simp at hd⟩
 grow:=⟨Int.le_refl _,by simp⟩
theorem Mid.key{ts:Q0b}{n k j:Nat}{oS out:List St}{mb:Bool}(h:Mid ts n oS k j mb out)(hk:k<out.length)(hk2:k<(au ts).length):out[k].key=(au ts)[k]:=by
 have e:=h.round.keys;have:(mF out)[k]'(by simp[mF,hk])=(au ts)[k]:=by simp only[e]
 rw[<-this];simp[mF]
def pO(out:List St)(d:Dp):Int:=jf out (d.typ,d.rel)+stepOf d
theorem Mid.at{ts:Q0b}{n k j:Nat}{oS out:List St}{mb:Bool}(h:Mid ts n oS k j mb out)(key:Q01)(hk:key∈au ts):∃i:Nat,∃hi:i<out.length,il key.1 key.2 out 0=(i:Int)/\out[i].n=jf out key/\0<=jf out key/\jf out key<=n+1+j:=by
 obtain⟨i,hi,h1,h2,h3⟩:=pG out 0 (k:=key) (by rw[h.round.keys];exact hk);refine⟨i,hi,by rw[h1];congr 1;omega,h3,?_,?_⟩
 ·exact(h.round.at hk).1
 rw[<-h3];by_cases e:i=k
 ·subst e;exact h.lek hi
 have:=h.le i hi e;omega
theorem Mid.no{ts:Q0b}{n k j:Nat}{oS out:List St}{mb:Bool}(h:Mid ts n oS k j mb out)(hk:k<out.length)(d:Dp)(hd:(fZ ts out[k].key)[j]?=some d)(hw:pO out d<=out[k].n):Mid ts n oS k (j+1) mb out where
 len:=h.len
 nn:=h.nn
 round:=h.round
 le:=h.le
 lek hh:=by have:=h.lek hh;omega
 same hm:=by
  obtain⟨e,s1,s2⟩:=h.same hm;refine⟨e,s1,fun hh d' hd'=>?_⟩;obtain⟨hj,hd2⟩:=List.getElem?_eq_some_iff.1 hd;rw[Vx hj]at hd';rcases VJ.1 hd' with hd'|hd'
  ·exact s2 hh d' hd'
  rw[hd2]at hd';simp at hd';subst hd';exact hw
 grow:=h.grow
theorem Mid.yes{ts:Q0b}{n k j:Nat}{oS out:List St}{mb:Bool}(h:Mid ts n oS k j mb out)(hF:Found ts)(hk:k<out.length)(d:Dp)(hd:(fZ ts out[k].key)[j]?=some d)(hw:out[k].n<pO out d):Mid ts n oS k (j+1) true (out.set k ⟨out[k].typ,out[k].rel,pO out d⟩) where
 len:=by rw[List.length_set];exact h.len
 nn:=h.nn
 round:=h.round.set hF hk (WB hd)
 le i hi hne:=by
  rw[List.getElem_set_ne (Ne.symm hne)];exact h.le i (by simpa using hi) hne
 lek hh:=by
  rw[List.getElem_set_self];show pO out d<=_;obtain⟨i,hi,-,-,-,h4⟩:=h.at (d.typ,d.rel) (hF _ (h.round.mem (Vs hk)) d (WB hd));have:=Ab d;unfold pO;push_cast;omega
 same hm:=by cases hm
 grow:=by
  have:=h.grow.1;rw[Ps _ _ hk];exact⟨by omega,fun _=>by omega⟩
theorem Mid.next{ts:Q0b}{n k j:Nat}{oS out:List St}{mb:Bool}(h:Mid ts n oS k j mb out)(hk:k<out.length)(hj:j=(fZ ts out[k].key).length)(hle:out[k].n<=n):Mid ts n oS (k+1) 0 mb out where
 len:=h.len
 nn:=h.nn
 round:=h.round
 le i hi _:=by
  by_cases e:i=k
  ·subst e;exact hle
  exact h.le i hi e
 lek hh:=by have:=h.le (k+1) hh (by omega);omega
 same hm:=by
  obtain⟨e,s1,s2⟩:=h.same hm;refine⟨e,fun i hi hik=>?_,fun _ d hd=>by simp at hd⟩;by_cases e2:i=k
  ·subst e2;have:=s2 hi;rw[hj]at this;exact this
  exact s1 i hi (by omega)
 grow:=h.grow
theorem Mid.over{ts:Q0b}{n k j:Nat}{oS out:List St}{mb:Bool}(h:Mid ts n oS k j mb out)(hF:Found ts)(hk:k<out.length)(hn:(n:Int)<out[k].n):¬ ∃f,Sol ts f :=
 Jr hF (h.round.mem (Vs hk)) (h.round.low _ (Vs hk)) (by have:=h.nn;omega)
structure Pass(ts:Q0b)(n:Nat)(mb:Bool)(out:List St):Prop where
 len:out.length=n
 nn:n=(au ts).length
 round:Round ts out
 le:∀s∈out,s.n<=n
 sat:mb=false->∀s∈out,RG ts out s (fZ ts s.key).length
theorem Mid.done{ts:Q0b}{n k j:Nat}{oS out:List St}{mb:Bool}(h:Mid ts n oS k j mb out)(hk:k=n):Pass ts n mb out where
 len:=h.len
 nn:=h.nn
 round:=h.round
 le s hs:=by
  obtain⟨i,hi,rfl⟩:=Wj.1 hs;exact h.le i hi (by have:=h.len;omega)
 sat hm s hs:=by
  obtain⟨e,s1,s2⟩:=h.same hm;obtain⟨i,hi,rfl⟩:=Wj.1 hs;exact s1 i hi (by have:=h.len;omega)
theorem Pass.least{ts:Q0b}{n:Nat}{out:List St}(h:Pass ts n false out):Least ts (jf out):=h.round.done (h.sat rfl)
theorem Pass.zero{ts:Q0b}{n:Nat}(hn:n=(au ts).length):Pass ts n true (Gr (au ts)) where
 len:=by rw[EL,hn]
 nn:=hn
 round:=⟨by unfold mF Gr;rw[List.map_map];exact List.map_id _,fun s hs=>by simp[Gr]at hs;obtain⟨a,b,-,rfl⟩:=hs;exact Int.le_refl _,fun s hs=>by simp[Gr]at hs;obtain⟨a,b,-,rfl⟩:=hs;exact qQ.zero _ _⟩
 le s hs:=by simp[Gr]at hs;obtain⟨a,b,-,rfl⟩:=hs;simp
 sat h:=by cases h
theorem RJ(n:Int)(out:List St)(h:∀s∈out,s.n<=n):nA out<=n*out.length:=by
 induction out with
 | nil=>simp[nA]
 | cons s xs ih =>
  have h1:=h s (by simp);have h2:=ih fun q hq=>h q (by simp[hq]);simp only[nA,V8];have:n*((xs.length+1:Nat):Int)=n*xs.length+n:=by push_cast;rw[Int.mul_add];simp
  omega
structure RowS(w wr:World)(ad:Q02)(g:Nat)(out:List St):Prop where
 below:ag w wr
 at':out=[]\/(ad=some ⟨g,0,none⟩/\w.heap.size<=g/\g<wr.heap.size/\Vk wr g out/\∀j,wr.frozen? ⟨g,j,none⟩=false)
theorem UN.kept{w w':af}{b off:Nat}{s:St}(h:UN w b off s)(hb:b<w.heap.size)(hB:ag w w'):UN w' b off s:=⟨aC hB hb h.1,aC hB hb h.2.1,aC hB hb h.2.2⟩
theorem RowS.kept{w wr w2:af}{ad:Q02}{g:Nat}{out:List St}(h:RowS w wr ad g out)(hb:ag wr w2):RowS w w2 ad g out where
 below:=h.below.trans (hb.mono h.below.size)
 at':=by
  rcases h.at' with e|⟨e,h1,h2,h3,h4⟩
  ·exact .inl e
  exact .inr ⟨e,h1,Vt h2 hb.size,fun i hi=>(h3 i hi).kept h2 hb,fun j=>by rw[hb.frozen (p:=⟨g,j,none⟩) h2];exact h4 j⟩
theorem RowS.slN{w wr:af}{ad:Q02}{g:Nat}{out:List St}(h:RowS w wr ad g out):Tn wr ad out:=by
 rcases h.at' with e|⟨e,h1,h2,h3,h4⟩
 ·exact .inl e
 exact .inr ⟨g,0,e,h2,fun i hi=>by rw[VW];exact h3 i hi⟩
theorem RowS.set{w wr:af}{ad:Q02}{g:Nat}{out:List St}(h:RowS w wr ad g out){k:Nat}(hk:k<out.length)(n:Int):RowS w (wr.setCell ⟨g,k*3+2,none⟩ (.int .i64 n)) ad g (out.set k ⟨out[k].typ,out[k].rel,n⟩):=by
 rcases h.at' with e|⟨e,h1,h2,h3,h4⟩
 ·rw[e]at hk;simp at hk
 refine⟨h.below.setCell (p:=⟨g,k*3+2,none⟩) h1 _,.inr ⟨e,h1,by simpa using h2,fun i hi=>?_,fun j=>by simpa using h4 j⟩⟩;have hi':i<out.length:=by simpa using hi
 obtain⟨c0,c1,c2⟩:=h3 i hi';by_cases ei:i=k
 ·subst ei;rw[List.getElem_set_self];exact⟨by rw[gV (by omega)];exact c0,by rw[gV (by omega)];exact c1,mD c2⟩
 rw[List.getElem_set_ne (Ne.symm ei)];exact⟨by rw[gV (by omega)];exact c0,by rw[gV (by omega)];exact c1,by rw[gV (by omega)];exact c2⟩
def Pw(w:World)(g i:Nat):Int:=match w.cell? ⟨g,i*3+2,none⟩ with|some (.int _ x)=>x|_=>0
def Jt(w:World)(g:Nat):Nat->Int
 | 0=>0
 | n+1=>Jt w g n+Pw w g n
theorem Gs(xs ys:List St):nA (xs++ys)=nA xs+nA ys:=by
 induction xs with
 | nil=>simp[nA]
 | cons s xs ih=>simp only[Wq,nA,ih];omega
theorem Vk.sum{w:af}{g:Nat}{out:List St}(h:Vk w g out):∀k,k<=out.length->Jt w g k=nA (out.take k)
 | 0,_=>by simp[Jt,nA]
 | k+1,hk=>by
  have hlt:k<out.length:=by omega
  rw[Vx hlt,Gs];simp only[Jt,h.sum k (by omega),nA];have:Pw w g k=out[k].n:=by unfold Pw;rw[(h k hlt).2.2]
  omega
theorem RowS.sum{w wr:af}{ad:Q02}{g:Nat}{out:List St}(h:RowS w wr ad g out):Jt wr g out.length=nA out:=by
 rcases h.at' with e|⟨e,h1,h2,h3,h4⟩
 ·rw[e];simp[Jt,nA]
 rw[h3.sum _ (Vu _),VI]
def Px:Value->Int
 | .bool true=>1
 | _=>0
def Dl(w:World)(g n:Nat)(m:Value):Nat:=(2*((n:Int)*n-Jt w g n)+Px m).toNat
theorem Ju{ts:Q0b}{w wr w2:af}{ad:Q02}{g n:Nat}{oS out:List St}{mb:Bool}(hS:RowS w wr ad g oS)(hO:RowS w w2 ad g out)(h:Mid ts n oS n 0 mb out)(hl:oS.length=n):Dl w2 g n (.bool mb)<Dl wr g n (.bool true):=by
 have e1:=hS.sum;have e2:=hO.sum;have h3:=RJ n out fun s hs=>(h.done rfl).le s hs;have h2:=h.len;have h4:=h.grow;rw[hl]at e1;rw[h2]at e2 h3;unfold Dl;rw[e1,e2];cases mb;case false=>simp only[Px];omega
 have:=h4.2 rfl;simp only[Px];omega
theorem RL{w wr:af}{v:Value}{out:List St}(hB:ag w wr)(h:wr.ownsRow w.heap.size 212 3 v out.length (iY out)):∃ad cp g,v=.slice ad out.length cp/\RowS w wr ad g out:=by
 rcases h.2 with⟨rfl,h0⟩|⟨g,cp,cur,rfl,hbg,hg,hnc,-⟩
 ·exact⟨none,0,0,by rw[h0],hB,.inl (VM.1 h0)⟩
 obtain⟨ad,cp',e,h0⟩:=UQ h;injection e with e1 e2 e3;refine⟨some ⟨g,0,none⟩,cp,g,rfl,hB,?_⟩;rcases h0 with h0|⟨g',e4,h1,h2,h3⟩
 ·exact .inl (VM.1 h0)
 rw[<-e1]at e4;injection e4 with e4;injection e4 with e4;subst e4;exact .inr ⟨rfl,h1,h2,h3,fun j=>by simp[World.frozen?,hg]⟩
theorem Ua(ad:Q02)(cap n:Nat)(xs:List St)(key:Q01)(w:af)(hn:xs.length=n)(hlen:n<=1048576)(hs:Tn w ad xs)(i:Nat)(hat:il key.1 key.2 xs 0=(i:Int)):
  Calls prog 219 #[.slice ad n cap,.string key.1,.string key.2] w fun e w'=>e=.returned (.int .i64 (i:Int))/\w'=w:=by
 subst hn;rw[<-hat];exact Pn ad cap xs key.1 key.2 w hlen hs
theorem AtD.set{w:af}{b off g o:Nat}{d:Dp}{v:Value}(h:AtD w b off d)(hn:g≠b):AtD (w.setCell ⟨g,o,none⟩ v) b off d:=⟨by rw[yx hn];exact h.1,by rw[yx hn];exact h.2.1,by rw[yx hn];exact h.2.2⟩
theorem Tq.set{w:af}{lo g o:Nat}{ad:Q02}{xs:List Dp}{v:Value}(h:Tq w lo ad xs)(hg:g<lo):Tq (w.setCell ⟨g,o,none⟩ v) lo ad xs:=by
 rcases h with h|⟨b,e,h1,h2,h3⟩
 ·exact .inl h
 exact .inr ⟨b,e,h1,by simpa using h2,fun i hi=>(h3 i hi).set (by omega)⟩
theorem keepD{wr W w':af}{g o1 o2:Nat}{x y:Value}(h:W.cell? ⟨g,o1,none⟩=some x/\W.cell? ⟨g,o2,none⟩=some y/\g<W.heap.size/\ag wr W)(hb:ag W w'):
  w'.cell? ⟨g,o1,none⟩=some x/\w'.cell? ⟨g,o2,none⟩=some y/\g<w'.heap.size/\ag wr w' :=
 ⟨aC hb h.2.2.1 h.1,aC hb h.2.2.1 h.2.1,Vt h.2.2.1 hb.size,h.2.2.2.trans (hb.mono h.2.2.2.size)⟩
theorem qN.small{rs:Q06}{ad:Q02}{rows:Q08}(h:qN rs ad rows)(hl:∀r∈rs,∀q∈r.rows,q.rows.length<=15/\∀e∈q.rows,fo q.rows.length e.e.kids):rows.length<=15/\∀e∈rows,fo rows.length e.e.kids:=by
 rcases h with rfl|⟨t,ht,q,hq,rfl,-⟩
 ·exact⟨by simp,by simp⟩
 exact hl t ht q hq
theorem Ac(ts:Q0b)(ty over rel:bi):(d9 ts ty over rel).length<=(aN (ak ts ty over)).length:=zS _ _ _
theorem Jv(ts:Q0b)(typ:bi)(es:Q09)(A G:Nat)(hA:∀e∈es,e.allow.length<=A)(hG:∀over rel,(d9 ts typ over rel).length<=G)(k:Nat):(aO ts typ es k).length<=k*(A+G+1):=by
 induction k with
 | zero=>simp[aO]
 | succ k ih =>
  simp only[aO,VD];have:(gG ts typ es k).length<=A+G+1:=by
   unfold gG;split
   ·simp
   rename_i e he;have h1:=hA e (WB he);have h2:=Di ((dB es).getD k false) e.allow;have h3:(kH ts typ ((dB es).getD k false) e).length<=G+1:=by
    unfold kH;split
    ·simp
    split
    ·have:=hG e.over e.name;simp;omega
    simp
   rw[VD];omega
  have e:(k+1)*(A+G+1)=k*(A+G+1)+(A+G+1):=Nat.succ_mul _ _;omega
theorem Cs(ts:Q0b)(typ:bi)(es:Q09)(k:Nat)(h:es.length<=k):gG ts typ es k=[]:=by
 unfold gG;rw[List.getElem?_eq_none h]
theorem Jw(ts:Q0b)(typ:bi)(es:Q09)(B:Nat)(hB:∀k,k<=es.length->(aO ts typ es k).length<=B)(k:Nat):(aO ts typ es k).length<=B:=by
 induction k with
 | zero=>exact hB 0 (Vy _)
 | succ k ih =>
  by_cases h:k+1<=es.length
  ·exact hB _ h
  simp only[aO];rw[Cs _ _ _ _ (by omega),Wt];exact ih
theorem Gt(rs:Q07)(n:bi)(es:Q09)(h:iy (bQ rs) n=some es):∃q∈rs,es=ai q.rows:=by
 induction rs with
 | nil=>simp[bQ,iy]at h
 | cons r rs ih =>
  simp only[bQ,WC,iy]at h;split at h
  ·injection h with h;exact⟨r,by simp,h.symm⟩
  obtain⟨q,hq,e⟩:=ih h;exact⟨q,by simp[hq],e⟩
theorem Jy(ts:Q06)(ty n:bi)(es:Q09)(h:dZ (ae ts) ty n=some es):∃t∈ts,∃q∈t.rows,es=ai q.rows:=by
 induction ts with
 | nil=>simp[ae,dZ]at h
 | cons t ts ih =>
  simp only[ae,WC,dZ]at h;split at h
  ·rcases Option.or_eq_some_iff.1 h with h|⟨-,h⟩
   ·obtain⟨q,hq,e⟩:=Gt _ _ _ h;exact⟨t,by simp,q,hq,e⟩
   obtain⟨t',ht,q,hq,e⟩:=ih h;exact⟨t',by simp[ht],q,hq,e⟩
  obtain⟨t',ht,q,hq,e⟩:=ih h;exact⟨t',by simp[ht],q,hq,e⟩
theorem yG(rs:Q06)(hl:∀r∈rs,r.light)(typ over rel:bi):(d9 (ae rs) typ over rel).length<=1048576:=by
 refine Vz (Ac _ _ _ _) ?_;unfold ak;cases h:dZ (ae rs) typ over with
 | none=>simp[aN]
 | some es =>
  obtain⟨t,ht,q,hq,rfl⟩:=Jy _ _ _ _ h;exact pu q.rows ((hl t ht).2 q hq).2
theorem Ad(rs:Q06)(hl:∀r∈rs,r.light)(typ:bi)(rows:Q08)(hle:rows.length<=15)(hlE:∀q∈rows,q.e.light)(k:Nat):(aO (ae rs) typ (ai rows) k).length<=100000000:=by
 refine Jw _ _ _ _ (fun k hk=>?_) k;refine Vz (Jv _ _ _ 1048576 1048576 (fun e he=>?_) (yG rs hl typ) k) ?_
 ·obtain⟨q,hq,rfl⟩:=VE.1 he;exact(hlE q hq).1
 rw[ay]at hk;omega
set_option maxRecDepth 100000 in
theorem EM(ad:Q02)(cap:Nat)(rs:Q06)(w:af)(hlen:rs.length<=6)(hs:jK w ad rs)(hl:∀r∈rs,r.light)(hrl:∀r∈rs,r.rows.length<=6)(hel:∀r∈rs,∀q∈r.rows,q.rows.length<=15/\∀e∈q.rows,fo q.rows.length e.e.kids)(hF:Found (ae rs)):
    Calls prog 144 #[.slice ad rs.length cap] w fun e w'=>((∃Xe cap' out,e=.returned (.tuple #[.slice Xe out.length cap',.bool true])/\Tn w' Xe out/\mF out=au (ae rs)/\Least (ae rs) (jf out))\/(e=.returned (.tuple #[.slice none 0 0,.bool false])/\¬ ∃f,Sol (ae rs) f))/\ag w w':=by
  have HS:=az hs;have HL:=az hl;have Zo:Hid (∀r∈rs,r.rows.length<=6):=hrl;have Yt:Hid (∀r∈rs,∀q∈r.rows,q.rows.length<=15/\∀e∈q.rows,fo q.rows.length e.e.kids):=hel;have HF:=az hF;clear hs hl hrl hel hF;obtain⟨i0,hi,hz0,hz1,hz2⟩:=info_parts RI;go_enter func144,ntmps144;have hbA:Hid (ag w (w.alloc (.cells #[] 212))):=(Vv _ _).alloc (Vu _) _;have hown1:Hid ((w.alloc (.cells #[] 212)).ownsRow w.heap.size 212 3 (.slice (some ⟨w.heap.size,0,none⟩) 0 0) 0 []):=World.ownsRow_made w #[] 0 (Vu _) (by decide) rfl;go_wp2_with fail;go_loopw[4,5] (fun v i wr=>∃k:Nat,k<=rs.length/\i=.int .i64 k/\Hid (wr.ownsRow w.heap.size 212 3 v (dC rs k).length (iY (Gr (dC rs k))))/\Hid (ag w wr)) (fun _ i _=>rs.length-(intOf i).toNat);case atStart=>exact⟨0,Vy _,rfl,hown1,hbA⟩
  clear hown1 hbA;obtain⟨k,hk,rfl,HOW,HB⟩:=hrel;by_cases hlt:k<rs.length
  · have hk1:=bI k;have hk2:(k:Int)<(rs.length:Int):=by omega
    have HU:Hid ((dC rs k).length<=k*6):=xA rs Zo.out k;have X0:Hid (rs[k].rows.length<=6):=Zo.out _ (Vs hlt);obtain⟨wo,hwo⟩:=eQx wr;subst hwo;go_wp2_with fail;go_loopw[4,6] (fun v i w2=>∃j:Nat,j<=rs[k].rows.length/\i=.int .i64 j/\Hid (w2.ownsRow w.heap.size 212 3 v (dC rs k++jg rs[k] j).length (iY (Gr (dC rs k++jg rs[k] j))))/\Hid (ag w w2)) (fun _ i _=>rs[k].rows.length-(intOf i).toNat);case atStart=>exact⟨0,Vy _,rfl,(by simpa[jg] using HOW),HB⟩
    obtain⟨j,hj,rfl,WY,HB2⟩:=hrel;rcases HS.out.below HB2.out with rfl|⟨b,off,rfl,hb,hr,hok⟩
    · simp at hlt
    have hbw:b<w.heap.size:=by
      rcases HS.out with h|⟨b',off',e,hb',-⟩
      · rw[h]at hlt;simp at hlt
      · injection e with e;injection e with e1 e2;omega
    obtain⟨t0,t1⟩:=hr k hlt;have Xc:Hid (rs[k].ok _):=hok rs[k] (Vs hlt);have HOKW:Hid (rs[k].ok w):=HS.out.mem (Vs hlt);clear hr hok;by_cases hjl:j<rs[k].rows.length
    · rcases Xc.out with hnil|⟨b2,WV,had,hb2,hr2,-⟩
      · rw[hnil]at hjl;simp at hjl
      have hbw2:b2<w.heap.size:=by
        rcases HOKW.out with h|⟨b',off',e,hb',-⟩
        · rw[h]at hjl;simp at hjl
        · rw[had]at e;injection e with e;injection e with e1 e2;omega
      have t1':=t1;rw[had]at t1';obtain⟨q0,q1⟩:=hr2 j hjl;have hj1:=bI j;have hj2:(j:Int)<(rs[k].rows.length:Int):=by omega
      have a1:u4.ownBlock≠some b:=fun e=>by have:=(WY.out.lt _ e).1;omega
      have a2:u4.ownBlock≠some b2:=fun e=>by have:=(WY.out.lt _ e).1;omega
      have l4:w.heap.size<=wr.heap.size:=HB2.out.size;obtain⟨xs,hxs⟩:=eQx (iY (Gr (dC rs k++jg rs[k] j)));obtain⟨n,hn⟩:=eQx ((dC rs k++jg rs[k] j).length);have hown:=WY.out;rw[<-hxs,<-hn]at hown;have hnl:n<=1000:=by
        have h1:=HU.out;have h2:=Dk rs[k] j;have h3:=X0.out;rw[hn,VD];omega
      have HFX:Hid (iY (Gr (dC rs k++jg rs[k] (j+1)))=xs++[.string rs[k].name,.string rs[k].rows[j].name,.int .i64 0]):=by
        show _=_;rw[uw _ _ hjl,<-VY,Pv,Aa,<-hxs];rfl
      have Ze:Hid ((dC rs k++jg rs[k] (j+1)).length=n+1):=by show _=_;rw[uw _ _ hjl,<-VY,VD,<-hn];rfl
      clear hr2 had t1 hxs hn WY;go_wp2_with fail
      go_region_held3 (fun w'=>w'.cell? ⟨b,off+k*2,none⟩=some (.string rs[k].name)/\w'.cell? ⟨b,off+k*2+1,none⟩=some (.slice (some ⟨b2,WV,none⟩) rs[k].rows.length rs[k].cap)/\w'.cell? ⟨b2,WV+j*2,none⟩=some (.string rs[k].rows[j].name))
        (first
          | go_keep
          | (go_split_ands
             refine⟨?_,?_,?_⟩
             · (rw[hgrow.cell_far _ (by simp;omega) (Ne.symm a1)];assumption)
             · (rw[hgrow.cell_far _ (by simp;omega) (Ne.symm a1)];assumption)
             · (rw[hgrow.cell_far _ (by simp;omega) (Ne.symm a2)];assumption)))
        ((refine step_append_lies _ (by rfl) _ _ _ (by rfl) w.heap.size 212 i0 _ 3 40 underlying208 hi hz0 hz1 hz2 rfl (by omega) u4 n xs (by rfl) ((hown.alloc _).drew)
            ⟨wr.heap.size,0,none⟩ 1 1 [.string rs[k].name,.string rs[k].rows[j].name,.int .i64 0] (by rfl) (by rfl) (World.news_of_block (cs:=#[.string rs[k].name,.string rs[k].rows[j].name,.int .i64 0]) (t:=212) (fr:=(0,0)) (heap_alloc_new wr _)) (by simp[Value.oneCell'])
            (by omega) (by unfold maxLen;omega) (by omega) (by simp;omega) (wr.heap.size+1) (by simp) ?_;intro gg cp w5 hown5 hgrow hat hlt5))
      have hb5:Hid (ag w w5):=((HB2.out.alloc HB2.out.size _).drew).grown hgrow (by simp;omega) (fun i hi=>(hown.lt i hi).1);have Xa:Hid (w5.ownsRow w.heap.size 212 3 (.slice (some ⟨gg,0,none⟩) (n+1) cp) (dC rs k++jg rs[k] (j+1)).length (iY (Gr (dC rs k++jg rs[k] (j+1))))):=by
        show World.ownsRow _ _ _ _ _ _ _;rw[HFX.out,Ze.out];exact hown5
      have h6:=X0.out;clear hown5 hgrow hat hown;go_wp2;go_roundw;case rel=>exact⟨j+1,by omega,by go_num,Xa,hb5⟩
      simp[intOf]<;>omega
    · obtain rfl:j=rs[k].rows.length:=by omega
      have Xa:Hid (wr.ownsRow w.heap.size 212 3 u4 (dC rs (k+1)).length (iY (Gr (dC rs (k+1))))):=by
        show World.ownsRow _ _ _ _ _ _ _;rw[pM _ _ hlt];exact WY.out
      clear WY;go_wp2;go_roundw;case rel=>exact⟨k+1,by omega,by go_num,Xa,HB2⟩
      simp[intOf]<;>omega
  · obtain rfl:k=rs.length:=by omega
    have HE0:Hid (dC rs rs.length=au (ae rs)):=by show _=_;unfold dC;rw[VI]
    have HN36:Hid ((au (ae rs)).length<=36):=by
      have h1:=xA rs Zo.out rs.length;have h2:=HE0.out;show _<=_;rw[<-h2];omega
    obtain⟨n,hn⟩:=eQx ((au (ae rs)).length);have hown:=HOW.out;rw[HE0.out,<-EL]at hown;obtain⟨Yg,cpO,g,rfl,hrow⟩:=RL HB.out hown;have Zf:Hid (Pass (ae rs) n true (Gr (au (ae rs)))):=Pass.zero hn;have X7:=az hrow;have hn36:n<=36:=by rw[hn];exact HN36.out
    have Ze:Hid (n=(au (ae rs)).length):=hn;rw[EL,<-hn];clear hown HOW hrow hn HE0 HN36 HB;go_wp2_with fail;go_loopw[7] (fun m w1=>∃(mb:Bool) (out:List St),m=.bool mb/\Hid (Pass (ae rs) n mb out)/\Hid (RowS w w1 Yg g out)) (fun m w1=>Dl w1 g n m);case atStart=>exact⟨true,_,rfl,Zf,X7⟩
    clear Zf X7;obtain⟨mb,oS,rfl,YE,HRS⟩:=hrel;cases mb;case false=>
      go_wp2;exact bodyPost_ret (v:=.tuple #[.slice Yg n cpO,.bool true]) (by simp[results,Tryz.results144,go_sem]) rfl ⟨.inl ⟨Yg,cpO,oS,by rw[YE.out.len],HRS.out.slN,YE.out.round.keys,YE.out.least⟩,HRS.out.below⟩
    have Y4:Hid (oS.length=n):=YE.out.len;have Y6:Hid (Mid (ae rs) n oS 0 0 false oS):=Mid.start YE.out.len YE.out.nn YE.out.round YE.out.le;obtain⟨w0,hw0⟩:=eQx wr;subst hw0;go_wp2_with fail;go_loopw[7,8] (fun m i w1=>∃(mb:Bool) (k:Nat) (out:List St),m=.bool mb/\k<=n/\i=.int .i64 k/\Hid (Mid (ae rs) n oS k 0 mb out)/\Hid (RowS w w1 Yg g out)) (fun _ i _=>n-(intOf i).toNat);case atStart=>exact⟨false,0,oS,rfl,Vy _,rfl,Y6,HRS⟩
    clear Y6;obtain⟨mb,k,out,rfl,hk,rfl,HM,HR⟩:=hrel;by_cases hlt:k<n
    · have hko:k<out.length:=by rw[HM.out.len];exact hlt
      have hke:k<(au (ae rs)).length:=by rw[<-Ze.out];exact hlt
      have hk1:=bI k;have hk2:(k:Int)<(n:Int):=by omega
      rcases HR.out.at' with e|⟨rfl,hgw,hgl,hO,-⟩
      · rw[e]at hko;simp at hko
      obtain⟨c0,c1,c2⟩:=hO k hko;have HKE:Hid (out[k].key=(au (ae rs))[k]):=HM.out.key hko hke;have WS:∀w',ag wr w'->jK w' ad rs:=fun w' h=>HS.out.below (HR.out.below.trans (h.mono HR.out.below.size));have c3:wr.drew.cell? ⟨g,k*3,none⟩=some (.string out[k].typ)/\wr.drew.cell? ⟨g,k*3+1,none⟩=some (.string out[k].rel)/\g<wr.drew.heap.size/\ag wr wr.drew:=⟨c0,c1,hgl,(Vv _ _).drew⟩;clear hO c2;go_wp2_with fail
      go_region_held3 (fun w'=>w'.cell? ⟨g,k*3,none⟩=some (.string out[k].typ)/\w'.cell? ⟨g,k*3+1,none⟩=some (.string out[k].rel)/\g<w'.heap.size/\ag wr w')
        (first|exact c3|assumption|exact keepD (by assumption) hbx)
        (first|(go_at_call 101;refine(jy ad cap rs _ _ _ (by omega) (WS _ (by first|assumption|exact c3.2.2.2)) HL.out).mono ?_;rintro e w' ⟨⟨rows,WW,capE,rfl,hex,hse,hfs⟩,rfl⟩)|(go_at_call 218;refine(Js ad WW cap capE rs _ rows _ (by omega) (WS _ (by first|assumption|exact c3.2.2.2)) HL.out (hfs.small Yt.out).1 hse (hfs.light HL.out).2 (hfs.small Yt.out).2 (Ad rs HL.out _ rows (hfs.small Yt.out).1 (hfs.light HL.out).2)).mono ?_;rintro e w' ⟨⟨v,rfl,hown⟩,hbx⟩))
      rename_i hHeld;have Xg:Hid (ag wr w'):=hHeld.2.2.2;have XE:Hid (RowS w w' (some ⟨g,0,none⟩) g out):=HR.out.kept hHeld.2.2.2;have HDK:Hid (oH (ae rs) out[k].typ (ai rows)=fZ (ae rs) (au (ae rs))[k]):=by
        show _=_;rw[<-HKE.out,hex];rfl
      obtain⟨ds,hds⟩:=eQx (fZ (ae rs) (au (ae rs))[k]);rw[HDK.out,<-hds]at hown;obtain⟨adD,cpD,rfl,hD⟩:=UO hown;have HD5:=az hD;have hdl:ds.length<=100000000:=by
        have:=Ad rs HL.out out[k].typ rows (hfs.small Yt.out).1 (hfs.light HL.out).2 (ai rows).length;have e:=HDK.out;unfold oH at e;rw[e,<-hds]at this;exact this
      have HDS:Hid (ds=fZ (ae rs) (au (ae rs))[k]):=hds;have HKM:Hid ((au (ae rs))[k]∈au (ae rs)):=Vs hke;clear hHeld hown hD hds HDK c0 c1 c3 hex hse hfs hbx WS HKE;obtain⟨wq,hwq⟩:=eQx wr;subst hwq;go_wp2_with fail;go_loopw[7,10] (fun m i w2=>∃(mb:Bool) (j:Nat) (o2:List St),m=.bool mb/\j<=ds.length/\i=.int .i64 j/\Hid (Mid (ae rs) n oS k j mb o2)/\Hid (RowS w w2 (some ⟨g,0,none⟩) g o2)/\Hid (Tq w2 wq.heap.size adD ds)) (fun _ i _=>ds.length-(intOf i).toNat);case atStart=>exact⟨mb,0,out,rfl,Vy _,rfl,HM,XE,HD5⟩
      clear HM HR XE HD5 Xg;obtain⟨mc,j,o2,rfl,hj,rfl,Xl,HR2,HD2⟩:=hrel;have Yb:k<o2.length:=by rw[Xl.out.len];exact hlt
      rcases HR2.out.at' with e|⟨-,hgw2,hgl2,hO2,hfz2⟩
      · rw[e]at Yb;simp at Yb
      have f2:=hfz2 (k*3+2);obtain⟨z0,z1,z2⟩:=hO2 k Yb;by_cases hjl:j<ds.length
      · rcases HD2.out with e|⟨bd,rfl,hbd,hbl,hDc⟩
        · rw[e]at hjl;simp at hjl
        obtain⟨x0,x1,x2⟩:=hDc j hjl;have HKE2:Hid (o2[k].key=(au (ae rs))[k]):=Xl.out.key Yb hke;have HDJ:Hid ((fZ (ae rs) o2[k].key)[j]?=some ds[j]):=by
          show _=_;rw[HKE2.out,<-HDS.out];exact VG hjl
        have HDF:Hid ((ds[j].typ,ds[j].rel)∈au (ae rs)):=HF.out _ HKM.out ds[j] (by rw[<-HDS.out];exact Vs hjl);obtain⟨i,hi2,hat,hin,hpos,hub⟩:=Xl.out.at _ HDF.out;obtain⟨y0,y1,y2⟩:=hO2 i hi2;have hi3:i<n:=by rw[<-Xl.out.len];exact hi2
        have HW:Hid (pO o2 ds[j]=jf o2 (ds[j].typ,ds[j].rel)+stepOf ds[j]):=rfl;have HL2:Hid (o2.length=n):=Xl.out.len;have HSN:Hid (Tn wr (some ⟨g,0,none⟩) o2):=HR2.out.slN;rw[hin]at y2;obtain⟨x,hx⟩:=eQx (jf o2 (ds[j].typ,ds[j].rel));have HX:Hid (pO o2 ds[j]=x+stepOf ds[j]):=by rw[hx];exact HW
        rw[<-hx]at hpos hub y2;obtain⟨kn,hkn⟩:=eQx (o2[k].n);rw[<-hkn]at z2;have HKN:Hid (kn=o2[k].n):=hkn;have hkn1:0<=kn:=by rw[hkn];exact Xl.out.round.pos _ (Vs Yb)
        have hkn2:kn<=n+1+j:=by rw[hkn];exact Xl.out.lek Yb
        have hj1:=bI j;have hj2:(j:Int)<(ds.length:Int):=by omega
        have hi4:=bI i;have hi5:(i:Int)<(n:Int):=by omega
        have HAT:Hid (il ds[j].typ ds[j].rel o2 0=(i:Int)):=hat;have hx5:(2:Int)<5:=by omega
        clear hfz2 hO2 hDc hx hkn hin y0 y1 hi2 HW hat z0 z1;go_wp2_with fail
        go_region_held3 (fun w'=>w'.cell? ⟨bd,j*3,none⟩=some (.string ds[j].typ)/\w'.cell? ⟨bd,j*3+1,none⟩=some (.string ds[j].rel)/\w'.cell? ⟨g,i*3+2,none⟩=some (.int .i64 x))
          (first|assumption|exact⟨x0,x1,y2⟩)
          (first|(go_at_call 219;refine(Ua (some ⟨g,0,none⟩) cpO n o2 (ds[j].typ,ds[j].rel) _ HL2.out (by omega) (by first|exact HSN.out|assumption) i HAT.out).mono ?_;rintro e w' ⟨rfl,rfl⟩))
        rename_i hHeld2;have HR3:Hid (RowS w wr.drew (some ⟨g,0,none⟩) g o2):=HR2.out.kept ((Vv _ _).drew);have HD3:Hid (Tq wr.drew wq.heap.size (some ⟨bd,0,none⟩) ds):=HD2.out;clear hHeld2 x0 x1 y2;cases hneg:ds[j].neg
        case' true =>
          have ZG:Hid (pO o2 ds[j]=x+1):=by show _=_;rw[HX.out];simp[stepOf,hneg]
          rw[hneg]at x2;by_cases hgt:kn<x+1
          · have HM3:Hid (Mid (ae rs) n oS k (j+1) true (o2.set k ⟨o2[k].typ,o2[k].rel,x+1⟩)):=by
              have:=Xl.out.yes HF.out Yb ds[j] HDJ.out (by rw[ZG.out,<-HKN.out];exact hgt);rw[ZG.out]at this;exact this
            have HR4:Hid (RowS w (wr.drew.setCell ⟨g,k*3+2,none⟩ (.int .i64 (x+1))) (some ⟨g,0,none⟩) g (o2.set k ⟨o2[k].typ,o2[k].rel,x+1⟩)):=HR3.out.set Yb (x+1);have HD4:Hid (Tq (wr.drew.setCell ⟨g,k*3+2,none⟩ (.int .i64 (x+1))) wq.heap.size (some ⟨bd,0,none⟩) ds):=HD3.out.set hgl;clear Xl HR2 HR3 HD2 HD3;go_wp2;go_roundw;case rel=>exact⟨true,j+1,_,rfl,by omega,by go_num,HM3,HR4,HD4⟩
            simp[intOf]<;>omega
        case' false =>
          have ZG:Hid (pO o2 ds[j]=x):=by show _=_;rw[HX.out];simp[stepOf,hneg]
          rw[hneg]at x2;by_cases hgt:kn<x
          · have HM3:Hid (Mid (ae rs) n oS k (j+1) true (o2.set k ⟨o2[k].typ,o2[k].rel,x⟩)):=by
              have:=Xl.out.yes HF.out Yb ds[j] HDJ.out (by rw[ZG.out,<-HKN.out];exact hgt);rw[ZG.out]at this;exact this
            have HR4:Hid (RowS w (wr.drew.setCell ⟨g,k*3+2,none⟩ (.int .i64 (x))) (some ⟨g,0,none⟩) g (o2.set k ⟨o2[k].typ,o2[k].rel,x⟩)):=HR3.out.set Yb (x);have HD4:Hid (Tq (wr.drew.setCell ⟨g,k*3+2,none⟩ (.int .i64 (x))) wq.heap.size (some ⟨bd,0,none⟩) ds):=HD3.out.set hgl;clear Xl HR2 HR3 HD2 HD3;go_wp2;go_roundw;case rel=>exact⟨true,j+1,_,rfl,by omega,by go_num,HM3,HR4,HD4⟩
            simp[intOf]<;>omega
        all_goals
          · have HM3:Hid (Mid (ae rs) n oS k (j+1) mc o2):=Xl.out.no Yb ds[j] HDJ.out (by rw[ZG.out,<-HKN.out];omega);clear Xl HR2 HD2;go_wp2;go_roundw;case rel=>exact⟨mc,j+1,o2,rfl,by omega,by go_num,HM3,HR3,HD3⟩
            simp[intOf]<;>omega
      · obtain rfl:j=ds.length:=by omega
        have HKE2:Hid (o2[k].key=(au (ae rs))[k]):=Xl.out.key Yb hke;have HJ:Hid (ds.length=(fZ (ae rs) o2[k].key).length):=by show _=_;rw[HKE2.out,<-HDS.out]
        clear z0 z1 hO2 hfz2 f2;by_cases hov:(n:Int)<o2[k].n
        · have Yp:Hid (¬ ∃f,Sol (ae rs) f):=Xl.out.over HF.out Yb hov;have hkn2:o2[k].n<=n+1+ds.length:=Xl.out.lek Yb;go_wp2;exact bodyPost_ret (v:=.tuple #[.slice none 0 0,.bool false]) (by simp[results,Tryz.results144,go_sem]) rfl ⟨.inr ⟨rfl,Yp.out⟩,HR2.out.below⟩
        · have HM3:Hid (Mid (ae rs) n oS (k+1) 0 mc o2):=Xl.out.next Yb HJ.out (by omega);clear Xl;go_wp2;go_roundw;case rel=>exact⟨mc,k+1,o2,rfl,by omega,by go_num,HM3,HR2⟩
          simp[intOf]<;>omega
    · obtain rfl:k=n:=by omega
      have WQ:Hid (Pass (ae rs) k mb out):=HM.out.done rfl;have HLS:Hid (Dl wr g k (.bool mb)<Dl w0 g k (.bool true)):=Ju HRS.out HR.out HM.out Y4.out;go_wp2;go_roundw;case rel=>exact⟨mb,out,rfl,WQ,HR⟩
      exact HLS.out
end Go.Proofs.YtojjoblnpldniaaGreat
