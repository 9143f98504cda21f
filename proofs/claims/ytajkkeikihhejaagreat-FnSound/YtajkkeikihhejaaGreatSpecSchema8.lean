/- Contract of the document's function on what a relation leans on: the walk. -/
import Derived.Test.YtajkkeikihhejaaGreatSq
import Derived.Test.YtajkkeikihhejaaGreatJ2
open Go.Proofs.Tryz
set_option maxHeartbeats 80000000
namespace Go.Proofs.YtajkkeikihhejaaGreat
open ChangeShapes WideShapes ChangeAt RowKit
open Pl
theorem own_below{w w':af}{base:Nat}{e:TypeId}{size:Nat}{v:Value}{n:Nat}{xs:Q03}(h:w.ownsRow base e size v n xs)(hB:ae w w'):w'.ownsRow base e size v n xs:=by
 have hg:w.grownBy w' none:=⟨hB.os,hB.tape,hB.output,hB.size,fun k hk _=>hB.block k hk⟩;cases ho:v.ownBlock with
 | none=>exact h.kept hg (.inl ho)
 | some g=>exact h.kept hg (.inr (by rw[ho];simp))
theorem qG{w w':af}{v v':Value}{g o:Nat}{u:Value}(h:Aside w v w' v')(hg:g<w.heap.size)(hv:v.ownBlock≠some g)(hc:w.cell? ⟨g,o,none⟩=some u):w'.cell? ⟨g,o,none⟩=some u:=(h.cell (p:=⟨g,o,none⟩) hg hv).trans hc
theorem Gm(es:Q09)(m:Nat)(out:List Bool):(dW es m out).length=out.length:=by
 induction m generalizing out with
 | zero=>rfl
 | succ m ih =>
  simp only[dW];rw[ih];split
  ·rfl
  exact yo _ _ _ _ _
theorem Gn(es:Q09):(dC es).length=es.length:=by unfold dC;rw[Gm];simp
theorem Gp(ts:Q0b)(typ:bW)(rows:Q08)(k:Nat)(h:k<rows.length)(ng:Bool)(hn:ng=(dC (ak rows)).getD k false):aS ts typ (ak rows) (k+1)=(aS ts typ (ak rows) k++dw ng rows[k].e.allow)++lw ts typ ng rows[k].e:=by
 have e:(ak rows)[k]?=some rows[k].e:=by simp[ak,h]
 show aS ts typ (ak rows) k++iD ts typ (ak rows) k=_;unfold iD;rw[e,hn,VD]
set_option maxRecDepth 100000 in
theorem I9(ad Ws:Q02)(cap capE:Nat)(rs:Q06)(typ:bW)(rows:Q08)(w:af)(hlen:rs.length<=1048576)(hs:j5 w ad rs)(hl:∀r∈rs,r.light)(hle:rows.length<=15)(hse:ik w Ws rows)(hlE:∀q∈rows,q.e.light)(hkE:∀q∈rows,eZ rows.length q.e.kids)
    (hsm:∀k,(aS (ag rs) typ (ak rows) k).length<=100000000) :
    Calls prog 139 #[.slice ad rs.length cap,.string typ,.slice Ws rows.length capE] w fun e w'=>(∃v,e=.returned v/\w'.ownsRow w.heap.size 220 3 v (qh (ag rs) typ (ak rows)).length (eF (qh (ag rs) typ (ak rows))))/\ae w w':=by
  have HS:=aD hs;have HL:=aD hl;have HE:=aD hse;have Xl:=aD hlE;have HKE:=aD hkE;have HSM:Hid (∀k,(aS (ag rs) typ (ak rows) k).length<=100000000):=hsm;clear hs hl hse hlE hkE hsm;obtain⟨i0,hi,hz0,hz1,hz2⟩:=info_parts Ol;go_enter func139,ntmps139;go_wp2_with fail;have hbA:ae w (w.alloc (.cells #[] 220)):=(Vb _ _).alloc (Va _) _;have hown1:(w.alloc (.cells #[] 220)).ownsRow w.heap.size 220 3 (.slice (some ⟨w.heap.size,0,none⟩) 0 0) 0 []:=World.ownsRow_made w #[] 0 (Va _) (by decide) rfl;refine(LQ Ws capE rows _ (by omega) (HE.out.below hbA) Xl.out HKE.out).mono ?_;rintro e w1 ⟨rfl,hF⟩;have WK:Hid (w1.ownsRow w.heap.size 220 3 (.slice (some ⟨w.heap.size,0,none⟩) 0 0) 0 []):=own_below hown1 hF.below;have HB1:Hid (ae w w1):=hbA.trans (hF.below.mono (by simp));have hgN:(w.alloc (.cells #[] 220)).heap.size=w.heap.size+1:=by simp
  rw[hgN]at hF ⊢;have hgl:=hF.lt;have HNG:Hid (∀(j:Nat) (h:j<rows.length),w1.cell? ⟨w.heap.size+1,j,none⟩=some (.bool ((dC (ak rows)).getD j false))):=by
    intro j hj;have hn:j<(dC (ak rows)).length:=by rw[Gn,aR];exact hj
    have:=hF.done j (by simpa[bools] using hn);rw[this];simp[bools,hn]
  clear hF hown1 hbA hgN;obtain⟨gN,hgN⟩:∃gN,gN=w.heap.size+1:=⟨_,rfl⟩;rw[<-hgN]at hgl HNG ⊢;have hgne:w.heap.size<gN:=by omega
  clear hgN;go_wp2_with fail;go_loopw[7,9] (fun v i wr=>∃k:Nat,k<=rows.length/\i=.int .i64 k/\Hid (wr.ownsRow w.heap.size 220 3 v (aS (ag rs) typ (ak rows) k).length (eF (aS (ag rs) typ (ak rows) k)))/\Hid (ae w wr)/\Hid (Aside w1 (.slice (some ⟨w.heap.size,0,none⟩) 0 0) wr v)) (fun _ i _=>rows.length-(intOf i).toNat);case atStart=>exact⟨0,Vf _,rfl,WK,HB1,Aside.refl _ _⟩
  obtain⟨k,hk,rfl,HOW,HB,HAS⟩:=hrel;by_cases hlt:k<rows.length
  · rcases HE.out.below HB.out with rfl|⟨b,off,rfl,hb,hr,hok⟩
    · simp at hlt
    obtain⟨t0,t1,t2,t3,t4⟩:=hr k hlt;have X0:Hid (rows[k].ok w):=HE.out.mem (U8 hlt);have lg:=(Xl.out rows[k] (U8 hlt)).1;have hk1:=bC k;have hk2:(k:Int)<(rows.length:Int):=by omega
    have c0:wr.cell? ⟨gN,k,none⟩=some (.bool ((dC (ak rows)).getD k false)):=(HAS.out.cell (p:=⟨gN,k,none⟩) hgl (by simp[Value.ownBlock];omega)).trans (HNG.out k hlt);clear hr hok;obtain⟨ng,hng⟩:∃ng,ng=(dC (ak rows)).getD k false:=⟨_,rfl⟩;rw[<-hng]at c0;have HNK:Hid (ng=(dC (ak rows)).getD k false):=hng;clear hng;obtain⟨W1,hW1⟩:∃W1,W1=wr.alloc (.cells #[.int .i64 rows[k].e.kind,.slice rows[k].adA rows[k].e.allow.length rows[k].capA,.string rows[k].e.over,.string rows[k].e.name,.slice rows[k].adK rows[k].e.kids.length rows[k].capK] 39):=⟨_,rfl⟩;have hal:ae wr W1:=by rw[hW1];exact(Vb _ _).alloc (Va _) _
    have WM:=aD hal;have Wx:=jF HB hal;have YD:wr.heap.size<W1.heap.size:=by rw[hW1];simp
    have g0:W1.cell? ⟨wr.heap.size,0,none⟩=some (.int .i64 rows[k].e.kind):=by rw[hW1];simp
    have g1:W1.cell? ⟨wr.heap.size,1,none⟩=some (.slice rows[k].adA rows[k].e.allow.length rows[k].capA):=by rw[hW1];simp
    have g2:W1.cell? ⟨wr.heap.size,2,none⟩=some (.string rows[k].e.over):=by rw[hW1];simp
    have g3:W1.cell? ⟨wr.heap.size,3,none⟩=some (.string rows[k].e.name):=by rw[hW1];simp
    have hgr:gN<wr.heap.size:=U9 hgl HAS.out.size;have gn:=aJ hal hgr c0;have YT:Hid (W1.ownsRow w.heap.size 220 3 u7 (aS (ag rs) typ (ak rows) k).length (eF (aS (ag rs) typ (ak rows) k))):=own_below HOW.out hal;have HV1:Hid (u7.ownBlock≠some gN):=HAS.out.apart hgl (by simp[Value.ownBlock];omega);have HV2:Hid (u7.ownBlock≠some wr.heap.size):=fun e=>by have:=(HOW.out.lt _ e).2;omega
    clear hal c0;go_wp2_with fail;rw[<-hW1];clear hW1 t0 t1 t2 t3 t4;obtain⟨wo,hwo⟩:∃wo,wo=wr:=⟨_,rfl⟩;subst hwo;go_loopw[7,11] (fun v i w2=>∃j:Nat,j<=rows[k].e.allow.length/\i=.int .i64 j/\Hid (w2.ownsRow w.heap.size 220 3 v ((aS (ag rs) typ (ak rows) k).length+(dw ng (rows[k].e.allow.take j)).length) (eF (aS (ag rs) typ (ak rows) k++dw ng (rows[k].e.allow.take j))))/\Hid (ae w w2)/\Hid (Aside W1 u7 w2 v)) (fun _ i _=>rows[k].e.allow.length-(intOf i).toNat);case atStart=>exact⟨0,Vf _,rfl,(by simpa[dw,Hid] using YT),Wx,Aside.refl _ _⟩
    obtain⟨j,hj,rfl,Wu,HB2,HA2⟩:=hrel;have d0:=qG HA2.out YD HV2.out g0;have d1:=qG HA2.out YD HV2.out g1;have d2:=qG HA2.out YD HV2.out g2;have d3:=qG HA2.out YD HV2.out g3;have dn:=qG HA2.out (Nat.lt_trans hgr YD) HV1.out gn;clear g0 g1 g2 g3 gn;by_cases hjl:j<rows[k].e.allow.length
    · have hA3:=(X0.out.1).below HB2.out;have hA4:=X0.out.1;rcases hA4 with hnil|⟨ba,Yz,YA,hba,-⟩
      · rw[hnil]at hjl;simp at hjl
      rcases hA3 with hnil|⟨ba',offa',hadA',-,hra⟩
      · rw[hnil]at hjl;simp at hjl
      rw[YA]at hadA' d1;injection hadA' with hadA';injection hadA' with e1 e2;subst e1;subst e2;obtain⟨q0,q1⟩:=hra j hjl;have hj1:=bC j;have hj2:(j:Int)<(rows[k].e.allow.length:Int):=by omega
      clear hra YA;cases he:rows[k].e.allow[j].s.toList.isEmpty;case true=>
        have HE2:Hid (dw ng (rows[k].e.allow.take (j+1))=dw ng (rows[k].e.allow.take j)):=Oj _ _ _ hjl he;go_wp2;go_roundw;case rel=>exact⟨j+1,by omega,by go_num,by rw[HE2.out];exact Wu,HB2,HA2⟩
        simp[intOf]<;>omega
      have HE2:Hid (dw ng (rows[k].e.allow.take (j+1))=dw ng (rows[k].e.allow.take j)++[⟨rows[k].e.allow[j].t,rows[k].e.allow[j].s,ng⟩]):=LU _ _ _ hjl he;have a1:u7.ownBlock≠some wo.heap.size:=HA2.out.apart YD HV2.out;have a2:u7.ownBlock≠some gN:=HA2.out.apart (Nat.lt_trans hgr YD) HV1.out;have a3:u7.ownBlock≠some ba:=fun e=>by have:=(Wu.out.lt _ e).1;omega
      have l1:wo.heap.size<wr.heap.size:=U9 YD HA2.out.size;have l2:gN<wr.heap.size:=Nat.lt_trans hgr l1;have l3:ba<wr.heap.size:=U9 hba HB2.out.size;have l4:w.heap.size<=wr.heap.size:=HB2.out.size;obtain⟨xs,hxs⟩:∃xs,xs=eF (aS (ag rs) typ (ak rows) k++dw ng (rows[k].e.allow.take j)):=⟨_,rfl⟩;obtain⟨n,hn⟩:∃n,n=(aS (ag rs) typ (ak rows) k).length+(dw ng (rows[k].e.allow.take j)).length:=⟨_,rfl⟩;have hnl:n<=101048576:=by
        have h1:=HSM.out k;have h2:=Da ng (rows[k].e.allow.take j);rw[Vz]at h2;omega
      have hown:=Wu.out;rw[<-hxs,<-hn]at hown;have Zz:Hid (eF (aS (ag rs) typ (ak rows) k++dw ng (rows[k].e.allow.take (j+1)))=xs++[.string rows[k].e.allow[j].t,.string rows[k].e.allow[j].s,.bool ng]):=by
        show _=_;rw[HE2.out,<-VD,tZ,<-hxs];rfl
      have XR:Hid ((aS (ag rs) typ (ak rows) k).length+(dw ng (rows[k].e.allow.take (j+1))).length=n+1):=by
        show _=_;rw[HE2.out,hn];simp;omega
      clear Wu hxs hn;go_wp2_with fail
      go_region_held3 (fun w'=>w'.cell? ⟨wo.heap.size,1,none⟩=some (.slice (some ⟨ba,Yz,none⟩) rows[k].e.allow.length rows[k].capA)/\w'.cell? ⟨ba,Yz+j*2,none⟩=some (.string rows[k].e.allow[j].t) /\
          w'.cell? ⟨ba,Yz+j*2+1,none⟩=some (.string rows[k].e.allow[j].s)/\w'.cell? ⟨gN,k,none⟩=some (.bool ng))
        (first
          | go_keep
          | (go_split_ands
             refine⟨?_,?_,?_,?_⟩
             · (rw[hgrow.cell_far _ (by simp;omega) (Ne.symm a1)];assumption)
             · (rw[hgrow.cell_far _ (by simp;omega) (Ne.symm a3)];assumption)
             · (rw[hgrow.cell_far _ (by simp;omega) (Ne.symm a3)];assumption)
             · (rw[hgrow.cell_far _ (by simp;omega) (Ne.symm a2)];assumption)))
        ((refine step_append_lies _ (by rfl) _ _ _ (by rfl) w.heap.size 220 i0 _ 3 40 underlying216 hi hz0 hz1 hz2 rfl (by omega) u7 n xs (by rfl) ((hown.alloc _).drew)
            ⟨wr.heap.size,0,none⟩ 1 1 [.string rows[k].e.allow[j].t,.string rows[k].e.allow[j].s,.bool ng] (by rfl) (by rfl) (World.news_of_block (cs:=#[.string rows[k].e.allow[j].t,.string rows[k].e.allow[j].s,.bool ng]) (t:=220) (fr:=(0,0)) (heap_alloc_new wr _)) (by simp[Value.oneCell'])
            (by omega) (by unfold maxLen;omega) (by omega) (by simp;omega) (wr.heap.size+1) (by simp) ?_;intro gg cp w5 hown5 hgrow hat hlt5))
      have hb5:Hid (ae w w5):=((HB2.out.alloc HB2.out.size _).drew).grown hgrow (by simp;omega) (fun i hi=>(hown.lt i hi).1);have hAx:Aside wr u7 w5 (.slice (some ⟨gg,0,none⟩) (n+1) cp):=(Aside.below (((Vb _ _).alloc (Va _) _).drew)).trans (Aside.app hgrow (by
        rcases hat with e|e
        · left;rw[e];rfl
        · right;rw[e];simp[Value.ownBlock]))
      have HA5:=HA2.out.trans hAx;have HA5':Hid (Aside W1 _ w5 (.slice (some ⟨gg,0,none⟩) (n+1) cp)):=HA5;have WF:Hid (w5.ownsRow w.heap.size 220 3 (.slice (some ⟨gg,0,none⟩) (n+1) cp) ((aS (ag rs) typ (ak rows) k).length+(dw ng (rows[k].e.allow.take (j+1))).length) (eF (aS (ag rs) typ (ak rows) k++dw ng (rows[k].e.allow.take (j+1))))):=by
        show World.ownsRow _ _ _ _ _ _ _;rw[Zz.out,XR.out];exact hown5
      clear hown5 hgrow hat hAx HA5 hown;go_wp2;go_roundw;case rel=>exact⟨j+1,by omega,by go_num,WF,hb5,HA5'⟩
      simp[intOf]<;>omega
    · obtain rfl:j=rows[k].e.allow.length:=by omega
      have a1:u7.ownBlock≠some wo.heap.size:=HA2.out.apart YD HV2.out;have a2:u7.ownBlock≠some gN:=HA2.out.apart (Nat.lt_trans hgr YD) HV1.out;have l1:wo.heap.size<wr.heap.size:=U9 YD HA2.out.size;have l2:gN<wr.heap.size:=Nat.lt_trans hgr l1;have l4:w.heap.size<=wr.heap.size:=HB2.out.size;have HUS:=Gp (ag rs) typ rows k hlt ng HNK.out;obtain⟨D,hD⟩:∃D,D=aS (ag rs) typ (ak rows) k++dw ng rows[k].e.allow:=⟨_,rfl⟩;have hown:wr.ownsRow w.heap.size 220 3 u7 D.length (eF D):=by
        have:=Wu.out;rw[Vs,<-hD,<-Vh,<-hD]at this;exact this
      rw[<-hD]at HUS;have hnl:D.length<=100000000:=by
        have h1:=HSM.out (k+1);rw[HUS,Vh]at h1;omega
      have HUP:Hid (aS (ag rs) typ (ak rows) (k+1)=D++lw (ag rs) typ ng rows[k].e):=HUS;have HAW:Hid (Aside w1 (.slice (some ⟨w.heap.size,0,none⟩) 0 0) wr u7):=(HAS.out.trans (Aside.below WM.out)).trans HA2.out;clear Wu HUS hD;by_cases h2:rows[k].e.kind=2
      · have Zz:Hid (aS (ag rs) typ (ak rows) (k+1)=D++[⟨typ,rows[k].e.name,ng⟩]):=by show _=_;rw[HUP.out];simp[lw,h2]
        obtain⟨xs,hxs⟩:∃xs,xs=eF D:=⟨_,rfl⟩;obtain⟨n,hn⟩:∃n,n=D.length:=⟨_,rfl⟩;rw[<-hxs,<-hn]at hown;rw[<-hn]at hnl;have HFX:Hid (eF (aS (ag rs) typ (ak rows) (k+1))=xs++[.string typ,.string rows[k].e.name,.bool ng]):=by
          show _=_;rw[Zz.out,tZ,<-hxs];rfl
        have XR:Hid ((aS (ag rs) typ (ak rows) (k+1)).length=n+1):=by show _=_;rw[Zz.out,hn];simp
        clear hxs hn;go_wp2_with fail
        go_region_held3 (fun w'=>w'.cell? ⟨wo.heap.size,3,none⟩=some (.string rows[k].e.name)/\w'.cell? ⟨gN,k,none⟩=some (.bool ng))
          (first
            | go_keep
            | (go_split_ands
               refine⟨?_,?_⟩
               · (rw[hgrow.cell_far _ (by simp;omega) (Ne.symm a1)];assumption)
               · (rw[hgrow.cell_far _ (by simp;omega) (Ne.symm a2)];assumption)))
          ((refine step_append_lies _ (by rfl) _ _ _ (by rfl) w.heap.size 220 i0 _ 3 40 underlying216 hi hz0 hz1 hz2 rfl (by omega) u7 n xs (by rfl) ((hown.alloc _).drew)
              ⟨wr.heap.size,0,none⟩ 1 1 [.string typ,.string rows[k].e.name,.bool ng] (by rfl) (by rfl) (World.news_of_block (cs:=#[.string typ,.string rows[k].e.name,.bool ng]) (t:=220) (fr:=(0,0)) (heap_alloc_new wr _)) (by simp[Value.oneCell'])
              (by omega) (by unfold maxLen;omega) (by omega) (by simp;omega) (wr.heap.size+1) (by simp) ?_;intro gg cp w5 hown5 hgrow hat hlt5))
        have hb5:Hid (ae w w5):=((HB2.out.alloc HB2.out.size _).drew).grown hgrow (by simp;omega) (fun i hi=>(hown.lt i hi).1);have hAx:Aside wr u7 w5 (.slice (some ⟨gg,0,none⟩) (n+1) cp):=(Aside.below (((Vb _ _).alloc (Va _) _).drew)).trans (Aside.app hgrow (by
          rcases hat with e|e
          · left;rw[e];rfl
          · right;rw[e];simp[Value.ownBlock]))
        have f0:=qG hAx l1 a1 d0;have HA5:Hid (Aside w1 (.slice (some ⟨w.heap.size,0,none⟩) 0 0) w5 (.slice (some ⟨gg,0,none⟩) (n+1) cp)):=HAW.out.trans hAx;have WF:Hid (w5.ownsRow w.heap.size 220 3 (.slice (some ⟨gg,0,none⟩) (n+1) cp) (aS (ag rs) typ (ak rows) (k+1)).length (eF (aS (ag rs) typ (ak rows) (k+1)))):=by
          show World.ownsRow _ _ _ _ _ _ _;rw[HFX.out,XR.out];exact hown5
        clear hown5 hgrow hat hAx hown d0 d1 d2 d3 dn;go_wp2;go_roundw;case rel=>exact⟨k+1,by omega,by go_num,WF,hb5,HA5⟩
        simp[intOf]<;>omega
      by_cases h3:rows[k].e.kind=3
      · go_wp2_with fail;refine(ym ad cap rs _ _ _ _ hlen (HS.out.below HB2.out) HL.out).mono ?_;rintro e w4 ⟨⟨ad4,cap4,rfl,hs4,hn4⟩,hb4⟩;have HXG:Hid (aS (ag rs) typ (ak rows) (k+1)=D++(iC (ag rs) typ rows[k].e.over rows[k].e.name).map fun g=>(⟨g,rows[k].e.name,ng⟩:Dp)):=by show _=_;rw[HUP.out];simp[lw,h3]
        generalize iC (ag rs) typ rows[k].e.over rows[k].e.name=gs at *
        have hgs:D.length+gs.length<=100000000:=by
          have h1:=HSM.out (k+1);rw[HXG.out,Vh,VN]at h1;exact h1
        have f3:=aJ hb4 l1 d3;have fn:=aJ hb4 l2 dn;have WG:Hid (w4.ownsRow w.heap.size 220 3 u7 D.length (eF D)):=own_below hown hb4;have Xu:=jF HB2 hb4;have HA4:Hid (Aside w1 (.slice (some ⟨w.heap.size,0,none⟩) 0 0) w4 u7):=HAW.out.trans (Aside.below hb4);have HSG:=aD hs4;have HVG:Hid (∀p,ad4=some p->u7.ownBlock≠some p.block):=fun p hp e=>by have h1:=(hown.lt _ e).2;have h2:=hn4 p hp;omega
        have m1:wo.heap.size<w4.heap.size:=U9 l1 hb4.size;have m2:gN<w4.heap.size:=U9 l2 hb4.size;have m4:w.heap.size<=w4.heap.size:=Xu.out.size;clear hown hb4 hs4 hn4 d0 d1 d2 d3 dn l1 l2 l4;obtain⟨uo,huo⟩:∃uo,uo=u7:=⟨_,rfl⟩;subst huo;go_wp2_with fail;go_loopw[7,13] (fun v i w6=>∃m:Nat,m<=gs.length/\i=.int .i64 m/\Hid (w6.ownsRow w.heap.size 220 3 v (D.length+m) (eF (D++(gs.take m).map fun g=>(⟨g,rows[k].e.name,ng⟩:Dp))))/\Hid (ae w w6)/\Hid (Aside w4 uo w6 v)) (fun _ i _=>gs.length-(intOf i).toNat);case atStart=>exact⟨0,Vf _,rfl,(by simpa[Hid] using WG),Xu,Aside.refl _ _⟩
        obtain⟨m,hm,rfl,Xy,Ye,HA6⟩:=hrel;have x3:=qG HA6.out m1 a1 f3;have xn:=qG HA6.out m2 a2 fn;by_cases Xd:m<gs.length
        · rcases HSG.out with rfl|⟨bg,offg,rfl,hbg,hrg⟩
          · simp at Xd
          have q0:=qG HA6.out hbg (HVG.out _ rfl) (hrg m Xd);have hm1:=bC m;have hm2:(m:Int)<(gs.length:Int):=by omega
          have b1:u7.ownBlock≠some wo.heap.size:=HA6.out.apart m1 a1;have b2:u7.ownBlock≠some gN:=HA6.out.apart m2 a2;have b3:u7.ownBlock≠some bg:=HA6.out.apart hbg (HVG.out _ rfl);have l1:wo.heap.size<wr.heap.size:=U9 m1 HA6.out.size;have l2:gN<wr.heap.size:=U9 m2 HA6.out.size;have l3:bg<wr.heap.size:=U9 hbg HA6.out.size;have l4:w.heap.size<=wr.heap.size:=Ye.out.size;obtain⟨xs,hxs⟩:∃xs,xs=eF (D++(gs.take m).map fun g=>(⟨g,rows[k].e.name,ng⟩:Dp)):=⟨_,rfl⟩;obtain⟨n,hn⟩:∃n,n=D.length+m:=⟨_,rfl⟩;have hown:=Xy.out;rw[<-hxs,<-hn]at hown;have HFX:Hid (eF (D++(gs.take (m+1)).map fun g=>(⟨g,rows[k].e.name,ng⟩:Dp))=xs++[.string gs[m],.string rows[k].e.name,.bool ng]):=by
            show _=_;rw[Ve Xd,VX,<-VD,List.map_singleton,tZ,<-hxs];rfl
          have XR:Hid (D.length+(m+1)=n+1):=by show _=_;omega
          have hnl2:n<=100000000:=by omega
          have hgb:gs.length<=100000000:=by omega
          clear Xy hxs hn hrg hnl hgs;go_wp2_with fail
          go_region_held3 (fun w'=>w'.cell? ⟨wo.heap.size,3,none⟩=some (.string rows[k].e.name)/\w'.cell? ⟨gN,k,none⟩=some (.bool ng)/\w'.cell? ⟨bg,offg+m,none⟩=some (.string gs[m]))
            (first
              | go_keep
              | (go_split_ands
                 refine⟨?_,?_,?_⟩
                 · (rw[hgrow.cell_far _ (by simp;omega) (Ne.symm b1)];assumption)
                 · (rw[hgrow.cell_far _ (by simp;omega) (Ne.symm b2)];assumption)
                 · (rw[hgrow.cell_far _ (by simp;omega) (Ne.symm b3)];assumption)))
            ((refine step_append_lies _ (by rfl) _ _ _ (by rfl) w.heap.size 220 i0 _ 3 40 underlying216 hi hz0 hz1 hz2 rfl (by omega) u7 n xs (by rfl) ((hown.alloc _).drew)
                ⟨wr.heap.size,0,none⟩ 1 1 [.string gs[m],.string rows[k].e.name,.bool ng] (by rfl) (by rfl) (World.news_of_block (cs:=#[.string gs[m],.string rows[k].e.name,.bool ng]) (t:=220) (fr:=(0,0)) (heap_alloc_new wr _)) (by simp[Value.oneCell'])
                (by omega) (by unfold maxLen;omega) (by omega) (by simp;omega) (wr.heap.size+1) (by simp) ?_;intro gg cp w5 hown5 hgrow hat hlt5))
          have hb5:Hid (ae w w5):=((Ye.out.alloc Ye.out.size _).drew).grown hgrow (by simp;omega) (fun i hi=>(hown.lt i hi).1);have hAx:Aside wr u7 w5 (.slice (some ⟨gg,0,none⟩) (n+1) cp):=(Aside.below (((Vb _ _).alloc (Va _) _).drew)).trans (Aside.app hgrow (by
            rcases hat with e|e
            · left;rw[e];rfl
            · right;rw[e];simp[Value.ownBlock]))
          have HA5:Hid (Aside w4 uo w5 (.slice (some ⟨gg,0,none⟩) (n+1) cp)):=HA6.out.trans hAx;have WF:Hid (w5.ownsRow w.heap.size 220 3 (.slice (some ⟨gg,0,none⟩) (n+1) cp) (D.length+(m+1)) (eF (D++(gs.take (m+1)).map fun g=>(⟨g,rows[k].e.name,ng⟩:Dp)))):=by
            show World.ownsRow _ _ _ _ _ _ _;rw[HFX.out,XR.out];exact hown5
          clear hown5 hgrow hat hAx hown;go_wp2;go_roundw;case rel=>exact⟨m+1,by omega,by go_num,WF,hb5,HA5⟩
          simp[intOf]<;>omega
        · obtain rfl:m=gs.length:=by omega
          have WF:Hid (wr.ownsRow w.heap.size 220 3 u7 (aS (ag rs) typ (ak rows) (k+1)).length (eF (aS (ag rs) typ (ak rows) (k+1)))):=by
            have:=Xy.out;show World.ownsRow _ _ _ _ _ _ _;rw[Vs]at this;rw[HXG.out,Vh,VN];exact this
          have HA5:Hid (Aside w1 (.slice (some ⟨w.heap.size,0,none⟩) 0 0) wr u7):=HA4.out.trans HA6.out;clear Xy;go_wp2;go_roundw;case rel=>exact⟨k+1,by omega,by go_num,WF,Ye,HA5⟩
          simp[intOf]<;>omega
      · have Zz:Hid (aS (ag rs) typ (ak rows) (k+1)=D):=by show _=_;rw[HUP.out];simp[lw,h2,h3]
        have hb2:(rows[k].e.kind==2)=false:=by simpa using h2
        have hb3:(rows[k].e.kind==3)=false:=by simpa using h3
        have WF:Hid (wr.ownsRow w.heap.size 220 3 u7 (aS (ag rs) typ (ak rows) (k+1)).length (eF (aS (ag rs) typ (ak rows) (k+1)))):=by
          show World.ownsRow _ _ _ _ _ _ _;rw[Zz.out];exact hown
        clear hown;go_wp2;go_roundw;case rel=>exact⟨k+1,by omega,by go_num,WF,HB2,HAW⟩
        simp[intOf]<;>omega
  · obtain rfl:k=rows.length:=by omega
    have HFI:Hid (wr.ownsRow w.heap.size 220 3 u7 (qh (ag rs) typ (ak rows)).length (eF (qh (ag rs) typ (ak rows)))):=by
      have:=HOW.out;show World.ownsRow _ _ _ _ _ _ _;unfold qh;rw[aR];exact this
    clear HOW;go_wp2;go_ret;exact⟨⟨_,rfl,HFI.out⟩,HB.out⟩
end Go.Proofs.YtajkkeikihhejaaGreat
