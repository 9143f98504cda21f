/- Contract of the document's function on strata: the walk. -/
import Derived.Test.YtcgdckphpjfmhaaGreatDoorSq
import Derived.Test.YtcgdckphpjfmhaaGreatDoorJ18
open Go.Proofs.Tryz
set_option maxHeartbeats 80000000
namespace Go.Proofs.YtcgdckphpjfmhaaGreatDoor
open ChangeShapes WideShapes ChangeAt RowKit
open Pl
set_option maxRecDepth 100000 in
theorem wK(ad:Q02)(cap:Nat)(rs:Q06)(w:ae)(hlen:rs.length<=6)(hs:lc w ad rs)(hl:∀r∈rs,r.light)(hrl:∀r∈rs,r.rows.length<=6)(hel:∀r∈rs,∀q∈r.rows,q.rows.length<=15/\∀e∈q.rows,eH q.rows.length e.e.kids)(hF:Found (ag rs)):
    Calls prog 117 #[.slice ad rs.length cap] w fun e w'=>((∃XB cap' out,e=.returned (.tuple #[.slice XB out.length cap',.bool true])/\Jm w' XB out/\iK out=au (ag rs)/\Least (ag rs) (fO out))\/(e=.returned (.tuple #[.slice none 0 0,.bool false])/\¬ ∃f,Sol (ag rs) f))/\af w w':=by
  have HS:=aC hs;have HL:=aC hl;have HRL:Hid (∀r∈rs,r.rows.length<=6):=hrl;have Y5:Hid (∀r∈rs,∀q∈r.rows,q.rows.length<=15/\∀e∈q.rows,eH q.rows.length e.e.kids):=hel;have HF:=aC hF;clear hs hl hrl hel hF;obtain⟨i0,hi,hz0,hz1,hz2⟩:=info_parts RY;go_enter func117,ntmps117;have hbA:Hid (af w (w.alloc (.cells #[] 200))):=(V5 _ _).alloc (V4 _) _;have hown1:Hid ((w.alloc (.cells #[] 200)).ownsRow w.heap.size 200 3 (.slice (some ⟨w.heap.size,0,none⟩) 0 0) 0 []):=World.ownsRow_made w #[] 0 (V4 _) (by decide) rfl;go_wp2_with fail;go_loopw[4,5] (fun v i wr=>∃k:Nat,k<=rs.length/\i=.int .i64 k/\Hid (wr.ownsRow w.heap.size 200 3 v (di rs k).length (iL (Gs (di rs k))))/\Hid (af w wr)) (fun _ i _=>rs.length-(intOf i).toNat);case atStart=>exact⟨0,Wd _,rfl,hown1,hbA⟩
  clear hown1 hbA;obtain⟨k,hk,rfl,HOW,HB⟩:=hrel;by_cases hlt:k<rs.length
  · have hk1:=bC k;have hk2:(k:Int)<(rs.length:Int):=by omega
    have HU:Hid ((di rs k).length<=k*6):=xh rs HRL.out k;have Zk:Hid (rs[k].rows.length<=6):=HRL.out _ (VZ hlt);obtain⟨wo,hwo⟩:∃wo,wo=wr:=⟨_,rfl⟩;subst hwo;go_wp2_with fail;go_loopw[4,6] (fun v i w2=>∃j:Nat,j<=rs[k].rows.length/\i=.int .i64 j/\Hid (w2.ownsRow w.heap.size 200 3 v (di rs k++iX rs[k] j).length (iL (Gs (di rs k++iX rs[k] j))))/\Hid (af w w2)) (fun _ i _=>rs[k].rows.length-(intOf i).toNat);case atStart=>exact⟨0,Wd _,rfl,(by simpa[iX] using HOW),HB⟩
    obtain⟨j,hj,rfl,Xv,HB2⟩:=hrel;rcases HS.out.below HB2.out with rfl|⟨b,off,rfl,hb,hr,hok⟩
    · simp at hlt
    have hbw:b<w.heap.size:=by
      rcases HS.out with h|⟨b',off',e,hb',-⟩
      · rw[h]at hlt;simp at hlt
      · injection e with e;injection e with e1 e2;omega
    obtain⟨t0,t1⟩:=hr k hlt;have Yk:Hid (rs[k].ok _):=hok rs[k] (VZ hlt);have HOKW:Hid (rs[k].ok w):=HS.out.mem (VZ hlt);clear hr hok;by_cases hjl:j<rs[k].rows.length
    · rcases Yk.out with hnil|⟨b2,XR,had,hb2,hr2,-⟩
      · rw[hnil]at hjl;simp at hjl
      have hbw2:b2<w.heap.size:=by
        rcases HOKW.out with h|⟨b',off',e,hb',-⟩
        · rw[h]at hjl;simp at hjl
        · rw[had]at e;injection e with e;injection e with e1 e2;omega
      have t1':=t1;rw[had]at t1';obtain⟨q0,q1⟩:=hr2 j hjl;have hj1:=bC j;have hj2:(j:Int)<(rs[k].rows.length:Int):=by omega
      have a1:u4.ownBlock≠some b:=fun e=>by have:=(Xv.out.lt _ e).1;omega
      have a2:u4.ownBlock≠some b2:=fun e=>by have:=(Xv.out.lt _ e).1;omega
      have l4:w.heap.size<=wr.heap.size:=HB2.out.size;obtain⟨xs,hxs⟩:∃xs,xs=iL (Gs (di rs k++iX rs[k] j)):=⟨_,rfl⟩;obtain⟨n,hn⟩:∃n,n=(di rs k++iX rs[k] j).length:=⟨_,rfl⟩;have hown:=Xv.out;rw[<-hxs,<-hn]at hown;have hnl:n<=1000:=by
        have h1:=HU.out;have h2:=Dq rs[k] j;have h3:=Zk.out;rw[hn,Wi];omega
      have HFX:Hid (iL (Gs (di rs k++iX rs[k] (j+1)))=xs++[.string rs[k].name,.string rs[k].rows[j].name,.int .i64 0]):=by
        show _=_;rw[uG _ _ hjl,<-WE,Pp,Av,<-hxs];rfl
      have Zu:Hid ((di rs k++iX rs[k] (j+1)).length=n+1):=by show _=_;rw[uG _ _ hjl,<-WE,Wi,<-hn];rfl
      clear hr2 had t1 hxs hn Xv;go_wp2_with fail
      go_region_held3 (fun w'=>w'.cell? ⟨b,off+k*2,none⟩=some (.string rs[k].name)/\w'.cell? ⟨b,off+k*2+1,none⟩=some (.slice (some ⟨b2,XR,none⟩) rs[k].rows.length rs[k].cap)/\w'.cell? ⟨b2,XR+j*2,none⟩=some (.string rs[k].rows[j].name))
        (first
          | go_keep
          | (go_split_ands
             refine⟨?_,?_,?_⟩
             · (rw[hgrow.cell_far _ (by simp;omega) (Ne.symm a1)];assumption)
             · (rw[hgrow.cell_far _ (by simp;omega) (Ne.symm a1)];assumption)
             · (rw[hgrow.cell_far _ (by simp;omega) (Ne.symm a2)];assumption)))
        ((refine step_append_lies _ (by rfl) _ _ _ (by rfl) w.heap.size 200 i0 _ 3 40 underlying196 hi hz0 hz1 hz2 rfl (by omega) u4 n xs (by rfl) ((hown.alloc _).drew)
            ⟨wr.heap.size,0,none⟩ 1 1 [.string rs[k].name,.string rs[k].rows[j].name,.int .i64 0] (by rfl) (by rfl) (World.news_of_block (cs:=#[.string rs[k].name,.string rs[k].rows[j].name,.int .i64 0]) (t:=200) (fr:=(0,0)) (heap_alloc_new wr _)) (by simp[Value.oneCell'])
            (by omega) (by unfold maxLen;omega) (by omega) (by simp;omega) (wr.heap.size+1) (by simp) ?_;intro gg cp w5 hown5 hgrow hat hlt5))
      have hb5:Hid (af w w5):=((HB2.out.alloc HB2.out.size _).drew).grown hgrow (by simp;omega) (fun i hi=>(hown.lt i hi).1);have XH:Hid (w5.ownsRow w.heap.size 200 3 (.slice (some ⟨gg,0,none⟩) (n+1) cp) (di rs k++iX rs[k] (j+1)).length (iL (Gs (di rs k++iX rs[k] (j+1))))):=by
        show World.ownsRow _ _ _ _ _ _ _;rw[HFX.out,Zu.out];exact hown5
      have h6:=Zk.out;clear hown5 hgrow hat hown;go_wp2;go_roundw;case rel=>exact⟨j+1,by omega,by go_num,XH,hb5⟩
      simp[intOf]<;>omega
    · obtain rfl:j=rs[k].rows.length:=by omega
      have XH:Hid (wr.ownsRow w.heap.size 200 3 u4 (di rs (k+1)).length (iL (Gs (di rs (k+1))))):=by
        show World.ownsRow _ _ _ _ _ _ _;rw[p9 _ _ hlt];exact Xv.out
      clear Xv;go_wp2;go_roundw;case rel=>exact⟨k+1,by omega,by go_num,XH,HB2⟩
      simp[intOf]<;>omega
  · obtain rfl:k=rs.length:=by omega
    have Zm:Hid (di rs rs.length=au (ag rs)):=by show _=_;unfold di;rw[Wo]
    have HN36:Hid ((au (ag rs)).length<=36):=by
      have h1:=xh rs HRL.out rs.length;have h2:=Zm.out;show _<=_;rw[<-h2];omega
    obtain⟨n,hn⟩:∃n,n=(au (ag rs)).length:=⟨_,rfl⟩;have hown:=HOW.out;rw[Zm.out,<-ET]at hown;obtain⟨Y8,cpO,g,rfl,hrow⟩:=R3 HB.out hown;have HP0:Hid (Pass (ag rs) n true (Gs (au (ag rs)))):=Pass.zero hn;have Yw:=aC hrow;have hn36:n<=36:=by rw[hn];exact HN36.out
    have Zu:Hid (n=(au (ag rs)).length):=hn;rw[ET,<-hn];clear hown HOW hrow hn Zm HN36 HB;go_wp2_with fail;go_loopw[7] (fun m w1=>∃(mb:Bool) (out:List St),m=.bool mb/\Hid (Pass (ag rs) n mb out)/\Hid (RowS w w1 Y8 g out)) (fun m w1=>Dr w1 g n m);case atStart=>exact⟨true,_,rfl,HP0,Yw⟩
    clear HP0 Yw;obtain⟨mb,oS,rfl,HPS,HRS⟩:=hrel;cases mb;case false=>
      go_wp2;exact bodyPost_ret (v:=.tuple #[.slice Y8 n cpO,.bool true]) (by simp[results,Tryz.results117,go_sem]) rfl ⟨.inl ⟨Y8,cpO,oS,by rw[HPS.out.len],HRS.out.slN,HPS.out.round.keys,HPS.out.least⟩,HRS.out.below⟩
    have ZZ:Hid (oS.length=n):=HPS.out.len;have HM0:Hid (Mid (ag rs) n oS 0 0 false oS):=Mid.start HPS.out.len HPS.out.nn HPS.out.round HPS.out.le;obtain⟨w0,hw0⟩:∃w0,w0=wr:=⟨_,rfl⟩;subst hw0;go_wp2_with fail;go_loopw[7,8] (fun m i w1=>∃(mb:Bool) (k:Nat) (out:List St),m=.bool mb/\k<=n/\i=.int .i64 k/\Hid (Mid (ag rs) n oS k 0 mb out)/\Hid (RowS w w1 Y8 g out)) (fun _ i _=>n-(intOf i).toNat);case atStart=>exact⟨false,0,oS,rfl,Wd _,rfl,HM0,HRS⟩
    clear HM0;obtain⟨mb,k,out,rfl,hk,rfl,HM,HR⟩:=hrel;by_cases hlt:k<n
    · have hko:k<out.length:=by rw[HM.out.len];exact hlt
      have hke:k<(au (ag rs)).length:=by rw[<-Zu.out];exact hlt
      have hk1:=bC k;have hk2:(k:Int)<(n:Int):=by omega
      rcases HR.out.at' with e|⟨rfl,hgw,hgl,hO,-⟩
      · rw[e]at hko;simp at hko
      obtain⟨c0,c1,c2⟩:=hO k hko;have HKE:Hid (out[k].key=(au (ag rs))[k]):=HM.out.key hko hke;have Xz:∀w',af wr w'->lc w' ad rs:=fun w' h=>HS.out.below (HR.out.below.trans (h.mono HR.out.below.size));have c3:wr.drew.cell? ⟨g,k*3,none⟩=some (.string out[k].typ)/\wr.drew.cell? ⟨g,k*3+1,none⟩=some (.string out[k].rel)/\g<wr.drew.heap.size/\af wr wr.drew:=⟨c0,c1,hgl,(V5 _ _).drew⟩;clear hO c2;go_wp2_with fail
      go_region_held3 (fun w'=>w'.cell? ⟨g,k*3,none⟩=some (.string out[k].typ)/\w'.cell? ⟨g,k*3+1,none⟩=some (.string out[k].rel)/\g<w'.heap.size/\af wr w')
        (first|exact c3|assumption|exact keepD (by assumption) hbx)
        (first|(go_at_call 118;refine(ji ad cap rs _ _ _ (by omega) (Xz _ (by first|assumption|exact c3.2.2.2)) HL.out).mono ?_;rintro e w' ⟨⟨rows,Xw,capE,rfl,hex,hse,hfs⟩,rfl⟩)|(go_at_call 168;refine(Jo ad Xw cap capE rs _ rows _ (by omega) (Xz _ (by first|assumption|exact c3.2.2.2)) HL.out (hfs.small Y5.out).1 hse (hfs.light HL.out).2 (hfs.small Y5.out).2 (Az rs HL.out _ rows (hfs.small Y5.out).1 (hfs.light HL.out).2)).mono ?_;rintro e w' ⟨⟨v,rfl,hown⟩,hbx⟩))
      rename_i hHeld;have Yi:Hid (af wr w'):=hHeld.2.2.2;have XY:Hid (RowS w w' (some ⟨g,0,none⟩) g out):=HR.out.kept hHeld.2.2.2;have HDK:Hid (qX (ag rs) out[k].typ (aj rows)=iw (ag rs) (au (ag rs))[k]):=by
        show _=_;rw[<-HKE.out,hex];rfl
      obtain⟨ds,hds⟩:∃ds,ds=iw (ag rs) (au (ag rs))[k]:=⟨_,rfl⟩;rw[HDK.out,<-hds]at hown;obtain⟨adD,cpD,rfl,hD⟩:=Vp hown;have HD5:=aC hD;have hdl:ds.length<=100000000:=by
        have:=Az rs HL.out out[k].typ rows (hfs.small Y5.out).1 (hfs.light HL.out).2 (aj rows).length;have e:=HDK.out;unfold qX at e;rw[e,<-hds]at this;exact this
      have HDS:Hid (ds=iw (ag rs) (au (ag rs))[k]):=hds;have HKM:Hid ((au (ag rs))[k]∈au (ag rs)):=VZ hke;clear hHeld hown hD hds HDK c0 c1 c3 hex hse hfs hbx Xz HKE;obtain⟨wq,hwq⟩:∃wq,wq=wr:=⟨_,rfl⟩;subst hwq;go_wp2_with fail;go_loopw[7,10] (fun m i w2=>∃(mb:Bool) (j:Nat) (o2:List St),m=.bool mb/\j<=ds.length/\i=.int .i64 j/\Hid (Mid (ag rs) n oS k j mb o2)/\Hid (RowS w w2 (some ⟨g,0,none⟩) g o2)/\Hid (TC w2 wq.heap.size adD ds)) (fun _ i _=>ds.length-(intOf i).toNat);case atStart=>exact⟨mb,0,out,rfl,Wd _,rfl,HM,XY,HD5⟩
      clear HM HR XY HD5 Yi;obtain⟨mc,j,o2,rfl,hj,rfl,X0,HR2,HD2⟩:=hrel;have YO:k<o2.length:=by rw[X0.out.len];exact hlt
      rcases HR2.out.at' with e|⟨-,hgw2,hgl2,hO2,hfz2⟩
      · rw[e]at YO;simp at YO
      have f2:=hfz2 (k*3+2);obtain⟨z0,z1,z2⟩:=hO2 k YO;by_cases hjl:j<ds.length
      · rcases HD2.out with e|⟨bd,rfl,hbd,hbl,hDc⟩
        · rw[e]at hjl;simp at hjl
        obtain⟨x0,x1,x2⟩:=hDc j hjl;have HKE2:Hid (o2[k].key=(au (ag rs))[k]):=X0.out.key YO hke;have HDJ:Hid ((iw (ag rs) o2[k].key)[j]?=some ds[j]):=by
          show _=_;rw[HKE2.out,<-HDS.out];exact Wm hjl
        have HDF:Hid ((ds[j].typ,ds[j].rel)∈au (ag rs)):=HF.out _ HKM.out ds[j] (by rw[<-HDS.out];exact VZ hjl);obtain⟨i,hi2,hat,hin,hpos,hub⟩:=X0.out.at _ HDF.out;obtain⟨y0,y1,y2⟩:=hO2 i hi2;have hi3:i<n:=by rw[<-X0.out.len];exact hi2
        have HW:Hid (qc o2 ds[j]=fO o2 (ds[j].typ,ds[j].rel)+stepOf ds[j]):=rfl;have HL2:Hid (o2.length=n):=X0.out.len;have HSN:Hid (Jm wr (some ⟨g,0,none⟩) o2):=HR2.out.slN;rw[hin]at y2;obtain⟨x,hx⟩:∃x,x=fO o2 (ds[j].typ,ds[j].rel):=⟨_,rfl⟩;have HX:Hid (qc o2 ds[j]=x+stepOf ds[j]):=by rw[hx];exact HW
        rw[<-hx]at hpos hub y2;obtain⟨kn,hkn⟩:∃kn,kn=o2[k].n:=⟨_,rfl⟩;rw[<-hkn]at z2;have HKN:Hid (kn=o2[k].n):=hkn;have hkn1:0<=kn:=by rw[hkn];exact X0.out.round.pos _ (VZ YO)
        have hkn2:kn<=n+1+j:=by rw[hkn];exact X0.out.lek YO
        have hj1:=bC j;have hj2:(j:Int)<(ds.length:Int):=by omega
        have hi4:=bC i;have hi5:(i:Int)<(n:Int):=by omega
        have HAT:Hid (gY ds[j].typ ds[j].rel o2 0=(i:Int)):=hat;have hx5:(2:Int)<5:=by omega
        clear hfz2 hO2 hDc hx hkn hin y0 y1 hi2 HW hat z0 z1;go_wp2_with fail
        go_region_held3 (fun w'=>w'.cell? ⟨bd,j*3,none⟩=some (.string ds[j].typ)/\w'.cell? ⟨bd,j*3+1,none⟩=some (.string ds[j].rel)/\w'.cell? ⟨g,i*3+2,none⟩=some (.int .i64 x))
          (first|assumption|exact⟨x0,x1,y2⟩)
          (first|(go_at_call 169;refine(Uo (some ⟨g,0,none⟩) cpO n o2 (ds[j].typ,ds[j].rel) _ HL2.out (by omega) (by first|exact HSN.out|assumption) i HAT.out).mono ?_;rintro e w' ⟨rfl,rfl⟩))
        rename_i hHeld2;have HR3:Hid (RowS w wr.drew (some ⟨g,0,none⟩) g o2):=HR2.out.kept ((V5 _ _).drew);have HD3:Hid (TC wr.drew wq.heap.size (some ⟨bd,0,none⟩) ds):=HD2.out;clear hHeld2 x0 x1 y2;cases hneg:ds[j].neg
        case' true =>
          have YH:Hid (qc o2 ds[j]=x+1):=by show _=_;rw[HX.out];simp[stepOf,hneg]
          rw[hneg]at x2;by_cases hgt:kn<x+1
          · have ZP:Hid (Mid (ag rs) n oS k (j+1) true (o2.set k ⟨o2[k].typ,o2[k].rel,x+1⟩)):=by
              have:=X0.out.yes HF.out YO ds[j] HDJ.out (by rw[YH.out,<-HKN.out];exact hgt);rw[YH.out]at this;exact this
            have HR4:Hid (RowS w (wr.drew.setCell ⟨g,k*3+2,none⟩ (.int .i64 (x+1))) (some ⟨g,0,none⟩) g (o2.set k ⟨o2[k].typ,o2[k].rel,x+1⟩)):=HR3.out.set YO (x+1);have HD4:Hid (TC (wr.drew.setCell ⟨g,k*3+2,none⟩ (.int .i64 (x+1))) wq.heap.size (some ⟨bd,0,none⟩) ds):=HD3.out.set hgl;clear X0 HR2 HR3 HD2 HD3;go_wp2;go_roundw;case rel=>exact⟨true,j+1,_,rfl,by omega,by go_num,ZP,HR4,HD4⟩
            simp[intOf]<;>omega
        case' false =>
          have YH:Hid (qc o2 ds[j]=x):=by show _=_;rw[HX.out];simp[stepOf,hneg]
          rw[hneg]at x2;by_cases hgt:kn<x
          · have ZP:Hid (Mid (ag rs) n oS k (j+1) true (o2.set k ⟨o2[k].typ,o2[k].rel,x⟩)):=by
              have:=X0.out.yes HF.out YO ds[j] HDJ.out (by rw[YH.out,<-HKN.out];exact hgt);rw[YH.out]at this;exact this
            have HR4:Hid (RowS w (wr.drew.setCell ⟨g,k*3+2,none⟩ (.int .i64 (x))) (some ⟨g,0,none⟩) g (o2.set k ⟨o2[k].typ,o2[k].rel,x⟩)):=HR3.out.set YO (x);have HD4:Hid (TC (wr.drew.setCell ⟨g,k*3+2,none⟩ (.int .i64 (x))) wq.heap.size (some ⟨bd,0,none⟩) ds):=HD3.out.set hgl;clear X0 HR2 HR3 HD2 HD3;go_wp2;go_roundw;case rel=>exact⟨true,j+1,_,rfl,by omega,by go_num,ZP,HR4,HD4⟩
            simp[intOf]<;>omega
        all_goals
          · have ZP:Hid (Mid (ag rs) n oS k (j+1) mc o2):=X0.out.no YO ds[j] HDJ.out (by rw[YH.out,<-HKN.out];omega);clear X0 HR2 HD2;go_wp2;go_roundw;case rel=>exact⟨mc,j+1,o2,rfl,by omega,by go_num,ZP,HR3,HD3⟩
            simp[intOf]<;>omega
      · obtain rfl:j=ds.length:=by omega
        have HKE2:Hid (o2[k].key=(au (ag rs))[k]):=X0.out.key YO hke;have HJ:Hid (ds.length=(iw (ag rs) o2[k].key).length):=by show _=_;rw[HKE2.out,<-HDS.out]
        clear z0 z1 hO2 hfz2 f2;by_cases hov:(n:Int)<o2[k].n
        · have Zl:Hid (¬ ∃f,Sol (ag rs) f):=X0.out.over HF.out YO hov;have hkn2:o2[k].n<=n+1+ds.length:=X0.out.lek YO;go_wp2;exact bodyPost_ret (v:=.tuple #[.slice none 0 0,.bool false]) (by simp[results,Tryz.results117,go_sem]) rfl ⟨.inr ⟨rfl,Zl.out⟩,HR2.out.below⟩
        · have ZP:Hid (Mid (ag rs) n oS (k+1) 0 mc o2):=X0.out.next YO HJ.out (by omega);clear X0;go_wp2;go_roundw;case rel=>exact⟨mc,k+1,o2,rfl,by omega,by go_num,ZP,HR2⟩
          simp[intOf]<;>omega
    · obtain rfl:k=n:=by omega
      have XA:Hid (Pass (ag rs) k mb out):=HM.out.done rfl;have HLS:Hid (Dr wr g k (.bool mb)<Dr w0 g k (.bool true)):=Jq HRS.out HR.out HM.out ZZ.out;go_wp2;go_roundw;case rel=>exact⟨mb,out,rfl,XA,HR⟩
      exact HLS.out
open Maps
set_option linter.unusedSectionVars false
set_option linter.unusedVariables false
set_option maxRecDepth 100000
theorem QO{rs:Q06}(h:bF (ag rs)=true){k:Q01}(hk:k∈au (ag rs)):∃es,gu (ag rs) k.1 k.2=some es/\aP es=true:=by
 unfold au at hk;obtain⟨T,hT,hk⟩:=Wx.1 hk;obtain⟨t,ht,rfl⟩:=Wp.1 hT;unfold jT at hk;obtain⟨r,hr,rfl⟩:=Wp.1 hk;obtain⟨q,hq,rfl⟩:=Wp.1 hr;exact⟨aj q.rows,qw h ht hq,((bR h).2.2 t ht q hq).1⟩
theorem UJ{wr W w':ae}{b o1 o2:Nat}{x y:Value}(h:W.cell? ⟨b,o1,none⟩=some x/\W.cell? ⟨b,o2,none⟩=some y/\af wr W)(hb:af W w'):w'.cell? ⟨b,o1,none⟩=some x/\w'.cell? ⟨b,o2,none⟩=some y/\af wr w' :=
 ⟨aU hb (aL h.1) h.1,aU hb (aL h.2.1) h.2.1,h.2.2.trans (hb.mono h.2.2.size)⟩
def rT[DecidableEq Fc](st:Q00)(rs:Q06)(ts:Q05):List Fc:=nE (ag rs) ts st (gP ts) (dN ts) ((au (ag rs)).length+1)
section
variable  [DecidableEq Fc]
theorem nz(st:Q00)(rs:Q06)(ts:Q05)(xo xu:Q0a):∀N,GoodO (ag rs) xo xu (nE (ag rs) ts st xo xu N)
 | 0=>⟨List.nodup_nil,fun g hg=>by cases hg⟩
 | N+1=>by
  refine⟨DJ _ _ _ _ _ _,fun g hg=>?_⟩;rw[j6]at hg;obtain⟨new,e,hn⟩:=Dc (H:=ja (ag rs) ts) (dw (ag rs) st xo xu (N:Int)) (nN (dw (ag rs) st xo xu (N:Int)) (nE (ag rs) ts st xo xu N)+1) (nE (ag rs) ts st xo xu N);unfold pM at hg;rw[e]at hg;rcases Wj.1 hg with hg|hg
  ·exact(nz st rs ts xo xu N).sub g hg
  exact Eh (hn g hg)
theorem NS(st:Q00)(ad:Q02)(cap:Nat)(rs:Q06)(XB:Q02)(cap':Nat)(ts:Q05)(w:ae)(hsp:bQ (ag rs))(hle:Least (ag rs) st)(hs:lc w ad rs)(hl:∀r∈rs,r.light)(hlt:ts.length<=40)(hst:Sl w XB ts):
  Calls prog 71 #[.slice ad rs.length cap,.slice XB ts.length cap'] w fun e w'=>(∃v,e=.returned v/\w'.ownsRow w.heap.size 43 5 v (rT st rs ts).length (aA (rT st rs ts)))/\af w w':=by
 obtain⟨iF,z0,z1,z2,z3⟩:=wE;have HIF:=ax (And.intro z0 (And.intro z1 (And.intro z2 z3)));obtain⟨h6,Zo,hsf⟩:=bR hsp.1;have HSP:=ax hsp;have Yv:=ax hle;have HS:=ax hs;have HL:=ax hl;have HST:=ax hst;have HSF:=ax hsf;have Zk:=ax Zo;have HND:=ax (KC hsp.1);have hE36:(au (ag rs)).length<=36:=zB h6 Zo;have htl:ts.length<=1048576:=by omega
 obtain⟨W0,hW0⟩:∃W0,W0=w.alloc (.cells #[] 43):=⟨_,rfl⟩;have HB0:=nC hW0;have XO:Hid (W0.ownsRow w.heap.size 43 5 (.slice (some ⟨w.heap.size,0,none⟩) 0 0) 0 (aA [])):=by
  show World.ownsRow _ _ _ _ _ _ _;rw[hW0];exact World.ownsRow_lit w #[] 0 (V4 _) (by unfold maxLen;omega) (by simp)
 have HNC:Hid ((∀o,W0.cell? ⟨w.heap.size,o,none⟩=none)/\w.heap.size<W0.heap.size):=by
  show _/\_;rw[hW0];exact⟨fun o=>by simp,by simp⟩
 clear hsp hle hs hl hst hsf Zo z0 z1 z2 z3;go_enter func71,ntmps71;go_wp2_with fail;rw[<-hW0];clear hW0;refine(tX XB cap' ts false _ hlt (HST.out.below HB0.out)).mono ?_;rintro e w1 ⟨⟨vo,rfl,hvo⟩,hb1⟩;have HB1:=ax (HB0.out.trans (hb1.mono HB0.out.size));have HR1:=ax (aH XO.out hb1);have HN1:Hid ((∀o,w1.cell? ⟨w.heap.size,o,none⟩=none)/\w.heap.size<w1.heap.size):=⟨fun o=>(hb1.cell (p:=⟨w.heap.size,o,none⟩) HNC.out.2).trans (HNC.out.1 o),VY HNC.out.2 hb1.size⟩;obtain⟨Y8,YU,rfl,hsO⟩:=mU hvo;have HSO:=ax hsO;clear hvo hb1 hsO HB0 XO HNC;go_wp2_with fail;refine(tX XB cap' ts true _ hlt (HST.out.below HB1.out)).mono ?_;rintro e w2 ⟨⟨vu,rfl,hvu⟩,hb2⟩;have HB2:=ax (HB1.out.trans (hb2.mono HB1.out.size));have HR2:=ax (aH HR1.out hb2);have ZF:Hid ((∀o,w2.cell? ⟨w.heap.size,o,none⟩=none)/\w.heap.size<w2.heap.size):=⟨fun o=>(hb2.cell (p:=⟨w.heap.size,o,none⟩) HN1.out.2).trans (HN1.out.1 o),VY HN1.out.2 hb2.size⟩;have HSO2:=ax (HSO.out.below hb2);obtain⟨Yr,XI,rfl,hsU⟩:=mU hvu;have HSU:=ax hsU;clear hvu hb2 hsU HB1 HR1 HN1 HSO;go_wp2_with fail;refine(wK ad cap rs _ h6 (HS.out.below HB2.out) HL.out Zk.out (fun r hr q hq=>(HSF.out r hr q hq).2) (mQ HSP.out.2.1)).mono ?_;rintro e W ⟨hres,hb3⟩;rcases hres with⟨adN,capN,sts,rfl,hsN,hkN,hlN⟩|⟨-,hno⟩;rotate_left
 ·exact absurd HSP.out.2.2 hno
 have HK:=ax hkN;have ZZ:=ax hlN;have HB3:=ax (HB2.out.trans (hb3.mono HB2.out.size));have HSN:=ax hsN;have HSO3:=ax (HSO2.out.below hb3);have HSU3:=ax (HSU.out.below hb3);have hsl:sts.length=(au (ag rs)).length:=by rw[<-hkN,iK,Xc]
 have hs36:sts.length<=36:=by omega
 have HSLE:=ax hsl;obtain⟨xo,hxo⟩:∃xo,xo=gP ts:=⟨_,rfl⟩;obtain⟨xu,hxu⟩:∃xu,xu=dN ts:=⟨_,rfl⟩;have n0:fM false ts=xo:=by rw[hxo];rfl
 have n1:fM true ts=xu:=by rw[hxu];rfl
 rw[n0]at HSO3;rw[n1]at HSU3;rw[n0,n1];have hol:xo.length<=80:=by have:=pz ts;rw[hxo];omega
 have hul:xu.length<=40:=by have:=ny ts;rw[hxu];omega
 have HXO:=ax hxo;have HXU:=ax hxu;have HOUT:Hid (OutI w W W (.slice (some ⟨w.heap.size,0,none⟩) 0 0) []):=⟨aH HR2.out hb3,fun _ _ _ h=>h,V4 _,HB3.out,fun g hg o=>by
  have e:g=w.heap.size:=by simpa[Value.ownBlock] using hg.symm
  rw[e];exact(hb3.cell (p:=⟨w.heap.size,o,none⟩) ZF.out.2).trans (ZF.out.1 o)⟩
 clear hsN hkN hlN hb3 HB2 HR2 ZF HSO2 HSU n0 n1 hxo hxu hsl Zk;obtain⟨H,hH⟩:∃H,H=ja (ag rs) ts:=⟨_,rfl⟩;obtain⟨A,hA⟩:∃A:Nat->List Fc,A=nE (ag rs) ts (fO sts) xo xu:=⟨_,rfl⟩;obtain⟨Q,hQ⟩:∃Q:Nat->List Fc,Q=fun(n:Nat)=>dw (ag rs) (fO sts) xo xu (n:Int):=⟨_,rfl⟩;have HA1:Hid (∀n,A (n+1)=pM H (Q n) (A n)):=fun n=>by rw[hA,hH,hQ];exact j6 _ _ _ _ _ _
 have HAG:Hid (∀n,GoodO (ag rs) xo xu (A n)):=fun n=>by rw[hA];exact nz _ _ _ _ _ n
 have HQS:Hid (∀n,∀g∈Q n,g∈FL (ag rs) xo xu):=fun n g hg=>by rw[hQ]at hg;exact Eh hg
 have HQI:Hid (∀n:Nat,tJ sts xo xu (n:Int) xo.length=Q n):=fun n=>by rw[hQ];exact QN HK.out HND.out xo xu n
 have Ye:Hid (A (sts.length+1)=rT st rs ts):=by
  show _=_;rw[hA,HSLE.out,HXO.out,HXU.out];exact xQ (fun k hk=>ZZ.out.same Yv.out k hk) _
 have HA0:Hid (A 0=[]):=by show _=_;rw[hA];rfl
 have HH:=ax hH;clear hH hA hQ;go_wp2;go_loopw[5,10] (fun v i wr=>∃(n:Nat),n<=sts.length+1/\i=.int .i64 n/\Hid (OutI w W wr v (A n))) (fun _ i _=>sts.length+1-(intOf i).toNat);case atStart=>exact⟨0,Wd _,rfl,by rw[HA0.out];exact HOUT⟩
 clear HOUT;obtain⟨n,hn,rfl,HO⟩:=hrel;by_cases hlt1:n<=sts.length
 ·go_wp2;go_loopw[5,11] (fun v m wr=>∃(bb:Bool) (out:Q04),m=.bool bb/\Hid (pM H (Q n) out=A (n+1))/\Hid (bb=false->bW H (Q n) out=out)/\Hid (OutI w W wr v out)/\Hid (GoodO (ag rs) xo xu out)) (fun v m _=>2*(200000-UA v)+VM m);case atStart=>exact⟨true,A n,rfl,(HA1.out n).symm,(fun h=>by cases h),HO,HAG.out n⟩
  clear HO;obtain⟨bb,out,rfl,HLM,HDN,HO,HG⟩:=hrel;have hout:=HG.out.len hol hE36 hul;obtain⟨adF,YF,rfl,-⟩:=jc HO.out.row;cases bb;case false=>
   have Xv:Hid (OutI w W wr (.slice adF out.length YF) (A (n+1))):=by
    show OutI _ _ _ _ _;rw[<-HLM.out,wY (HDN.out rfl)];exact HO.out
   go_wp2;go_roundw;case rel=>exact⟨n+1,by omega,by go_num,Xv⟩
   simp[intOf]<;>omega
  go_wp2;go_loopw[5,11,12] (fun v m i wr=>∃(q:Nat) (bb:Bool) (Xy:Q04),q<=xo.length/\m=.bool bb/\i=.int .i64 q/\Hid (Xy=bW H (tJ sts xo xu (n:Int) q) out)/\Hid (bb=decide (out.length<Xy.length))/\Hid (OutI w W wr v Xy)/\Hid (GoodO (ag rs) xo xu Xy)) (fun _ _ i _=>xo.length-(intOf i).toNat);case atStart=>exact⟨0,false,out,Wd _,rfl,rfl,rfl,(decide_eq_false (Nat.lt_irrefl _)).symm,HO,HG⟩
  clear HO;obtain⟨q,bb,Xy,hq,rfl,rfl,HR,Y9,Xv,HG2⟩:=hrel;by_cases hlq:q<xo.length
  ·have HSU4:=ax (NQ (sts:=sts) (xu:=xu) (n:=(n:Int)) hlq);obtain⟨o,ho⟩:∃o,o=xo[q]:=⟨_,rfl⟩;rw[<-ho]at HSU4;have HOQ:=ax ho;clear ho;go_wp2;go_loopw[5,11,13] (fun v m i wr=>∃(p:Nat) (bb:Bool) (Za:Q04),p<=sts.length/\m=.bool bb/\i=.int .i64 p/\Hid (Za=bW H (tJ sts xo xu (n:Int) q++kY sts xu (n:Int) o p) out)/\Hid (bb=decide (out.length<Za.length))/\Hid (OutI w W wr v Za)/\Hid (GoodO (ag rs) xo xu Za)) (fun _ _ i _=>sts.length-(intOf i).toNat);case atStart=>exact⟨0,bb,Xy,Wd _,rfl,rfl,by show _=_;rw[NP,WS];exact HR.out,Y9,Xv,HG2⟩
   clear Xv HR Y9 HG2;obtain⟨p,bb,Za,hp,rfl,rfl,HR,Y9,Xv,HG2⟩:=hrel;by_cases hlp:p<sts.length
   ·obtain⟨bN,offN,hadN,⟨s0,s1,s2⟩,hbN⟩:=Jm.at0 (HSN.out.keepC Xv.out.size Xv.out.keep) hlp;obtain⟨bO,X7,hadO,⟨o0,o1⟩,hbO⟩:=lK.at0 (HSO3.out.keepC Xv.out.size Xv.out.keep) hlq;rw[<-HOQ.out]at o0 o1;obtain⟨s,hsp⟩:∃s,s=sts[p]:=⟨_,rfl⟩;have HKN:Hid ((s.typ.toList==o.t.toList&&decide (s.n=(n:Int)))=false->kY sts xu (n:Int) o (p+1)=kY sts xu (n:Int) o p):=fun h=>SG hlp (by rw[<-hsp];exact h);have HKY:Hid ((s.typ.toList==o.t.toList&&decide (s.n=(n:Int)))=true->kY sts xu (n:Int) o (p+1)=kY sts xu (n:Int) o p++jO o s.rel xu):=fun h=>by rw[QM hlp (by rw[<-hsp];exact h),<-hsp]
    rw[<-hsp]at s0 s1 s2;have HSM:Hid (s.key∈au (ag rs)):=by show _∈_;rw[<-HK.out,hsp];exact WG (VZ hlp)
    have ZL:=ax hsp;have hq1:=bC q;have hq2:(q:Int)<(xo.length:Int):=by omega
    have hp1:=bC p;have hp2:(p:Int)<(sts.length:Int):=by omega
    subst hadN;subst hadO;clear hsp;cases ht:(s.typ.toList==o.t.toList);case false=>
     have HKE:Hid (kY sts xu (n:Int) o (p+1)=kY sts xu (n:Int) o p):=HKN.out (by rw[ht];rfl);have XG:∀nq,Hid (OutI w W (wr.drewN nq) u5 Za):=fun nq=>Xv.out.below (below_drewN (V5 _ _) nq);go_wp2_with fail;go_quiet (fail);go_wp2;go_roundw;case rel=>exact⟨p+1,bb,Za,by omega,rfl,by go_num,by rw[HKE.out];exact HR,Y9,XG _,HG2⟩
     simp[intOf]<;>omega
    by_cases hn2:s.n=(n:Int)
    ·have hb1:(s.n==(n:Int))=true:=by simpa using hn2
     have HKE:=ax (HKY.out (by rw[ht,hn2];simp));have HTO:Hid (s.typ=o.t):=fw.1 ht;have hb2:decide (s.n=(n:Int))=true:=decide_eq_true hn2;replace hn2:Hid (s.n=(n:Int)):=hn2;have HREL:Hid (∀W':World,(W'.cell? ⟨bN,offN+p*3,none⟩=some (.string s.typ)/\W'.cell? ⟨bN,offN+p*3+1,none⟩=some (.string s.rel)/\af wr W')->Calls prog 118 #[.slice ad rs.length cap,.string s.typ,.string s.rel] W' fun e w'=>(∃(rows:Q08) (Xw:Q02) (capE:Nat),e=.returned (.slice Xw rows.length capE)/\aj rows=aM (ag rs) s.typ s.rel/\qB rs Xw rows)/\af W' w'):=fun W' h=>by
      refine(ji ad cap rs s.typ s.rel W' (by omega) (HS.out.below (Xv.out.bel.trans (h.2.2.mono Xv.out.bel.size))) HL.out).mono ?_;rintro e w' ⟨⟨rows,Xw,capE,he,hx,-,hf⟩,rfl⟩;exact⟨⟨rows,Xw,capE,he,hx,hf⟩,V5 _ _⟩
     go_wp2_with fail;go_quiet (fail);go_wp2_with fail
     go_region_held3 (fun w'=>w'.cell? ⟨bN,offN+p*3,none⟩=some (.string s.typ)/\w'.cell? ⟨bN,offN+p*3+1,none⟩=some (.string s.rel)/\af wr w')
      (first|assumption|exact UJ (by assumption) hbx|exact⟨s0,s1,Below.drew (below_drewN (V5 _ _) _)⟩)
      (first|(go_at_call 118;refine(HREL.out _ (by assumption)).mono ?_;rintro e w' ⟨⟨rows,Xw,capE,rfl,hrx,hrf⟩,hbx⟩))
     rename_i hH;have XE:=ax (Xv.out.below hH.2.2);have HEX:Hid (aj rows=aM (ag rs) o.t s.rel):=by show _=_;rw[hrx,HTO.out]
     obtain⟨Zl,hr1⟩:Hid (ZI rows)/\1<=rows.length:=by
      obtain⟨es,e1,e2⟩:=QO HSP.out.1 HSM.out;have e3:aj rows=es:=by
       rw[hrx];unfold aM;show(gu (ag rs) s.key.1 s.key.2).getD []=es;rw[e1];rfl
      rw[<-e3]at e2;exact LH e2
     have HRF:=ax hrf;have hr1000:=Zl.out.len;clear hH hbx hrx hrf HREL s0 s1 s2 o0 o1 hb1 hb2 Xv HTO hbN hbO;go_wp2;go_loopw[5,11,15] (fun v m i wr=>∃(j:Nat) (bb:Bool) (XL:Q04),j<=xu.length/\m=.bool bb/\i=.int .i64 j/\Hid (XL=bW H (tJ sts xo xu (n:Int) q++kY sts xu (n:Int) o p++jO o s.rel (xu.take j)) out)/\Hid (bb=decide (out.length<XL.length))/\Hid (OutI w W wr v XL)/\Hid (GoodO (ag rs) xo xu XL)) (fun _ _ i _=>xu.length-(intOf i).toNat);case atStart=>exact⟨0,bb,Za,Wd _,rfl,rfl,by show _=_;rw[List.take_zero];show _=bW H (_++[]) out;rw[WS];exact HR.out,Y9,XE,HG2⟩
     clear XE HR Y9 HG2;obtain⟨j,bb,XL,hj,rfl,rfl,HR,Y9,Xv,HG2⟩:=hrel;by_cases hlj:j<xu.length
     ·obtain⟨bU,offU,hadU,⟨y0,y1⟩,hbU⟩:=lK.at0 (HSU3.out.keepC Xv.out.size Xv.out.keep) hlj;obtain⟨bN',offN',hadN',⟨s0,s1,s2⟩,hbN⟩:=Jm.at0 (HSN.out.keepC Xv.out.size Xv.out.keep) hlp;obtain⟨bO',offO',hadO',⟨o0,o1⟩,hbO⟩:=lK.at0 (HSO3.out.keepC Xv.out.size Xv.out.keep) hlq;injection hadN' with hadN';injection hadN' with e1 e2;subst e1;subst e2;injection hadO' with hadO';injection hadO' with e1 e2;subst e1;subst e2;rw[<-HOQ.out]at o0 o1;rw[<-ZL.out]at s0 s1 s2;obtain⟨f,hf⟩:∃f:Fc,f=⟨o.t,o.s,s.rel,xu[j].t,xu[j].s⟩:=⟨_,rfl⟩;have HAT:Hid (jO o s.rel (xu.take (j+1))=jO o s.rel (xu.take j)++[f]):=by show _=_;rw[hf];exact NR o s.rel hlj
      have HFQ:Hid (f∈FL (ag rs) xo xu):=by
       show _∈_;rw[hf];unfold FL jO;refine Wx.2 ⟨o,by rw[HOQ.out];exact VZ hlq,Wx.2 ⟨s.key,HSM.out,Wp.2 ⟨xu[j],VZ hlj,rfl⟩⟩⟩
      have hout4:=HG2.out.len hol hE36 hul;obtain⟨adF4,capF4,rfl,hsF⟩:=jc Xv.out.row;have HSF4:=ax hsF;have f0:o.t=f.a:=by rw[hf]
      have f1:o.s=f.b:=by rw[hf]
      have f2:s.rel=f.r:=by rw[hf]
      have f3:xu[j].t=f.c:=by rw[hf]
      have f4:xu[j].s=f.d:=by rw[hf]
      have HEF:Hid (aj rows=aM (ag rs) f.a f.r):=by show _=_;rw[hf];exact HEX.out
      rw[f3]at y0;rw[f4]at y1;rw[f0]at o0;rw[f1]at o1;rw[f2]at s1;have hj1:=bC j;have hj2:(j:Int)<(xu.length:Int):=by omega
      subst hadU;clear hsF hf f0 f1 f2 f3 f4 s0 s2;obtain⟨W5,YI⟩:∃W5,W5=(wr.alloc (.cells #[.string f.a,.string f.b,.string f.r,.string f.c,.string f.d] 43)).drew:=⟨_,rfl⟩;have Yj:Hid (af wr W5):=by show Below _ _ _;rw[YI];exact((V5 _ _).alloc (V4 _) _).drew
      have g0:W5.cell? ⟨wr.heap.size,0,none⟩=some (.string f.a):=by rw[YI];simp
      have g1:W5.cell? ⟨wr.heap.size,1,none⟩=some (.string f.b):=by rw[YI];simp
      have g2:W5.cell? ⟨wr.heap.size,2,none⟩=some (.string f.r):=by rw[YI];simp
      have g3:W5.cell? ⟨wr.heap.size,3,none⟩=some (.string f.c):=by rw[YI];simp
      have g4:W5.cell? ⟨wr.heap.size,4,none⟩=some (.string f.d):=by rw[YI];simp
      have gl:wr.heap.size<W5.heap.size:=aL g0;have XH:=ax (Xv.out.below Yj.out);go_wp2_with fail
      go_region
      rw[<-YI];clear YI y0 y1 o0 o1 s1 hbU hbN hbO;go_wp2_with fail;refine(oU adF4 capF4 XL f W5 (by omega) (HSF4.out.below Yj.out)).mono ?_;rintro e w6 ⟨rfl,hb6⟩;have YB:=ax (Yj.out.trans (hb6.mono Yj.out.size));have Yf:=ax (XH.out.below hb6);replace g0:=aU hb6 gl g0;replace g1:=aU hb6 gl g1;replace g2:=aU hb6 gl g2;replace g3:=aU hb6 gl g3;replace g4:=aU hb6 gl g4;replace gl:=VY gl hb6.size;have HHF:Hid (H XL f=jI ts (aj rows) XL f rows.length XL (rows.length-1)):=by show _=_;rw[HH.out];unfold ja;rw[<-HEF.out,bf]
      have HRS:Hid (bW H (tJ sts xo xu (n:Int) q++kY sts xu (n:Int) o p++jO o s.rel (xu.take (j+1))) out=fZ H XL f):=by show _=_;rw[HAT.out,<-WE,sV,<-HR.out]
      clear hb6 Yj XH;cases hh:bY XL f;case true=>
       have HR2:Hid (XL=bW H (tJ sts xo xu (n:Int) q++kY sts xu (n:Int) o p++jO o s.rel (xu.take (j+1))) out):=by show _=_;rw[HRS.out,wJ (.inl hh)]
       go_wp2;go_roundw;case rel=>exact⟨j+1,bb,XL,by omega,rfl,by go_num,HR2,Y9,Yf,HG2⟩
       simp[intOf]<;>omega
      have HHH:=ax hh;have hwr:IntKind.i64.wrap ((rows.length:Int)-1)=((rows.length-1:Nat):Int):=by rw[IntKind.wrap_i64];omega
      have Ya:=ax (yJ (.slice ad rs.length cap) XB cap' ts Xw capE rows adF4 capF4 XL f htl Zl.out (by omega) rows.length (rows.length-1) adF4 capF4 XL w6 (by omega) (by omega) (by omega) ⟨HST.out.below Yf.out.bel,HRF.out.sl (HS.out.below Yf.out.bel),HSF4.out.below YB.out,HSF4.out.below YB.out⟩);clear hh;go_wp2_with fail;refine Ya.out.mono ?_;rintro e w7 ⟨he7,ZB⟩;rw[<-HHF.out]at he7;subst he7;have Z4:=ax (Yf.out.below ZB);replace g0:=aU ZB gl g0;replace g1:=aU ZB gl g1;replace g2:=aU ZB gl g2;replace g3:=aU ZB gl g3;replace g4:=aU ZB gl g4;replace gl:=VY gl ZB.size;clear ZB Ya Yf YB hwr;cases hv:H XL f;case false=>
       have HR2:Hid (XL=bW H (tJ sts xo xu (n:Int) q++kY sts xu (n:Int) o p++jO o s.rel (xu.take (j+1))) out):=by show _=_;rw[HRS.out,wJ (.inr hv)]
       go_wp2;go_roundw;case rel=>exact⟨j+1,bb,XL,by omega,rfl,by go_num,HR2,Y9,Z4,HG2⟩
       simp[intOf]<;>omega
      have HST2:Hid (fZ H XL f=XL++[f]):=El HHH.out hv;have HR2:Hid (XL++[f]=bW H (tJ sts xo xu (n:Int) q++kY sts xu (n:Int) o p++jO o s.rel (xu.take (j+1))) out):=by show _=_;rw[HRS.out,HST2.out]
      have HG3:Hid (GoodO (ag rs) xo xu (XL++[f])):=by
       have h1:=HG2.out.run (H:=H) (qs:=[f]) (fun g hg=>by
        rw[Wl]at hg;subst hg;exact HFQ.out)
       rw[show bW H [f] XL=fZ H XL f from rfl,HST2.out]at h1;exact h1
      have HBB2:Hid (true=decide (out.length<(XL++[f]).length)):=by
       show _=_;have h1:=Ik H (tJ sts xo xu (n:Int) q++kY sts xu (n:Int) o p++jO o s.rel (xu.take j)) out;rw[<-HR.out]at h1;rw[Wi];exact(decide_eq_true (by simp;omega)).symm
      obtain⟨W8,Zb⟩:∃W8,W8=w7.alloc (.cells #[.string f.a,.string f.b,.string f.r,.string f.c,.string f.d] 43):=⟨_,rfl⟩;have HO8:Hid (OutI w W W8 (.slice adF4 XL.length capF4) XL):=by show OutI _ _ _ _ _;rw[Zb];exact Z4.out.below ((V5 _ _).alloc (V4 _) _)
      have HN8:Hid (∀j u,f.row[j]?=some u->W8.cell? ((⟨w7.heap.size,0,none⟩:Addr).add j)=some u):=by rw[Zb];exact Ec w7 f
      have hsz8:w.heap.size<=W8.heap.size:=HO8.out.bel.size;clear hv;go_wp2_with(at_builtin;rw[<-Zb];clear Zb;refine wpList_append_own_at _ rfl _ _ 34 rfl w.heap.size 43 iF (.agg #[.string ⟨#[]⟩,.string ⟨#[]⟩,.string ⟨#[]⟩,.string ⟨#[]⟩,.string ⟨#[]⟩]) 5 80 underlying34 HIF.out.1 HIF.out.2.1 HIF.out.2.2.1 HIF.out.2.2.2 rfl (by decide) _ XL.length (aA XL) rfl HO8.out.row ⟨w7.heap.size,0,none⟩ 1 1 f.row rfl rfl HN8.out (by simp[Fc.row,Value.oneCell']) (by unfold maxLen;omega) (by omega) hsz8 ?_);intro v' w9 hown hgr _ hat;have HO9:=ax (HO8.out.app hown hgr hat);clear hown hgr hat g0 g1 g2 g3 g4 gl;go_wp2;go_roundw;case rel=>exact⟨j+1,true,XL++[f],by omega,rfl,by go_num,HR2,HBB2,HO9,HG3⟩
      simp[intOf]<;>omega
     have HR3:Hid (XL=bW H (tJ sts xo xu (n:Int) q++kY sts xu (n:Int) o (p+1)) out):=by show _=_;rw[HKE.out,HR.out,show j=xu.length by omega,Wo,WE]
     go_wp2;go_roundw;case rel=>exact⟨p+1,bb,XL,by omega,rfl,by go_num,HR3,Y9,Xv,HG2⟩
     simp[intOf]<;>omega
    have hb1:(s.n==(n:Int))=false:=by simpa using hn2
    have hb2:decide (s.n=(n:Int))=false:=decide_eq_false hn2;have HKE:Hid (kY sts xu (n:Int) o (p+1)=kY sts xu (n:Int) o p):=HKN.out (by rw[hb2,Bool.and_false]);have XG:∀nq,Hid (OutI w W (wr.drewN nq) u5 Za):=fun nq=>Xv.out.below (below_drewN (V5 _ _) nq);go_wp2_with fail;go_quiet (fail);go_wp2;go_roundw;case rel=>exact⟨p+1,bb,Za,by omega,rfl,by go_num,by rw[HKE.out];exact HR,Y9,XG _,HG2⟩
    simp[intOf]<;>omega
   have HR3:Hid (Za=bW H (tJ sts xo xu (n:Int) (q+1)) out):=by show _=_;rw[HSU4.out,HR.out,show p=sts.length by omega]
   go_wp2;go_roundw;case rel=>exact⟨q+1,bb,Za,by omega,rfl,by go_num,HR3,Y9,Xv,HG2⟩
   simp[intOf]<;>omega
  have hout2:=HG2.out.len hol hE36 hul;have HRQ:Hid (Xy=bW H (Q n) out):=by show _=_;rw[HR.out,<-HQI.out n,show q=xo.length by omega]
  obtain⟨ad2,cap2,rfl,-⟩:=jc Xv.out.row;have HLM2:Hid (pM H (Q n) Xy=A (n+1)):=by show _=_;rw[HRQ.out,Db];exact HLM.out
  have hbl:=Ik H (Q n) out;have HDN2:Hid (bb=false->bW H (Q n) Xy=Xy):=fun hb=>by
   have e:Xy=out:=by
    rw[HRQ.out];refine KI ?_;rw[<-HRQ.out,<-Y9.out];exact hb
   rw[e];rw[HRQ.out]at e;exact e
  have hm:2*(200000-Xy.length)+VM (.bool bb)<2*(200000-out.length)+1:=by
   have h1:=Y9.out;rw[<-HRQ.out]at hbl;cases bb;case true=>have:=of_decide_eq_true h1.symm;simp only[VM];omega
   have:=of_decide_eq_false h1.symm;simp only[VM];omega
  have HM:=ax hm;clear hm hbl;go_wp2;go_roundw;case rel=>exact⟨bb,Xy,rfl,HLM2,HDN2,Xv,HG2⟩
  exact HM.out
 have hne:n=sts.length+1:=by omega
 have Xv:Hid (wr.ownsRow w.heap.size 43 5 u5 (rT st rs ts).length (aA (rT st rs ts))):=by
  show World.ownsRow _ _ _ _ _ _ _;rw[<-Ye.out,<-hne];exact HO.out.row
 have HBE:=ax HO.out.bel;clear HO;go_wp2;go_ret;exact⟨⟨_,rfl,Xv.out⟩,HBE.out⟩
end
end Go.Proofs.YtcgdckphpjfmhaaGreatDoor
