/- Contract of the document's function on strata: the walk. -/
import Derived.Test.YtajkkeikihhejaaGreatSq
import Derived.Test.YtajkkeikihhejaaGreatJ9
import Derived.Test.YtajkkeikihhejaaGreatJ7
open Go.Proofs.Tryz
set_option maxHeartbeats 80000000
namespace Go.Proofs.YtajkkeikihhejaaGreat
open ChangeShapes WideShapes ChangeAt RowKit
open Pl
set_option maxRecDepth 100000 in
theorem wC(ad:Q02)(cap:Nat)(rs:Q06)(w:af)(hlen:rs.length<=6)(hs:j5 w ad rs)(hl:∀r∈rs,r.light)(hrl:∀r∈rs,r.rows.length<=6)(hel:∀r∈rs,∀q∈r.rows,q.rows.length<=15/\∀e∈q.rows,eZ q.rows.length e.e.kids)(hF:Found (ag rs)):
    Calls prog 96 #[.slice ad rs.length cap] w fun e w'=>((∃Wv cap' out,e=.returned (.tuple #[.slice Wv out.length cap',.bool true])/\I6 w' Wv out/\iU out=au (ag rs)/\Least (ag rs) (fT out))\/(e=.returned (.tuple #[.slice none 0 0,.bool false])/\¬ ∃f,Sol (ag rs) f))/\ae w w':=by
  have HS:=aD hs;have HL:=aD hl;have HRL:Hid (∀r∈rs,r.rows.length<=6):=hrl;have Yn:Hid (∀r∈rs,∀q∈r.rows,q.rows.length<=15/\∀e∈q.rows,eZ q.rows.length e.e.kids):=hel;have HF:=aD hF;clear hs hl hrl hel hF;obtain⟨i0,hi,hz0,hz1,hz2⟩:=info_parts RO;go_enter func96,ntmps96;have hbA:Hid (ae w (w.alloc (.cells #[] 162))):=(Vb _ _).alloc (Va _) _;have hown1:Hid ((w.alloc (.cells #[] 162)).ownsRow w.heap.size 162 3 (.slice (some ⟨w.heap.size,0,none⟩) 0 0) 0 []):=World.ownsRow_made w #[] 0 (Va _) (by decide) rfl;go_wp2_with fail;go_loopw[4,5] (fun v i wr=>∃k:Nat,k<=rs.length/\i=.int .i64 k/\Hid (wr.ownsRow w.heap.size 162 3 v (dE rs k).length (iV (G7 (dE rs k))))/\Hid (ae w wr)) (fun _ i _=>rs.length-(intOf i).toNat);case atStart=>exact⟨0,Vf _,rfl,hown1,hbA⟩
  clear hown1 hbA;obtain⟨k,hk,rfl,HOW,HB⟩:=hrel;by_cases hlt:k<rs.length
  · have hk1:=bC k;have hk2:(k:Int)<(rs.length:Int):=by omega
    have HU:Hid ((dE rs k).length<=k*6):=xS rs HRL.out k;have Yw:Hid (rs[k].rows.length<=6):=HRL.out _ (U8 hlt);obtain⟨wo,hwo⟩:∃wo,wo=wr:=⟨_,rfl⟩;subst hwo;go_wp2_with fail;go_loopw[4,6] (fun v i w2=>∃j:Nat,j<=rs[k].rows.length/\i=.int .i64 j/\Hid (w2.ownsRow w.heap.size 162 3 v (dE rs k++jg rs[k] j).length (iV (G7 (dE rs k++jg rs[k] j))))/\Hid (ae w w2)) (fun _ i _=>rs[k].rows.length-(intOf i).toNat);case atStart=>exact⟨0,Vf _,rfl,(by simpa[jg] using HOW),HB⟩
    obtain⟨j,hj,rfl,Wu,HB2⟩:=hrel;rcases HS.out.below HB2.out with rfl|⟨b,off,rfl,hb,hr,hok⟩
    · simp at hlt
    have hbw:b<w.heap.size:=by
      rcases HS.out with h|⟨b',off',e,hb',-⟩
      · rw[h]at hlt;simp at hlt
      · injection e with e;injection e with e1 e2;omega
    obtain⟨t0,t1⟩:=hr k hlt;have X0:Hid (rs[k].ok _):=hok rs[k] (U8 hlt);have HOKW:Hid (rs[k].ok w):=HS.out.mem (U8 hlt);clear hr hok;by_cases hjl:j<rs[k].rows.length
    · rcases X0.out with hnil|⟨b2,WW,had,hb2,hr2,-⟩
      · rw[hnil]at hjl;simp at hjl
      have hbw2:b2<w.heap.size:=by
        rcases HOKW.out with h|⟨b',off',e,hb',-⟩
        · rw[h]at hjl;simp at hjl
        · rw[had]at e;injection e with e;injection e with e1 e2;omega
      have t1':=t1;rw[had]at t1';obtain⟨q0,q1⟩:=hr2 j hjl;have hj1:=bC j;have hj2:(j:Int)<(rs[k].rows.length:Int):=by omega
      have a1:u4.ownBlock≠some b:=fun e=>by have:=(Wu.out.lt _ e).1;omega
      have a2:u4.ownBlock≠some b2:=fun e=>by have:=(Wu.out.lt _ e).1;omega
      have l4:w.heap.size<=wr.heap.size:=HB2.out.size;obtain⟨xs,hxs⟩:∃xs,xs=iV (G7 (dE rs k++jg rs[k] j)):=⟨_,rfl⟩;obtain⟨n,hn⟩:∃n,n=(dE rs k++jg rs[k] j).length:=⟨_,rfl⟩;have hown:=Wu.out;rw[<-hxs,<-hn]at hown;have hnl:n<=1000:=by
        have h1:=HU.out;have h2:=DL rs[k] j;have h3:=Yw.out;rw[hn,Vh];omega
      have HFX:Hid (iV (G7 (dE rs k++jg rs[k] (j+1)))=xs++[.string rs[k].name,.string rs[k].rows[j].name,.int .i64 0]):=by
        show _=_;rw[uG _ _ hjl,<-VD,Pq,Ba,<-hxs];rfl
      have XR:Hid ((dE rs k++jg rs[k] (j+1)).length=n+1):=by show _=_;rw[uG _ _ hjl,<-VD,Vh,<-hn];rfl
      clear hr2 had t1 hxs hn Wu;go_wp2_with fail
      go_region_held3 (fun w'=>w'.cell? ⟨b,off+k*2,none⟩=some (.string rs[k].name)/\w'.cell? ⟨b,off+k*2+1,none⟩=some (.slice (some ⟨b2,WW,none⟩) rs[k].rows.length rs[k].cap)/\w'.cell? ⟨b2,WW+j*2,none⟩=some (.string rs[k].rows[j].name))
        (first
          | go_keep
          | (go_split_ands
             refine⟨?_,?_,?_⟩
             · (rw[hgrow.cell_far _ (by simp;omega) (Ne.symm a1)];assumption)
             · (rw[hgrow.cell_far _ (by simp;omega) (Ne.symm a1)];assumption)
             · (rw[hgrow.cell_far _ (by simp;omega) (Ne.symm a2)];assumption)))
        ((refine step_append_lies _ (by rfl) _ _ _ (by rfl) w.heap.size 162 i0 _ 3 40 underlying158 hi hz0 hz1 hz2 rfl (by omega) u4 n xs (by rfl) ((hown.alloc _).drew)
            ⟨wr.heap.size,0,none⟩ 1 1 [.string rs[k].name,.string rs[k].rows[j].name,.int .i64 0] (by rfl) (by rfl) (World.news_of_block (cs:=#[.string rs[k].name,.string rs[k].rows[j].name,.int .i64 0]) (t:=162) (fr:=(0,0)) (heap_alloc_new wr _)) (by simp[Value.oneCell'])
            (by omega) (by unfold maxLen;omega) (by omega) (by simp;omega) (wr.heap.size+1) (by simp) ?_;intro gg cp w5 hown5 hgrow hat hlt5))
      have hb5:Hid (ae w w5):=((HB2.out.alloc HB2.out.size _).drew).grown hgrow (by simp;omega) (fun i hi=>(hown.lt i hi).1);have WF:Hid (w5.ownsRow w.heap.size 162 3 (.slice (some ⟨gg,0,none⟩) (n+1) cp) (dE rs k++jg rs[k] (j+1)).length (iV (G7 (dE rs k++jg rs[k] (j+1))))):=by
        show World.ownsRow _ _ _ _ _ _ _;rw[HFX.out,XR.out];exact hown5
      have h6:=Yw.out;clear hown5 hgrow hat hown;go_wp2;go_roundw;case rel=>exact⟨j+1,by omega,by go_num,WF,hb5⟩
      simp[intOf]<;>omega
    · obtain rfl:j=rs[k].rows.length:=by omega
      have WF:Hid (wr.ownsRow w.heap.size 162 3 u4 (dE rs (k+1)).length (iV (G7 (dE rs (k+1))))):=by
        show World.ownsRow _ _ _ _ _ _ _;rw[pI _ _ hlt];exact Wu.out
      clear Wu;go_wp2;go_roundw;case rel=>exact⟨k+1,by omega,by go_num,WF,HB2⟩
      simp[intOf]<;>omega
  · obtain rfl:k=rs.length:=by omega
    have YV:Hid (dE rs rs.length=au (ag rs)):=by show _=_;unfold dE;rw[Vs]
    have HN36:Hid ((au (ag rs)).length<=36):=by
      have h1:=xS rs HRL.out rs.length;have h2:=YV.out;show _<=_;rw[<-h2];omega
    obtain⟨n,hn⟩:∃n,n=(au (ag rs)).length:=⟨_,rfl⟩;have hown:=HOW.out;rw[YV.out,<-Ff]at hown;obtain⟨Yp,cpO,g,rfl,hrow⟩:=RQ HB.out hown;have HP0:Hid (Pass (ag rs) n true (G7 (au (ag rs)))):=Pass.zero hn;have XM:=aD hrow;have hn36:n<=36:=by rw[hn];exact HN36.out
    have XR:Hid (n=(au (ag rs)).length):=hn;rw[Ff,<-hn];clear hown HOW hrow hn YV HN36 HB;go_wp2_with fail;go_loopw[7] (fun m w1=>∃(mb:Bool) (out:List St),m=.bool mb/\Hid (Pass (ag rs) n mb out)/\Hid (RowS w w1 Yp g out)) (fun m w1=>DR w1 g n m);case atStart=>exact⟨true,_,rfl,HP0,XM⟩
    clear HP0 XM;obtain⟨mb,oS,rfl,HPS,HRS⟩:=hrel;cases mb;case false=>
      go_wp2;exact bodyPost_ret (v:=.tuple #[.slice Yp n cpO,.bool true]) (by simp[results,Tryz.results96,go_sem]) rfl ⟨.inl ⟨Yp,cpO,oS,by rw[HPS.out.len],HRS.out.slN,HPS.out.round.keys,HPS.out.least⟩,HRS.out.below⟩
    have YQ:Hid (oS.length=n):=HPS.out.len;have HM0:Hid (Mid (ag rs) n oS 0 0 false oS):=Mid.start HPS.out.len HPS.out.nn HPS.out.round HPS.out.le;obtain⟨w0,hw0⟩:∃w0,w0=wr:=⟨_,rfl⟩;subst hw0;go_wp2_with fail;go_loopw[7,8] (fun m i w1=>∃(mb:Bool) (k:Nat) (out:List St),m=.bool mb/\k<=n/\i=.int .i64 k/\Hid (Mid (ag rs) n oS k 0 mb out)/\Hid (RowS w w1 Yp g out)) (fun _ i _=>n-(intOf i).toNat);case atStart=>exact⟨false,0,oS,rfl,Vf _,rfl,HM0,HRS⟩
    clear HM0;obtain⟨mb,k,out,rfl,hk,rfl,HM,HR⟩:=hrel;by_cases hlt:k<n
    · have hko:k<out.length:=by rw[HM.out.len];exact hlt
      have hke:k<(au (ag rs)).length:=by rw[<-XR.out];exact hlt
      have hk1:=bC k;have hk2:(k:Int)<(n:Int):=by omega
      rcases HR.out.at' with e|⟨rfl,hgw,hgl,hO,-⟩
      · rw[e]at hko;simp at hko
      obtain⟨c0,c1,c2⟩:=hO k hko;have HKE:Hid (out[k].key=(au (ag rs))[k]):=HM.out.key hko hke;have Wx:∀w',ae wr w'->j5 w' ad rs:=fun w' h=>HS.out.below (HR.out.below.trans (h.mono HR.out.below.size));have c3:wr.drew.cell? ⟨g,k*3,none⟩=some (.string out[k].typ)/\wr.drew.cell? ⟨g,k*3+1,none⟩=some (.string out[k].rel)/\g<wr.drew.heap.size/\ae wr wr.drew:=⟨c0,c1,hgl,(Vb _ _).drew⟩;clear hO c2;go_wp2_with fail
      go_region_held3 (fun w'=>w'.cell? ⟨g,k*3,none⟩=some (.string out[k].typ)/\w'.cell? ⟨g,k*3+1,none⟩=some (.string out[k].rel)/\g<w'.heap.size/\ae wr w')
        (first|exact c3|assumption|exact keepD (by assumption) hbx)
        (first|(go_at_call 97;refine(iM ad cap rs _ _ _ (by omega) (Wx _ (by first|assumption|exact c3.2.2.2)) HL.out).mono ?_;rintro e w' ⟨⟨rows,Ws,capE,rfl,hex,hse,hfs⟩,rfl⟩)|(go_at_call 139;refine(I9 ad Ws cap capE rs _ rows _ (by omega) (Wx _ (by first|assumption|exact c3.2.2.2)) HL.out (hfs.small Yn.out).1 hse (hfs.light HL.out).2 (hfs.small Yn.out).2 (Be rs HL.out _ rows (hfs.small Yn.out).1 (hfs.light HL.out).2)).mono ?_;rintro e w' ⟨⟨v,rfl,hown⟩,hbx⟩))
      rename_i hHeld;have XH:Hid (ae wr w'):=hHeld.2.2.2;have WR:Hid (RowS w w' (some ⟨g,0,none⟩) g out):=HR.out.kept hHeld.2.2.2;have HDK:Hid (qh (ag rs) out[k].typ (ak rows)=iG (ag rs) (au (ag rs))[k]):=by
        show _=_;rw[<-HKE.out,hex];rfl
      obtain⟨ds,hds⟩:∃ds,ds=iG (ag rs) (au (ag rs))[k]:=⟨_,rfl⟩;rw[HDK.out,<-hds]at hown;obtain⟨adD,cpD,rfl,hD⟩:=UK hown;have HD5:=aD hD;have hdl:ds.length<=100000000:=by
        have:=Be rs HL.out out[k].typ rows (hfs.small Yn.out).1 (hfs.light HL.out).2 (ak rows).length;have e:=HDK.out;unfold qh at e;rw[e,<-hds]at this;exact this
      have HDS:Hid (ds=iG (ag rs) (au (ag rs))[k]):=hds;have HKM:Hid ((au (ag rs))[k]∈au (ag rs)):=U8 hke;clear hHeld hown hD hds HDK c0 c1 c3 hex hse hfs hbx Wx HKE;obtain⟨wq,hwq⟩:∃wq,wq=wr:=⟨_,rfl⟩;subst hwq;go_wp2_with fail;go_loopw[7,10] (fun m i w2=>∃(mb:Bool) (j:Nat) (o2:List St),m=.bool mb/\j<=ds.length/\i=.int .i64 j/\Hid (Mid (ag rs) n oS k j mb o2)/\Hid (RowS w w2 (some ⟨g,0,none⟩) g o2)/\Hid (Td w2 wq.heap.size adD ds)) (fun _ i _=>ds.length-(intOf i).toNat);case atStart=>exact⟨mb,0,out,rfl,Vf _,rfl,HM,WR,HD5⟩
      clear HM HR WR HD5 XH;obtain⟨mc,j,o2,rfl,hj,rfl,Xm,HR2,HD2⟩:=hrel;have XT:k<o2.length:=by rw[Xm.out.len];exact hlt
      rcases HR2.out.at' with e|⟨-,hgw2,hgl2,hO2,hfz2⟩
      · rw[e]at XT;simp at XT
      have f2:=hfz2 (k*3+2);obtain⟨z0,z1,z2⟩:=hO2 k XT;by_cases hjl:j<ds.length
      · rcases HD2.out with e|⟨bd,rfl,hbd,hbl,hDc⟩
        · rw[e]at hjl;simp at hjl
        obtain⟨x0,x1,x2⟩:=hDc j hjl;have HKE2:Hid (o2[k].key=(au (ag rs))[k]):=Xm.out.key XT hke;have HDJ:Hid ((iG (ag rs) o2[k].key)[j]?=some ds[j]):=by
          show _=_;rw[HKE2.out,<-HDS.out];exact Vg hjl
        have HDF:Hid ((ds[j].typ,ds[j].rel)∈au (ag rs)):=HF.out _ HKM.out ds[j] (by rw[<-HDS.out];exact U8 hjl);obtain⟨i,hi2,hat,hin,hpos,hub⟩:=Xm.out.at _ HDF.out;obtain⟨y0,y1,y2⟩:=hO2 i hi2;have hi3:i<n:=by rw[<-Xm.out.len];exact hi2
        have HW:Hid (pM o2 ds[j]=fT o2 (ds[j].typ,ds[j].rel)+stepOf ds[j]):=rfl;have HL2:Hid (o2.length=n):=Xm.out.len;have HSN:Hid (I6 wr (some ⟨g,0,none⟩) o2):=HR2.out.slN;rw[hin]at y2;obtain⟨x,hx⟩:∃x,x=fT o2 (ds[j].typ,ds[j].rel):=⟨_,rfl⟩;have HX:Hid (pM o2 ds[j]=x+stepOf ds[j]):=by rw[hx];exact HW
        rw[<-hx]at hpos hub y2;obtain⟨kn,hkn⟩:∃kn,kn=o2[k].n:=⟨_,rfl⟩;rw[<-hkn]at z2;have HKN:Hid (kn=o2[k].n):=hkn;have hkn1:0<=kn:=by rw[hkn];exact Xm.out.round.pos _ (U8 XT)
        have hkn2:kn<=n+1+j:=by rw[hkn];exact Xm.out.lek XT
        have hj1:=bC j;have hj2:(j:Int)<(ds.length:Int):=by omega
        have hi4:=bC i;have hi5:(i:Int)<(n:Int):=by omega
        have HAT:Hid (il ds[j].typ ds[j].rel o2 0=(i:Int)):=hat;have hx5:(2:Int)<5:=by omega
        clear hfz2 hO2 hDc hx hkn hin y0 y1 hi2 HW hat z0 z1;go_wp2_with fail
        go_region_held3 (fun w'=>w'.cell? ⟨bd,j*3,none⟩=some (.string ds[j].typ)/\w'.cell? ⟨bd,j*3+1,none⟩=some (.string ds[j].rel)/\w'.cell? ⟨g,i*3+2,none⟩=some (.int .i64 x))
          (first|assumption|exact⟨x0,x1,y2⟩)
          (first|(go_at_call 140;refine(TP (some ⟨g,0,none⟩) cpO n o2 (ds[j].typ,ds[j].rel) _ HL2.out (by omega) (by first|exact HSN.out|assumption) i HAT.out).mono ?_;rintro e w' ⟨rfl,rfl⟩))
        rename_i hHeld2;have HR3:Hid (RowS w wr.drew (some ⟨g,0,none⟩) g o2):=HR2.out.kept ((Vb _ _).drew);have HD3:Hid (Td wr.drew wq.heap.size (some ⟨bd,0,none⟩) ds):=HD2.out;clear hHeld2 x0 x1 y2;cases hneg:ds[j].neg
        case' true =>
          have Y6:Hid (pM o2 ds[j]=x+1):=by show _=_;rw[HX.out];simp[stepOf,hneg]
          rw[hneg]at x2;by_cases hgt:kn<x+1
          · have HM3:Hid (Mid (ag rs) n oS k (j+1) true (o2.set k ⟨o2[k].typ,o2[k].rel,x+1⟩)):=by
              have:=Xm.out.yes HF.out XT ds[j] HDJ.out (by rw[Y6.out,<-HKN.out];exact hgt);rw[Y6.out]at this;exact this
            have HR4:Hid (RowS w (wr.drew.setCell ⟨g,k*3+2,none⟩ (.int .i64 (x+1))) (some ⟨g,0,none⟩) g (o2.set k ⟨o2[k].typ,o2[k].rel,x+1⟩)):=HR3.out.set XT (x+1);have HD4:Hid (Td (wr.drew.setCell ⟨g,k*3+2,none⟩ (.int .i64 (x+1))) wq.heap.size (some ⟨bd,0,none⟩) ds):=HD3.out.set hgl;clear Xm HR2 HR3 HD2 HD3;go_wp2;go_roundw;case rel=>exact⟨true,j+1,_,rfl,by omega,by go_num,HM3,HR4,HD4⟩
            simp[intOf]<;>omega
        case' false =>
          have Y6:Hid (pM o2 ds[j]=x):=by show _=_;rw[HX.out];simp[stepOf,hneg]
          rw[hneg]at x2;by_cases hgt:kn<x
          · have HM3:Hid (Mid (ag rs) n oS k (j+1) true (o2.set k ⟨o2[k].typ,o2[k].rel,x⟩)):=by
              have:=Xm.out.yes HF.out XT ds[j] HDJ.out (by rw[Y6.out,<-HKN.out];exact hgt);rw[Y6.out]at this;exact this
            have HR4:Hid (RowS w (wr.drew.setCell ⟨g,k*3+2,none⟩ (.int .i64 (x))) (some ⟨g,0,none⟩) g (o2.set k ⟨o2[k].typ,o2[k].rel,x⟩)):=HR3.out.set XT (x);have HD4:Hid (Td (wr.drew.setCell ⟨g,k*3+2,none⟩ (.int .i64 (x))) wq.heap.size (some ⟨bd,0,none⟩) ds):=HD3.out.set hgl;clear Xm HR2 HR3 HD2 HD3;go_wp2;go_roundw;case rel=>exact⟨true,j+1,_,rfl,by omega,by go_num,HM3,HR4,HD4⟩
            simp[intOf]<;>omega
        all_goals
          · have HM3:Hid (Mid (ag rs) n oS k (j+1) mc o2):=Xm.out.no XT ds[j] HDJ.out (by rw[Y6.out,<-HKN.out];omega);clear Xm HR2 HD2;go_wp2;go_roundw;case rel=>exact⟨mc,j+1,o2,rfl,by omega,by go_num,HM3,HR3,HD3⟩
            simp[intOf]<;>omega
      · obtain rfl:j=ds.length:=by omega
        have HKE2:Hid (o2[k].key=(au (ag rs))[k]):=Xm.out.key XT hke;have HJ:Hid (ds.length=(iG (ag rs) o2[k].key).length):=by show _=_;rw[HKE2.out,<-HDS.out]
        clear z0 z1 hO2 hfz2 f2;by_cases hov:(n:Int)<o2[k].n
        · have XI:Hid (¬ ∃f,Sol (ag rs) f):=Xm.out.over HF.out XT hov;have hkn2:o2[k].n<=n+1+ds.length:=Xm.out.lek XT;go_wp2;exact bodyPost_ret (v:=.tuple #[.slice none 0 0,.bool false]) (by simp[results,Tryz.results96,go_sem]) rfl ⟨.inr ⟨rfl,XI.out⟩,HR2.out.below⟩
        · have HM3:Hid (Mid (ag rs) n oS (k+1) 0 mc o2):=Xm.out.next XT HJ.out (by omega);clear Xm;go_wp2;go_roundw;case rel=>exact⟨mc,k+1,o2,rfl,by omega,by go_num,HM3,HR2⟩
          simp[intOf]<;>omega
    · obtain rfl:k=n:=by omega
      have WB:Hid (Pass (ag rs) k mb out):=HM.out.done rfl;have HLS:Hid (DR wr g k (.bool mb)<DR w0 g k (.bool true)):=JN HRS.out HR.out HM.out YQ.out;go_wp2;go_roundw;case rel=>exact⟨mb,out,rfl,WB,HR⟩
      exact HLS.out
open Maps
set_option linter.unusedVariables false
set_option maxRecDepth 100000
theorem Fs(v0:Value)(Yo:Q02)(XU:Nat)(ts:Q05)(Ws:Q02)(capE:Nat)(rows:Q08)(n:Nat)(adK:Q02)(capK:Nat)(known:Q04)(Xf:Q02)(WJ:Nat)(truth:Q04)(f:Fc)(w:af)(hW:HW w Yo ts Ws rows adK known Xf truth)(hn:n<rows.length)(hre:rows.length<=1000)(hkl:known.length<=1048576)(htl:ts.length<=1048576)(hk:rows[n].e.kind=3):
  Calls prog 98 #[v0,.slice Yo ts.length XU,.slice Ws rows.length capE,.int .i64 (n:Int),.slice adK known.length capK,.slice Xf truth.length WJ,.agg #[.string f.a,.string f.b,.string f.r,.string f.c,.string f.d]] w fun e w'=>e=.returned (.bool (gp ts known rows[n].e.over rows[n].e.name f))/\ae w w':=by
 obtain⟨b,off,Wt,⟨t0,t1,t2,t3,t4⟩,hbl,-⟩:=ik.at0 hW.ex hn;have HW0:=ai hW;obtain⟨W0,hW0⟩:∃W0,W0=vX w f rows[n]:=⟨_,rfl⟩;have HB0:Hid (ae w W0):=by show Below _ _ _;rw[hW0];exact eu _ _ _
 have YV:Hid (EnB W0 w.heap.size f rows[n]):=by show EnB _ _ _ _;rw[hW0];exact gy _ _ _
 have hk1:(rows[n].e.kind==1)=false:=by rw[hk];rfl
 have hk2:(rows[n].e.kind==2)=false:=by rw[hk];rfl
 have hk3:(rows[n].e.kind==3)=true:=by rw[hk];rfl
 have hn1:=bC n;have hn2:(n:Int)<(rows.length:Int):=by omega
 unfold vX at hW0;rw[Wt];clear Wt hW hk;go_enter func98,ntmps98;go_wp2_with fail;rw[<-hW0];clear hW0 t0 t1 t2 t3 t4;go_loopw[18] (fun i wr=>∃k:Nat,k<=ts.length/\i=.int .i64 k/\Hid (gp (ts.drop k) known rows[n].e.over rows[n].e.name f=gp ts known rows[n].e.over rows[n].e.name f)/\Hid (ae W0 wr)) (fun i _=>ts.length-(intOf i).toNat);case atStart=>exact⟨0,Vf _,rfl,rfl,Vb _ _⟩
 obtain⟨k,hk,rfl,HP,HB⟩:=hrel;have Wx:Hid (ae w wr):=HB0.out.trans (HB.out.mono HB0.out.size);by_cases hlt:k<ts.length
 ·obtain⟨bT,offT,Yh,⟨a0,a1,a2,a3,a4,a5⟩,hbT⟩:=Sl.at0 (HW0.out.tup.below Wx.out) hlt;have hE:=YV.out.below HB.out;have e0:=hE.f0;have e1:=hE.f1;have e2:=hE.f2;have e3:=hE.f3;have e4:=hE.f4;have el:w.heap.size<wr.heap.size:=by have:=hE.lt;omega
  have el2:w.heap.size+1<wr.heap.size:=hE.lt;have g2:=hE.x2;have g3:=hE.x3;have hi1:=bC k;have hi2:(k:Int)<(ts.length:Int):=by omega
  obtain⟨W1,hW1⟩:∃W1,W1=wr.alloc (.cells #[.string ts[k].a,.string ts[k].b,.string ts[k].r,.string ts[k].c,.string ts[k].d,.string ts[k].s] 46):=⟨_,rfl⟩;have WZ:=mi hW1;have HB1:Hid (ae W0 W1):=HB.out.trans (WZ.out.mono HB.out.size);have XF:Hid (ae w W1):=Wx.out.trans (WZ.out.mono Wx.out.size);have HD:Hid (gp ts known rows[n].e.over rows[n].e.name f=(DD known rows[n].e.over rows[n].e.name f ts[k] || gp (ts.drop (k+1)) known rows[n].e.over rows[n].e.name f)):=by show _=_;rw[<-HP.out];exact JD hlt known _ _ f
  rw[Yh];clear Yh hE;cases ho:yz ts[k].a ts[k].b f.a f.b;case false=>
   have hoeq:=iH _ _ _ _ ho;have WB:Hid (gp (ts.drop (k+1)) known rows[n].e.over rows[n].e.name f=gp ts known rows[n].e.over rows[n].e.name f):=by
    show _=_;unfold yz at ho;rw[HD.out];unfold DD;rw[ho];rfl
   clear ho;go_wp2;rw[<-hW1];clear hW1;go_roundw;case rel=>exact⟨k+1,by omega,by go_num,WB,HB1⟩
   simp[intOf]<;>omega
  have hoeq:=iH _ _ _ _ ho;have HO:Hid (yz ts[k].a ts[k].b f.a f.b=true):=ho;clear ho;cases hr:(ts[k].r.toList==rows[n].e.over.toList);case false=>
   have WB:Hid (gp (ts.drop (k+1)) known rows[n].e.over rows[n].e.name f=gp ts known rows[n].e.over rows[n].e.name f):=by
    show _=_;have h2:=HO.out;unfold yz at h2;rw[HD.out];unfold DD;rw[h2,hr];rfl
   go_wp2;rw[<-hW1];clear hW1;go_roundw;case rel=>exact⟨k+1,by omega,by go_num,WB,HB1⟩
   simp[intOf]<;>omega
  have HT2:Hid (DD known rows[n].e.over rows[n].e.name f ts[k]=bB known ⟨ts[k].c,ts[k].d,rows[n].e.name,f.c,f.d⟩):=by
   show _=_;have h2:=HO.out;unfold yz at h2;unfold DD;rw[h2,hr];rfl
  go_wp2_with fail;rw[<-hW1];clear hW1;refine(oz adK capK known ⟨ts[k].c,ts[k].d,rows[n].e.name,f.c,f.d⟩ W1 hkl (HW0.out.kn.below XF.out)).mono ?_;rintro e w2 ⟨rfl,hb2⟩;have HB2:=jF HB1 hb2;have HBW2:=jF XF hb2;clear hb2;cases hh:bB known ⟨ts[k].c,ts[k].d,rows[n].e.name,f.c,f.d⟩;case true=>
   have HN:Hid (gp ts known rows[n].e.over rows[n].e.name f=true):=by show _=_;rw[HD.out,HT2.out,hh];rfl
   go_wp2;go_ret;exact⟨by rw[HN.out];rfl,HBW2.out⟩
  have WB:Hid (gp (ts.drop (k+1)) known rows[n].e.over rows[n].e.name f=gp ts known rows[n].e.over rows[n].e.name f):=by show _=_;rw[HD.out,HT2.out,hh];rfl
  go_wp2;go_roundw;case rel=>exact⟨k+1,by omega,by go_num,WB,HB2⟩
  simp[intOf]<;>omega
 have HN:Hid (gp ts known rows[n].e.over rows[n].e.name f=false):=by show _=_;rw[<-HP.out,Vt (by omega)];rfl
 go_wp2;go_ret;exact⟨by rw[HN.out];rfl,Wx.out⟩
open Go.Sort
theorem MI(p:Int->Bool){zs:List Int}{k:Nat}(h:k<zs.length):(zs.drop k).any p=(p zs[k] || (zs.drop (k+1)).any p):=by rw[VG h];rfl
theorem MJ(p:Int->Bool){zs:List Int}{k:Nat}(h:k<zs.length):(zs.drop k).all p=(p zs[k]&&(zs.drop (k+1)).all p):=by rw[VG h];rfl
def Pz(v0 vT vE vK vR:Value)(f:Fc)(w:World)(i:Int)(b:Bool):Prop:=∀w1:World,ae w w1->Calls prog 98 #[v0,vT,vE,.int .i64 i,vK,vR,.agg #[.string f.a,.string f.b,.string f.r,.string f.c,.string f.d]] w1 fun e w'=>e=.returned (.bool b)/\ae w1 w'
theorem CE(H:Int->Bool)(v0 vT:Value)(Ws:Q02)(capE:Nat)(rows:Q08)(n:Nat)(vK vR:Value)(f:Fc)(w:af)(hex:ik w Ws rows)(hn:n<rows.length)(hre:rows.length<=1000)(hkl:rows[n].e.kids.length<=1000)(hk:rows[n].e.kind=4)(ZJ:∀i∈rows[n].e.kids,Pz v0 vT (.slice Ws rows.length capE) vK vR f w i (H i)):
  Calls prog 98 #[v0,vT,.slice Ws rows.length capE,.int .i64 (n:Int),vK,vR,.agg #[.string f.a,.string f.b,.string f.r,.string f.c,.string f.d]] w fun e w'=>e=.returned (.bool (rows[n].e.kids.any H))/\ae w w':=by
 obtain⟨b,off,Wt,⟨t0,t1,t2,t3,t4⟩,hbl,hok⟩:=ik.at0 hex hn;have HK:=ai hok.2;have HIH:=ai ZJ;obtain⟨W0,hW0⟩:∃W0,W0=vX w f rows[n]:=⟨_,rfl⟩;have HB0:Hid (ae w W0):=by show Below _ _ _;rw[hW0];exact eu _ _ _
 have YV:Hid (EnB W0 w.heap.size f rows[n]):=by show EnB _ _ _ _;rw[hW0];exact gy _ _ _
 have hk1:(rows[n].e.kind==1)=false:=by rw[hk];rfl
 have hk2:(rows[n].e.kind==2)=false:=by rw[hk];rfl
 have hk3:(rows[n].e.kind==3)=false:=by rw[hk];rfl
 have hk4:(rows[n].e.kind==4)=true:=by rw[hk];rfl
 have hn1:=bC n;have hn2:(n:Int)<(rows.length:Int):=by omega
 unfold vX at hW0;rw[Wt]at HIH⊢;clear Wt hex hk ZJ hok;go_enter func98,ntmps98;go_wp2_with fail;rw[<-hW0];clear hW0 t0 t1 t2 t3 t4;go_loopw[20] (fun i wr=>∃k:Nat,k<=rows[n].e.kids.length/\i=.int .i64 k/\Hid ((rows[n].e.kids.drop k).any H=rows[n].e.kids.any H)/\Hid (ae W0 wr)) (fun i _=>rows[n].e.kids.length-(intOf i).toNat);case atStart=>exact⟨0,Vf _,rfl,rfl,Vb _ _⟩
 obtain⟨k,hk,rfl,HP,HB⟩:=hrel;have Wx:Hid (ae w wr):=HB0.out.trans (HB.out.mono HB0.out.size);have hE:=YV.out.below HB.out;have e0:=hE.f0;have e1:=hE.f1;have e2:=hE.f2;have e3:=hE.f3;have e4:=hE.f4;have y4:=hE.x4;have el2:w.heap.size+1<wr.heap.size:=hE.lt;clear hE;by_cases hlt:k<rows[n].e.kids.length
 ·obtain⟨bK,ZK,WX,z0,hbK⟩:=sZ.at0 (HK.out.below Wx.out) hlt;rw[WX]at y4;have hi1:=bC k;have hi2:(k:Int)<(rows[n].e.kids.length:Int):=by omega
  have HD:Hid (rows[n].e.kids.any H=(H rows[n].e.kids[k] || (rows[n].e.kids.drop (k+1)).any H)):=by show _=_;rw[<-HP.out];exact MI H hlt
  have HC:=ai (HIH.out _ (U8 hlt));obtain⟨q,hq⟩:∃q,H rows[n].e.kids[k]=q:=⟨_,rfl⟩;rw[hq]at HC HD;have HCL:Hid (∀d os,Calls prog 98 #[v0,vT,.slice (some ⟨b,off,none⟩) rows.length capE,.int .i64 rows[n].e.kids[k],vK,vR,.agg #[.string f.a,.string f.b,.string f.r,.string f.c,.string f.d]] (grow (redrawn wr d) os) fun e w''=>e=.returned (.bool q)/\∃p:Regrown,w''=grow (redrawn wr p.d) p.os):=by
   refine dA fun W' hb=>?_;exact HC.out W' (Wx.out.trans (hb.mono Wx.out.size))
  clear WX hq HC;go_wp2_with fail;replace e0:=cell_regrown e0;replace e1:=cell_regrown e1;replace e2:=cell_regrown e2;replace e3:=cell_regrown e3;replace e4:=cell_regrown e4;replace y4:=cell_regrown y4;replace z0:=cell_regrown z0;refine wp_region_quiet_below (by kernel_rfl) (by kernel_rfl) ?_
  repeat(go_big_quiet_step (exact HCL.out _ _))
  refine wpQuiet_nil ?_;rintro _ ⟨⟨dq,osq⟩,rfl⟩;have HB2:=ai (HB.out.trans ((below_regrown wr dq osq).mono HB.out.size));clear HCL e0 e1 e2 e3 e4 y4 z0;cases q;case true=>
   have HN:Hid (rows[n].e.kids.any H=true):=by show _=_;rw[HD.out];rfl
   go_wp2;go_ret;exact⟨by rw[HN.out];rfl,HB0.out.trans (HB2.out.mono HB0.out.size)⟩
  have WB:Hid ((rows[n].e.kids.drop (k+1)).any H=rows[n].e.kids.any H):=by show _=_;rw[HD.out];rfl
  go_wp2;go_roundw;case rel=>exact⟨k+1,by omega,by go_num,WB,HB2⟩
  simp[intOf]<;>omega
 have HN:Hid (rows[n].e.kids.any H=false):=by show _=_;rw[<-HP.out,Vt (by omega)];rfl
 go_wp2;go_ret;exact⟨by rw[HN.out];rfl,Wx.out⟩
theorem Fu(H:Int->Bool)(v0 vT:Value)(Ws:Q02)(capE:Nat)(rows:Q08)(n:Nat)(vK vR:Value)(f:Fc)(w:af)(hex:ik w Ws rows)(hn:n<rows.length)(hre:rows.length<=1000)(hkl:rows[n].e.kids.length<=1000)(hk:rows[n].e.kind=5)(ZJ:∀i∈rows[n].e.kids,Pz v0 vT (.slice Ws rows.length capE) vK vR f w i (H i)):
  Calls prog 98 #[v0,vT,.slice Ws rows.length capE,.int .i64 (n:Int),vK,vR,.agg #[.string f.a,.string f.b,.string f.r,.string f.c,.string f.d]] w fun e w'=>e=.returned (.bool (rows[n].e.kids.all H))/\ae w w':=by
 obtain⟨b,off,Wt,⟨t0,t1,t2,t3,t4⟩,hbl,hok⟩:=ik.at0 hex hn;have HK:=ai hok.2;have HIH:=ai ZJ;obtain⟨W0,hW0⟩:∃W0,W0=vX w f rows[n]:=⟨_,rfl⟩;have HB0:Hid (ae w W0):=by show Below _ _ _;rw[hW0];exact eu _ _ _
 have YV:Hid (EnB W0 w.heap.size f rows[n]):=by show EnB _ _ _ _;rw[hW0];exact gy _ _ _
 have hk1:(rows[n].e.kind==1)=false:=by rw[hk];rfl
 have hk2:(rows[n].e.kind==2)=false:=by rw[hk];rfl
 have hk3:(rows[n].e.kind==3)=false:=by rw[hk];rfl
 have hk4:(rows[n].e.kind==4)=false:=by rw[hk];rfl
 have hk5:(rows[n].e.kind==5)=true:=by rw[hk];rfl
 have hn1:=bC n;have hn2:(n:Int)<(rows.length:Int):=by omega
 unfold vX at hW0;rw[Wt]at HIH⊢;clear Wt hex hk ZJ hok;go_enter func98,ntmps98;go_wp2_with fail;rw[<-hW0];clear hW0 t0 t1 t2 t3 t4;go_loopw[21] (fun i wr=>∃k:Nat,k<=rows[n].e.kids.length/\i=.int .i64 k/\Hid ((rows[n].e.kids.drop k).all H=rows[n].e.kids.all H)/\Hid (ae W0 wr)) (fun i _=>rows[n].e.kids.length-(intOf i).toNat);case atStart=>exact⟨0,Vf _,rfl,rfl,Vb _ _⟩
 obtain⟨k,hk,rfl,HP,HB⟩:=hrel;have Wx:Hid (ae w wr):=HB0.out.trans (HB.out.mono HB0.out.size);have hE:=YV.out.below HB.out;have e0:=hE.f0;have e1:=hE.f1;have e2:=hE.f2;have e3:=hE.f3;have e4:=hE.f4;have y4:=hE.x4;have el2:w.heap.size+1<wr.heap.size:=hE.lt;clear hE;by_cases hlt:k<rows[n].e.kids.length
 ·obtain⟨bK,ZK,WX,z0,hbK⟩:=sZ.at0 (HK.out.below Wx.out) hlt;rw[WX]at y4;have hi1:=bC k;have hi2:(k:Int)<(rows[n].e.kids.length:Int):=by omega
  have HD:Hid (rows[n].e.kids.all H=(H rows[n].e.kids[k]&&(rows[n].e.kids.drop (k+1)).all H)):=by show _=_;rw[<-HP.out];exact MJ H hlt
  have HC:=ai (HIH.out _ (U8 hlt));obtain⟨q,hq⟩:∃q,H rows[n].e.kids[k]=q:=⟨_,rfl⟩;rw[hq]at HC HD;have HCL:Hid (∀d os,Calls prog 98 #[v0,vT,.slice (some ⟨b,off,none⟩) rows.length capE,.int .i64 rows[n].e.kids[k],vK,vR,.agg #[.string f.a,.string f.b,.string f.r,.string f.c,.string f.d]] (grow (redrawn wr d) os) fun e w''=>e=.returned (.bool q)/\∃p:Regrown,w''=grow (redrawn wr p.d) p.os):=by
   refine dA fun W' hb=>?_;exact HC.out W' (Wx.out.trans (hb.mono Wx.out.size))
  clear WX hq HC;go_wp2_with fail;replace e0:=cell_regrown e0;replace e1:=cell_regrown e1;replace e2:=cell_regrown e2;replace e3:=cell_regrown e3;replace e4:=cell_regrown e4;replace y4:=cell_regrown y4;replace z0:=cell_regrown z0;refine wp_region_quiet_below (by kernel_rfl) (by kernel_rfl) ?_
  repeat(go_big_quiet_step (exact HCL.out _ _))
  refine wpQuiet_nil ?_;rintro _ ⟨⟨dq,osq⟩,rfl⟩;have HB2:=ai (HB.out.trans ((below_regrown wr dq osq).mono HB.out.size));clear HCL e0 e1 e2 e3 e4 y4 z0;cases q;case false=>
   have HN:Hid (rows[n].e.kids.all H=false):=by show _=_;rw[HD.out];rfl
   go_wp2;go_ret;exact⟨by rw[HN.out];rfl,HB0.out.trans (HB2.out.mono HB0.out.size)⟩
  have WB:Hid ((rows[n].e.kids.drop (k+1)).all H=rows[n].e.kids.all H):=by show _=_;rw[HD.out];rfl
  go_wp2;go_roundw;case rel=>exact⟨k+1,by omega,by go_num,WB,HB2⟩
  simp[intOf]<;>omega
 have HN:Hid (rows[n].e.kids.all H=true):=by show _=_;rw[<-HP.out,Vt (by omega)];rfl
 go_wp2;go_ret;exact⟨by rw[HN.out];rfl,Wx.out⟩
theorem Hg(b0 b1:Bool)(v0 vT:Value)(Ws:Q02)(capE:Nat)(rows:Q08)(n:Nat)(vK vR:Value)(f:Fc)(w:af)(hex:ik w Ws rows)(hn:n<rows.length)(hre:rows.length<=1000)(hkl:rows[n].e.kids.length<=1000)(hk2:2<=rows[n].e.kids.length)(hk:rows[n].e.kind=6)(hA:Pz v0 vT (.slice Ws rows.length capE) vK vR f w (rows[n].e.kids.getD 0 0) b0)(hB:Pz v0 vT (.slice Ws rows.length capE) vR vR f w (rows[n].e.kids.getD 1 0) b1):
  Calls prog 98 #[v0,vT,.slice Ws rows.length capE,.int .i64 (n:Int),vK,vR,.agg #[.string f.a,.string f.b,.string f.r,.string f.c,.string f.d]] w fun e w'=>e=.returned (.bool (b0 && !b1))/\ae w w':=by
 obtain⟨b,off,Wt,⟨t0,t1,t2,t3,t4⟩,hbl,hok⟩:=ik.at0 hex hn;have h0k:0<rows[n].e.kids.length:=by omega
 have h1k:1<rows[n].e.kids.length:=by omega
 obtain⟨bK,ZK,WX,z0,hbK⟩:=sZ.at0 hok.2 h0k;have z1:w.cell? ⟨bK,ZK+1,none⟩=some (.int .i64 rows[n].e.kids[1]):=by
  obtain⟨b',off',Yl,z1,-⟩:=sZ.at0 hok.2 h1k;rw[WX]at Yl;injection Yl with e;injection e with e1 e2;rw[e1,e2];exact z1
 obtain⟨i0,hi0⟩:∃i,i=rows[n].e.kids[0]:=⟨_,rfl⟩;obtain⟨i1,hi1⟩:∃i,i=rows[n].e.kids[1]:=⟨_,rfl⟩;have g0:rows[n].e.kids.getD 0 0=i0:=by rw[hi0,VH,Vg h0k];rfl
 have g1:rows[n].e.kids.getD 1 0=i1:=by rw[hi1,VH,Vg h1k];rfl
 rw[g0]at hA;rw[g1]at hB;rw[<-hi0,Nat.add_zero]at z0;rw[<-hi1]at z1;clear hi0 hi1 g0 g1;obtain⟨kl,hkl'⟩:∃kl,kl=rows[n].e.kids.length:=⟨_,rfl⟩;obtain⟨cK,hcK⟩:∃c,c=rows[n].capK:=⟨_,rfl⟩;have hl0:(0:Int)<(kl:Int):=by omega
 have hl1:(1:Int)<(kl:Int):=by omega
 have h0k':0<kl:=by omega
 have h1k':1<kl:=by omega
 have HA:=ai hA;have Yq:=ai hB;obtain⟨W0,hW0⟩:∃W0,W0=vX w f rows[n]:=⟨_,rfl⟩;have HB0:Hid (ae w W0):=by show Below _ _ _;rw[hW0];exact eu _ _ _
 have YV:Hid (EnB W0 w.heap.size f rows[n]):=by show EnB _ _ _ _;rw[hW0];exact gy _ _ _
 have HZ:Hid (W0.cell? ⟨bK,ZK,none⟩=some (.int .i64 i0)/\W0.cell? ⟨bK,ZK+1,none⟩=some (.int .i64 i1)/\bK<W0.heap.size):=⟨(HB0.out.cell (p:=⟨bK,ZK,none⟩) hbK).trans z0,(HB0.out.cell (p:=⟨bK,ZK+1,none⟩) hbK).trans z1,U9 hbK HB0.out.size⟩;have HX4:Hid (W0.cell? ⟨w.heap.size+1,4,none⟩=some (.slice (some ⟨bK,ZK,none⟩) kl cK)):=by show _=_;rw[YV.out.x4,WX,<-hkl',<-hcK]
 have hk1:(rows[n].e.kind==1)=false:=by rw[hk];rfl
 have hk2:(rows[n].e.kind==2)=false:=by rw[hk];rfl
 have hk3:(rows[n].e.kind==3)=false:=by rw[hk];rfl
 have hk4:(rows[n].e.kind==4)=false:=by rw[hk];rfl
 have hk5:(rows[n].e.kind==5)=false:=by rw[hk];rfl
 have hk6:(rows[n].e.kind==6)=true:=by rw[hk];rfl
 have hn1:=bC n;have hn2:(n:Int)<(rows.length:Int):=by omega
 unfold vX at hW0;rw[Wt]at HA Yq⊢;clear Wt hex hk hA hB hok z0 z1 WX h0k h1k;go_enter func98,ntmps98;go_wp2_with fail;rw[<-hW0];clear hW0 t0 t1 t2 t3 t4 hk1 hk2 hk3 hk4 hk5 hk6 hkl' hcK;have HAA:Hid (∀d os,Calls prog 98 #[v0,vT,.slice (some ⟨b,off,none⟩) rows.length capE,.int .i64 i0,vK,vR,.agg #[.string f.a,.string f.b,.string f.r,.string f.c,.string f.d]] (grow (redrawn W0 d) os) fun e w''=>e=.returned (.bool b0)/\∃p:Regrown,w''=grow (redrawn W0 p.d) p.os):=by
  refine dA fun W' hb=>?_;exact HA.out _ (HB0.out.trans (hb.mono HB0.out.size))
 have HBQ:Hid (∀d os,Calls prog 98 #[v0,vT,.slice (some ⟨b,off,none⟩) rows.length capE,.int .i64 i1,vR,vR,.agg #[.string f.a,.string f.b,.string f.r,.string f.c,.string f.d]] (grow (redrawn W0 d) os) fun e w''=>e=.returned (.bool b1)/\∃p:Regrown,w''=grow (redrawn W0 p.d) p.os):=by
  refine dA fun W' hb=>?_;exact Yq.out _ (HB0.out.trans (hb.mono HB0.out.size))
 have c0:=cell_regrown YV.out.f0;have c1:=cell_regrown YV.out.f1;have c2:=cell_regrown YV.out.f2;have c3:=cell_regrown YV.out.f3;have c4:=cell_regrown YV.out.f4;have x4:=cell_regrown HX4.out;have z0:=cell_regrown HZ.out.1;have z1:=cell_regrown HZ.out.2.1;clear HA Yq YV;cases b0;case true=>
  refine wp_region_quiet_below (by kernel_rfl) (by kernel_rfl) ?_
  iterate 11 (go_big_quiet_step (exact HAA.out _ _))
  repeat(go_big_quiet_step (exact HBQ.out _ _))
  refine wpQuiet_nil ?_;rintro _ ⟨⟨dq,osq⟩,rfl⟩;go_wp2;go_ret;exact⟨rfl,HB0.out.trans ((below_regrown W0 dq osq).mono HB0.out.size)⟩
 refine wp_region_quiet_below (by kernel_rfl) (by kernel_rfl) ?_
 repeat(go_big_quiet_step (exact HAA.out _ _))
 refine wpQuiet_nil ?_;rintro _ ⟨⟨dq,osq⟩,rfl⟩;go_wp2;go_ret;exact⟨rfl,HB0.out.trans ((below_regrown W0 dq osq).mono HB0.out.size)⟩
end Go.Proofs.YtajkkeikihhejaaGreat
