/- Contract of the document's function on strata: the walk. -/
import Derived.Test.YtojjoblnpldniaaGreatSq
import Derived.Test.YtojjoblnpldniaaGreatJ10
open Go.Proofs.Tryz
set_option maxHeartbeats 80000000
namespace Go.Proofs.YtojjoblnpldniaaGreat
open ChangeShapes WideShapes ChangeAt RowKit
open Pl
set_option maxRecDepth 100000 in
theorem vz(ad:Q02)(cap:Nat)(rs:Q06)(w:ae)(hlen:rs.length<=6)(hs:mP w ad rs)(hl:∀r∈rs,r.light)(hrl:∀r∈rs,r.rows.length<=6)(hel:∀r∈rs,∀q∈r.rows,q.rows.length<=15/\∀e∈q.rows,eT q.rows.length e.e.kids)(hF:Found (af rs)):
    Calls prog 144 #[.slice ad rs.length cap] w fun e w'=>((∃WS cap' out,e=.returned (.tuple #[.slice WS out.length cap',.bool true])/\Jd w' WS out/\iy out=ak (af rs)/\Least (af rs) (fJ out))\/(e=.returned (.tuple #[.slice none 0 0,.bool false])/\¬ ∃f,Sol (af rs) f))/\ag w w':=by
  have HS:=aC hs;have HL:=aC hl;have HRL:Hid (∀r∈rs,r.rows.length<=6):=hrl;have Yo:Hid (∀r∈rs,∀q∈r.rows,q.rows.length<=15/\∀e∈q.rows,eT q.rows.length e.e.kids):=hel;have HF:=aC hF;clear hs hl hrl hel hF;obtain⟨i0,hi,hz0,hz1,hz2⟩:=info_parts RO;go_enter func144,ntmps144;have hbA:Hid (ag w (w.alloc (.cells #[] 212))):=(Vs _ _).alloc (Vr _) _;have hown1:Hid ((w.alloc (.cells #[] 212)).ownsRow w.heap.size 212 3 (.slice (some ⟨w.heap.size,0,none⟩) 0 0) 0 []):=World.ownsRow_made w #[] 0 (Vr _) (by decide) rfl;go_wp2_with fail;go_loopw[4,5] (fun v i wr=>∃k:Nat,k<=rs.length/\i=.int .i64 k/\Hid (wr.ownsRow w.heap.size 212 3 v (dB rs k).length (iB (Gx (dB rs k))))/\Hid (ag w wr)) (fun _ i _=>rs.length-(intOf i).toNat);case atStart=>exact⟨0,Vv _,rfl,hown1,hbA⟩
  clear hown1 hbA;obtain⟨k,hk,rfl,HOW,HB⟩:=hrel;by_cases hlt:k<rs.length
  · have hk1:=bC k;have hk2:(k:Int)<(rs.length:Int):=by omega
    have HU:Hid ((dB rs k).length<=k*6):=wW rs HRL.out k;have Ym:Hid (rs[k].rows.length<=6):=HRL.out _ (Vp hlt);obtain⟨wo,hwo⟩:∃wo,wo=wr:=⟨_,rfl⟩;subst hwo;go_wp2_with fail;go_loopw[4,6] (fun v i w2=>∃j:Nat,j<=rs[k].rows.length/\i=.int .i64 j/\Hid (w2.ownsRow w.heap.size 212 3 v (dB rs k++iV rs[k] j).length (iB (Gx (dB rs k++iV rs[k] j))))/\Hid (ag w w2)) (fun _ i _=>rs[k].rows.length-(intOf i).toNat);case atStart=>exact⟨0,Vv _,rfl,(by simpa[iV] using HOW),HB⟩
    obtain⟨j,hj,rfl,WL,HB2⟩:=hrel;rcases HS.out.below HB2.out with rfl|⟨b,off,rfl,hb,hr,hok⟩
    · simp at hlt
    have hbw:b<w.heap.size:=by
      rcases HS.out with h|⟨b',off',e,hb',-⟩
      · rw[h]at hlt;simp at hlt
      · injection e with e;injection e with e1 e2;omega
    obtain⟨t0,t1⟩:=hr k hlt;have XN:Hid (rs[k].ok _):=hok rs[k] (Vp hlt);have HOKW:Hid (rs[k].ok w):=HS.out.mem (Vp hlt);clear hr hok;by_cases hjl:j<rs[k].rows.length
    · rcases XN.out with hnil|⟨b2,Xd,had,hb2,hr2,-⟩
      · rw[hnil]at hjl;simp at hjl
      have hbw2:b2<w.heap.size:=by
        rcases HOKW.out with h|⟨b',off',e,hb',-⟩
        · rw[h]at hjl;simp at hjl
        · rw[had]at e;injection e with e;injection e with e1 e2;omega
      have t1':=t1;rw[had]at t1';obtain⟨q0,q1⟩:=hr2 j hjl;have hj1:=bC j;have hj2:(j:Int)<(rs[k].rows.length:Int):=by omega
      have a1:u4.ownBlock≠some b:=fun e=>by have:=(WL.out.lt _ e).1;omega
      have a2:u4.ownBlock≠some b2:=fun e=>by have:=(WL.out.lt _ e).1;omega
      have l4:w.heap.size<=wr.heap.size:=HB2.out.size;obtain⟨xs,hxs⟩:∃xs,xs=iB (Gx (dB rs k++iV rs[k] j)):=⟨_,rfl⟩;obtain⟨n,hn⟩:∃n,n=(dB rs k++iV rs[k] j).length:=⟨_,rfl⟩;have hown:=WL.out;rw[<-hxs,<-hn]at hown;have hnl:n<=1000:=by
        have h1:=HU.out;have h2:=Dj rs[k] j;have h3:=Ym.out;rw[hn,Vx];omega
      have HFX:Hid (iB (Gx (dB rs k++iV rs[k] (j+1)))=xs++[.string rs[k].name,.string rs[k].rows[j].name,.int .i64 0]):=by
        show _=_;rw[ut _ _ hjl,<-VU,PE,Af,<-hxs];rfl
      have YP:Hid ((dB rs k++iV rs[k] (j+1)).length=n+1):=by show _=_;rw[ut _ _ hjl,<-VU,Vx,<-hn];rfl
      clear hr2 had t1 hxs hn WL;go_wp2_with fail
      go_region_held3 (fun w'=>w'.cell? ⟨b,off+k*2,none⟩=some (.string rs[k].name)/\w'.cell? ⟨b,off+k*2+1,none⟩=some (.slice (some ⟨b2,Xd,none⟩) rs[k].rows.length rs[k].cap)/\w'.cell? ⟨b2,Xd+j*2,none⟩=some (.string rs[k].rows[j].name))
        (first
          | go_keep
          | (go_split_ands
             refine⟨?_,?_,?_⟩
             · (rw[hgrow.cell_far _ (by simp;omega) (Ne.symm a1)];assumption)
             · (rw[hgrow.cell_far _ (by simp;omega) (Ne.symm a1)];assumption)
             · (rw[hgrow.cell_far _ (by simp;omega) (Ne.symm a2)];assumption)))
        ((refine step_append_lies _ (by rfl) _ _ _ (by rfl) w.heap.size 212 i0 _ 3 40 underlying208 hi hz0 hz1 hz2 rfl (by omega) u4 n xs (by rfl) ((hown.alloc _).drew)
            ⟨wr.heap.size,0,none⟩ 1 1 [.string rs[k].name,.string rs[k].rows[j].name,.int .i64 0] (by rfl) (by rfl) (World.news_of_block (cs:=#[.string rs[k].name,.string rs[k].rows[j].name,.int .i64 0]) (t:=212) (fr:=(0,0)) (heap_alloc_new wr _)) (by simp[Value.oneCell'])
            (by omega) (by unfold maxLen;omega) (by omega) (by simp;omega) (wr.heap.size+1) (by simp) ?_;intro gg cp w5 hown5 hgrow hat hlt5))
      have hb5:Hid (ag w w5):=((HB2.out.alloc HB2.out.size _).drew).grown hgrow (by simp;omega) (fun i hi=>(hown.lt i hi).1);have WV:Hid (w5.ownsRow w.heap.size 212 3 (.slice (some ⟨gg,0,none⟩) (n+1) cp) (dB rs k++iV rs[k] (j+1)).length (iB (Gx (dB rs k++iV rs[k] (j+1))))):=by
        show World.ownsRow _ _ _ _ _ _ _;rw[HFX.out,YP.out];exact hown5
      have h6:=Ym.out;clear hown5 hgrow hat hown;go_wp2;go_roundw;case rel=>exact⟨j+1,by omega,by go_num,WV,hb5⟩
      simp[intOf]<;>omega
    · obtain rfl:j=rs[k].rows.length:=by omega
      have WV:Hid (wr.ownsRow w.heap.size 212 3 u4 (dB rs (k+1)).length (iB (Gx (dB rs (k+1))))):=by
        show World.ownsRow _ _ _ _ _ _ _;rw[pg _ _ hlt];exact WL.out
      clear WL;go_wp2;go_roundw;case rel=>exact⟨k+1,by omega,by go_num,WV,HB2⟩
      simp[intOf]<;>omega
  · obtain rfl:k=rs.length:=by omega
    have YJ:Hid (dB rs rs.length=ak (af rs)):=by show _=_;unfold dB;rw[VI]
    have HN36:Hid ((ak (af rs)).length<=36):=by
      have h1:=wW rs HRL.out rs.length;have h2:=YJ.out;show _<=_;rw[<-h2];omega
    obtain⟨n,hn⟩:∃n,n=(ak (af rs)).length:=⟨_,rfl⟩;have hown:=HOW.out;rw[YJ.out,<-EP]at hown;obtain⟨Yp,cpO,g,rfl,hrow⟩:=RQ HB.out hown;have HP0:Hid (Pass (af rs) n true (Gx (ak (af rs)))):=Pass.zero hn;have XI:=aC hrow;have hn36:n<=36:=by rw[hn];exact HN36.out
    have YP:Hid (n=(ak (af rs)).length):=hn;rw[EP,<-hn];clear hown HOW hrow hn YJ HN36 HB;go_wp2_with fail;go_loopw[7] (fun m w1=>∃(mb:Bool) (out:List St),m=.bool mb/\Hid (Pass (af rs) n mb out)/\Hid (RowS w w1 Yp g out)) (fun m w1=>Dk w1 g n m);case atStart=>exact⟨true,_,rfl,HP0,XI⟩
    clear HP0 XI;obtain⟨mb,oS,rfl,HPS,HRS⟩:=hrel;cases mb;case false=>
      go_wp2;exact bodyPost_ret (v:=.tuple #[.slice Yp n cpO,.bool true]) (by simp[results,Tryz.results144,go_sem]) rfl ⟨.inl ⟨Yp,cpO,oS,by rw[HPS.out.len],HRS.out.slN,HPS.out.round.keys,HPS.out.least⟩,HRS.out.below⟩
    have Zc:Hid (oS.length=n):=HPS.out.len;have HM0:Hid (Mid (af rs) n oS 0 0 false oS):=Mid.start HPS.out.len HPS.out.nn HPS.out.round HPS.out.le;obtain⟨w0,hw0⟩:∃w0,w0=wr:=⟨_,rfl⟩;subst hw0;go_wp2_with fail;go_loopw[7,8] (fun m i w1=>∃(mb:Bool) (k:Nat) (out:List St),m=.bool mb/\k<=n/\i=.int .i64 k/\Hid (Mid (af rs) n oS k 0 mb out)/\Hid (RowS w w1 Yp g out)) (fun _ i _=>n-(intOf i).toNat);case atStart=>exact⟨false,0,oS,rfl,Vv _,rfl,HM0,HRS⟩
    clear HM0;obtain⟨mb,k,out,rfl,hk,rfl,HM,HR⟩:=hrel;by_cases hlt:k<n
    · have hko:k<out.length:=by rw[HM.out.len];exact hlt
      have hke:k<(ak (af rs)).length:=by rw[<-YP.out];exact hlt
      have hk1:=bC k;have hk2:(k:Int)<(n:Int):=by omega
      rcases HR.out.at' with e|⟨rfl,hgw,hgl,hO,-⟩
      · rw[e]at hko;simp at hko
      obtain⟨c0,c1,c2⟩:=hO k hko;have HKE:Hid (out[k].key=(ak (af rs))[k]):=HM.out.key hko hke;have WP:∀w',ag wr w'->mP w' ad rs:=fun w' h=>HS.out.below (HR.out.below.trans (h.mono HR.out.below.size));have c3:wr.drew.cell? ⟨g,k*3,none⟩=some (.string out[k].typ)/\wr.drew.cell? ⟨g,k*3+1,none⟩=some (.string out[k].rel)/\g<wr.drew.heap.size/\ag wr wr.drew:=⟨c0,c1,hgl,(Vs _ _).drew⟩;clear hO c2;go_wp2_with fail
      go_region_held3 (fun w'=>w'.cell? ⟨g,k*3,none⟩=some (.string out[k].typ)/\w'.cell? ⟨g,k*3+1,none⟩=some (.string out[k].rel)/\g<w'.heap.size/\ag wr w')
        (first|exact c3|assumption|exact keepD (by assumption) hbx)
        (first|(go_at_call 101;refine(jf ad cap rs _ _ _ (by omega) (WP _ (by first|assumption|exact c3.2.2.2)) HL.out).mono ?_;rintro e w' ⟨⟨rows,WM,capE,rfl,hex,hse,hfs⟩,rfl⟩)|(go_at_call 218;refine(Je ad WM cap capE rs _ rows _ (by omega) (WP _ (by first|assumption|exact c3.2.2.2)) HL.out (hfs.small Yo.out).1 hse (hfs.light HL.out).2 (hfs.small Yo.out).2 (Ai rs HL.out _ rows (hfs.small Yo.out).1 (hfs.light HL.out).2)).mono ?_;rintro e w' ⟨⟨v,rfl,hown⟩,hbx⟩))
      rename_i hHeld;have XD:Hid (ag wr w'):=hHeld.2.2.2;have Xo:Hid (RowS w w' (some ⟨g,0,none⟩) g out):=HR.out.kept hHeld.2.2.2;have HDK:Hid (pX (af rs) out[k].typ (aj rows)=ib (af rs) (ak (af rs))[k]):=by
        show _=_;rw[<-HKE.out,hex];rfl
      obtain⟨ds,hds⟩:∃ds,ds=ib (af rs) (ak (af rs))[k]:=⟨_,rfl⟩;rw[HDK.out,<-hds]at hown;obtain⟨adD,cpD,rfl,hD⟩:=UW hown;have HD5:=aC hD;have hdl:ds.length<=100000000:=by
        have:=Ai rs HL.out out[k].typ rows (hfs.small Yo.out).1 (hfs.light HL.out).2 (aj rows).length;have e:=HDK.out;unfold pX at e;rw[e,<-hds]at this;exact this
      have HDS:Hid (ds=ib (af rs) (ak (af rs))[k]):=hds;have HKM:Hid ((ak (af rs))[k]∈ak (af rs)):=Vp hke;clear hHeld hown hD hds HDK c0 c1 c3 hex hse hfs hbx WP HKE;obtain⟨wq,hwq⟩:∃wq,wq=wr:=⟨_,rfl⟩;subst hwq;go_wp2_with fail;go_loopw[7,10] (fun m i w2=>∃(mb:Bool) (j:Nat) (o2:List St),m=.bool mb/\j<=ds.length/\i=.int .i64 j/\Hid (Mid (af rs) n oS k j mb o2)/\Hid (RowS w w2 (some ⟨g,0,none⟩) g o2)/\Hid (Tw w2 wq.heap.size adD ds)) (fun _ i _=>ds.length-(intOf i).toNat);case atStart=>exact⟨mb,0,out,rfl,Vv _,rfl,HM,Xo,HD5⟩
      clear HM HR Xo HD5 XD;obtain⟨mc,j,o2,rfl,hj,rfl,Xr,HR2,HD2⟩:=hrel;have XV:k<o2.length:=by rw[Xr.out.len];exact hlt
      rcases HR2.out.at' with e|⟨-,hgw2,hgl2,hO2,hfz2⟩
      · rw[e]at XV;simp at XV
      have f2:=hfz2 (k*3+2);obtain⟨z0,z1,z2⟩:=hO2 k XV;by_cases hjl:j<ds.length
      · rcases HD2.out with e|⟨bd,rfl,hbd,hbl,hDc⟩
        · rw[e]at hjl;simp at hjl
        obtain⟨x0,x1,x2⟩:=hDc j hjl;have HKE2:Hid (o2[k].key=(ak (af rs))[k]):=Xr.out.key XV hke;have HDJ:Hid ((ib (af rs) o2[k].key)[j]?=some ds[j]):=by
          show _=_;rw[HKE2.out,<-HDS.out];exact Vy hjl
        have HDF:Hid ((ds[j].typ,ds[j].rel)∈ak (af rs)):=HF.out _ HKM.out ds[j] (by rw[<-HDS.out];exact Vp hjl);obtain⟨i,hi2,hat,hin,hpos,hub⟩:=Xr.out.at _ HDF.out;obtain⟨y0,y1,y2⟩:=hO2 i hi2;have hi3:i<n:=by rw[<-Xr.out.len];exact hi2
        have HW:Hid (pq o2 ds[j]=fJ o2 (ds[j].typ,ds[j].rel)+stepOf ds[j]):=rfl;have HL2:Hid (o2.length=n):=Xr.out.len;have HSN:Hid (Jd wr (some ⟨g,0,none⟩) o2):=HR2.out.slN;rw[hin]at y2;obtain⟨x,hx⟩:∃x,x=fJ o2 (ds[j].typ,ds[j].rel):=⟨_,rfl⟩;have HX:Hid (pq o2 ds[j]=x+stepOf ds[j]):=by rw[hx];exact HW
        rw[<-hx]at hpos hub y2;obtain⟨kn,hkn⟩:∃kn,kn=o2[k].n:=⟨_,rfl⟩;rw[<-hkn]at z2;have HKN:Hid (kn=o2[k].n):=hkn;have hkn1:0<=kn:=by rw[hkn];exact Xr.out.round.pos _ (Vp XV)
        have hkn2:kn<=n+1+j:=by rw[hkn];exact Xr.out.lek XV
        have hj1:=bC j;have hj2:(j:Int)<(ds.length:Int):=by omega
        have hi4:=bC i;have hi5:(i:Int)<(n:Int):=by omega
        have HAT:Hid (gI ds[j].typ ds[j].rel o2 0=(i:Int)):=hat;have hx5:(2:Int)<5:=by omega
        clear hfz2 hO2 hDc hx hkn hin y0 y1 hi2 HW hat z0 z1;go_wp2_with fail
        go_region_held3 (fun w'=>w'.cell? ⟨bd,j*3,none⟩=some (.string ds[j].typ)/\w'.cell? ⟨bd,j*3+1,none⟩=some (.string ds[j].rel)/\w'.cell? ⟨g,i*3+2,none⟩=some (.int .i64 x))
          (first|assumption|exact⟨x0,x1,y2⟩)
          (first|(go_at_call 219;refine(Ua (some ⟨g,0,none⟩) cpO n o2 (ds[j].typ,ds[j].rel) _ HL2.out (by omega) (by first|exact HSN.out|assumption) i HAT.out).mono ?_;rintro e w' ⟨rfl,rfl⟩))
        rename_i hHeld2;have HR3:Hid (RowS w wr.drew (some ⟨g,0,none⟩) g o2):=HR2.out.kept ((Vs _ _).drew);have HD3:Hid (Tw wr.drew wq.heap.size (some ⟨bd,0,none⟩) ds):=HD2.out;clear hHeld2 x0 x1 y2;cases hneg:ds[j].neg
        case' true =>
          have YK:Hid (pq o2 ds[j]=x+1):=by show _=_;rw[HX.out];simp[stepOf,hneg]
          rw[hneg]at x2;by_cases hgt:kn<x+1
          · have ZW:Hid (Mid (af rs) n oS k (j+1) true (o2.set k ⟨o2[k].typ,o2[k].rel,x+1⟩)):=by
              have:=Xr.out.yes HF.out XV ds[j] HDJ.out (by rw[YK.out,<-HKN.out];exact hgt);rw[YK.out]at this;exact this
            have HR4:Hid (RowS w (wr.drew.setCell ⟨g,k*3+2,none⟩ (.int .i64 (x+1))) (some ⟨g,0,none⟩) g (o2.set k ⟨o2[k].typ,o2[k].rel,x+1⟩)):=HR3.out.set XV (x+1);have HD4:Hid (Tw (wr.drew.setCell ⟨g,k*3+2,none⟩ (.int .i64 (x+1))) wq.heap.size (some ⟨bd,0,none⟩) ds):=HD3.out.set hgl;clear Xr HR2 HR3 HD2 HD3;go_wp2;go_roundw;case rel=>exact⟨true,j+1,_,rfl,by omega,by go_num,ZW,HR4,HD4⟩
            simp[intOf]<;>omega
        case' false =>
          have YK:Hid (pq o2 ds[j]=x):=by show _=_;rw[HX.out];simp[stepOf,hneg]
          rw[hneg]at x2;by_cases hgt:kn<x
          · have ZW:Hid (Mid (af rs) n oS k (j+1) true (o2.set k ⟨o2[k].typ,o2[k].rel,x⟩)):=by
              have:=Xr.out.yes HF.out XV ds[j] HDJ.out (by rw[YK.out,<-HKN.out];exact hgt);rw[YK.out]at this;exact this
            have HR4:Hid (RowS w (wr.drew.setCell ⟨g,k*3+2,none⟩ (.int .i64 (x))) (some ⟨g,0,none⟩) g (o2.set k ⟨o2[k].typ,o2[k].rel,x⟩)):=HR3.out.set XV (x);have HD4:Hid (Tw (wr.drew.setCell ⟨g,k*3+2,none⟩ (.int .i64 (x))) wq.heap.size (some ⟨bd,0,none⟩) ds):=HD3.out.set hgl;clear Xr HR2 HR3 HD2 HD3;go_wp2;go_roundw;case rel=>exact⟨true,j+1,_,rfl,by omega,by go_num,ZW,HR4,HD4⟩
            simp[intOf]<;>omega
        all_goals
          · have ZW:Hid (Mid (af rs) n oS k (j+1) mc o2):=Xr.out.no XV ds[j] HDJ.out (by rw[YK.out,<-HKN.out];omega);clear Xr HR2 HD2;go_wp2;go_roundw;case rel=>exact⟨mc,j+1,o2,rfl,by omega,by go_num,ZW,HR3,HD3⟩
            simp[intOf]<;>omega
      · obtain rfl:j=ds.length:=by omega
        have HKE2:Hid (o2[k].key=(ak (af rs))[k]):=Xr.out.key XV hke;have HJ:Hid (ds.length=(ib (af rs) o2[k].key).length):=by show _=_;rw[HKE2.out,<-HDS.out]
        clear z0 z1 hO2 hfz2 f2;by_cases hov:(n:Int)<o2[k].n
        · have YD:Hid (¬ ∃f,Sol (af rs) f):=Xr.out.over HF.out XV hov;have hkn2:o2[k].n<=n+1+ds.length:=Xr.out.lek XV;go_wp2;exact bodyPost_ret (v:=.tuple #[.slice none 0 0,.bool false]) (by simp[results,Tryz.results144,go_sem]) rfl ⟨.inr ⟨rfl,YD.out⟩,HR2.out.below⟩
        · have ZW:Hid (Mid (af rs) n oS (k+1) 0 mc o2):=Xr.out.next XV HJ.out (by omega);clear Xr;go_wp2;go_roundw;case rel=>exact⟨mc,k+1,o2,rfl,by omega,by go_num,ZW,HR2⟩
          simp[intOf]<;>omega
    · obtain rfl:k=n:=by omega
      have WQ:Hid (Pass (af rs) k mb out):=HM.out.done rfl;have HLS:Hid (Dk wr g k (.bool mb)<Dk w0 g k (.bool true)):=Jt HRS.out HR.out HM.out Zc.out;go_wp2;go_roundw;case rel=>exact⟨mb,out,rfl,WQ,HR⟩
      exact HLS.out
end Go.Proofs.YtojjoblnpldniaaGreat
